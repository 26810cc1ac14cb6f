/-
  What the document's own one and Put answer: a value's bytes, a row's bytes, or the first error. Conditions: the bounds named in each theorem.
-/
import Derived.Test.YtmgdciihpjifgaaGreatDoorQpRkPut
namespace Go.Proofs.YtmgdciihpjifgaaGreatDoor.Rk
open Go.RowKit

theorem ow_new (W : World) (c : UInt8) : Ow (W.alloc (.cells #[.int .u8 (c.toNat : Int)] 5)) W.heap.size (.slice (some ⟨W.heap.size, 0, none⟩) 1 1) [c] :=
  .inr ⟨W.heap.size, 1, #[.int .u8 (c.toNat : Int)], (0, 0), rfl, Nat.le_refl _, Go.heap_alloc_new W _, clear0 _, Nat.le_refl _, by decide, rfl, rfl⟩
theorem conv1 (W : World) (c : UInt8) (x : Int) (h : x = (c.toNat : Int)) : (convert 102 9 (.slice (some ⟨W.heap.size, 0, none⟩) 1 1)).run Tryz.prog (W.alloc (.cells #[.int .u8 x] 5)) = .ok (.string ⟨[c].toArray⟩) (W.alloc (.cells #[.int .u8 x] 5)) := by
  subst h; exact conv_own _ (ow_new W c)
theorem two_allocs {w w' : World} {o o' : Obj} (h : Below ((w.alloc o).alloc o').heap.size ((w.alloc o).alloc o') w') : Below w.heap.size w w' := old_2 h

set_option maxHeartbeats 1000000 in
theorem one_0  (w : World)  :
    Calls Tryz.prog 75 #[.agg #[.int .i64 0, .int .i64 0, .int .u64 0, .string ⟨([] : List UInt8).toArray⟩]] w fun e w' => e = .returned (.string ⟨(pt 0 0 0 []).toArray⟩) ∧ Below w.heap.size w w' := by
  have cb := conv1 (w.alloc (Obj.cells #[.int .i64 0, .int .i64 0, .int .u64 0, .string ⟨([] : List UInt8).toArray⟩] 25)) (UInt8.ofNat (0 : Int).toNat) 0 rfl
  rw [World.size_alloc] at cb
  go_enter Tryz.func75, Tryz.ntmps75
  go_wp2
  go_ret
  exact ⟨rfl, below2s _ _ _⟩

set_option maxHeartbeats 1000000 in
theorem one_10  (w : World)  :
    Calls Tryz.prog 75 #[.agg #[.int .i64 1, .int .i64 0, .int .u64 0, .string ⟨([] : List UInt8).toArray⟩]] w fun e w' => e = .returned (.string ⟨(pt 1 0 0 []).toArray⟩) ∧ Below w.heap.size w w' := by
  have cb := conv1 (w.alloc (Obj.cells #[.int .i64 1, .int .i64 0, .int .u64 0, .string ⟨([] : List UInt8).toArray⟩] 25)) (UInt8.ofNat (1 : Int).toNat) 1 rfl
  rw [World.size_alloc] at cb
  go_enter Tryz.func75, Tryz.ntmps75
  have cc := conv1 ((w.alloc (Obj.cells #[.int .i64 1, .int .i64 0, .int .u64 0, .string ⟨([] : List UInt8).toArray⟩] 25)).alloc (.cells #[.int .u8 1] 5)) (UInt8.ofNat (0 : Int).toNat) 0 rfl
  rw [World.size_alloc, World.size_alloc] at cc
  go_wp2
  go_ret
  exact ⟨rfl, ((below2s _ _ _).alloc (below2s _ _ _).size _)⟩

set_option maxHeartbeats 1000000 in
theorem one_11  (w : World)  :
    Calls Tryz.prog 75 #[.agg #[.int .i64 1, .int .i64 1, .int .u64 0, .string ⟨([] : List UInt8).toArray⟩]] w fun e w' => e = .returned (.string ⟨(pt 1 1 0 []).toArray⟩) ∧ Below w.heap.size w w' := by
  have cb := conv1 (w.alloc (Obj.cells #[.int .i64 1, .int .i64 1, .int .u64 0, .string ⟨([] : List UInt8).toArray⟩] 25)) (UInt8.ofNat (1 : Int).toNat) 1 rfl
  rw [World.size_alloc] at cb
  go_enter Tryz.func75, Tryz.ntmps75
  have cc := conv1 ((w.alloc (Obj.cells #[.int .i64 1, .int .i64 1, .int .u64 0, .string ⟨([] : List UInt8).toArray⟩] 25)).alloc (.cells #[.int .u8 1] 5)) (UInt8.ofNat (1 : Int).toNat) 1 rfl
  rw [World.size_alloc, World.size_alloc] at cc
  go_wp2
  go_ret
  exact ⟨rfl, ((below2s _ _ _).alloc (below2s _ _ _).size _)⟩

set_option maxHeartbeats 1000000 in
theorem one_2 (n : Int) (w : World) (hn : -9223372036854775808 ≤ n ∧ n ≤ 9223372036854775807) :
    Calls Tryz.prog 75 #[.agg #[.int .i64 2, .int .i64 n, .int .u64 0, .string ⟨([] : List UInt8).toArray⟩]] w fun e w' => e = .returned (.string ⟨(pt 2 n 0 []).toArray⟩) ∧ Below w.heap.size w w' := by
  have HN := Lib.hid hn
  clear hn
  have cb := conv1 (w.alloc (Obj.cells #[.int .i64 2, .int .i64 n, .int .u64 0, .string ⟨([] : List UInt8).toArray⟩] 25)) (UInt8.ofNat (2 : Int).toNat) 2 rfl
  rw [World.size_alloc] at cb
  go_enter Tryz.func75, Tryz.ntmps75
  go_wp2_with fail
  refine (rint_any n _ HN.out.1 HN.out.2).mono ?_
  rintro e w2 ⟨rfl, hb⟩
  have B9 := Lib.hid (two_allocs hb)
  clear hb
  have hR : (Pk.un (Pk.zz n)).length ≤ 200 := by have := un_len (Pk.zz n); omega
  have cat := cat_list [UInt8.ofNat (2 : Int).toNat] (Pk.un (Pk.zz n))
  obtain ⟨R, hRe⟩ : ∃ R, Pk.un (Pk.zz n) = R := ⟨_, rfl⟩
  rw [hRe] at hR cat ⊢
  have hd : (9223372036854775807 < 1 + R.length) = False := by rw [eq_iff_iff, iff_false]; omega
  have HR := Lib.hid hRe
  clear hR hRe
  go_wp2
  go_ret
  exact ⟨by show Ending.returned (.string (ByteArray.mk [UInt8.ofNat (2 : Int).toNat].toArray ++ ⟨R.toArray⟩)) = _; rw [cat, ← HR.out]; rfl, B9.out⟩

set_option maxHeartbeats 1000000 in
theorem one_3 (b : Int) (w : World) (hU : Rl.U b) :
    Calls Tryz.prog 75 #[.agg #[.int .i64 3, .int .i64 0, .int .u64 b, .string ⟨([] : List UInt8).toArray⟩]] w fun e w' => e = .returned (.string ⟨(pt 3 0 b []).toArray⟩) ∧ Below w.heap.size w w' := by
  have HN := Lib.hid hU
  clear hU
  have cb := conv1 (w.alloc (Obj.cells #[.int .i64 3, .int .i64 0, .int .u64 b, .string ⟨([] : List UInt8).toArray⟩] 25)) (UInt8.ofNat (3 : Int).toNat) 3 rfl
  rw [World.size_alloc] at cb
  go_enter Tryz.func75, Tryz.ntmps75
  go_wp2_with fail
  refine (eight_x b b.toNat _ (by have := HN.out; unfold Rl.U at this; omega)).mono ?_
  rintro e w2 ⟨rfl, hb⟩
  have B9 := Lib.hid (two_allocs hb)
  clear hb
  have hR : (Kc.bn 8 b.toNat).length ≤ 200 := by rw [Kc.bn_len]; decide
  have cat := cat_list [UInt8.ofNat (3 : Int).toNat] (Kc.bn 8 b.toNat)
  obtain ⟨R, hRe⟩ : ∃ R, Kc.bn 8 b.toNat = R := ⟨_, rfl⟩
  rw [hRe] at hR cat ⊢
  have hd : (9223372036854775807 < 1 + R.length) = False := by rw [eq_iff_iff, iff_false]; omega
  have HR := Lib.hid hRe
  clear hR hRe
  go_wp2
  go_ret
  exact ⟨by show Ending.returned (.string (ByteArray.mk [UInt8.ofNat (3 : Int).toNat].toArray ++ ⟨R.toArray⟩)) = _; rw [cat, ← HR.out]; rfl, B9.out⟩

set_option maxHeartbeats 1000000 in
theorem one_4 (s : List UInt8) (w : World) (hs : s.length ≤ 64) :
    Calls Tryz.prog 75 #[.agg #[.int .i64 4, .int .i64 0, .int .u64 0, .string ⟨(s : List UInt8).toArray⟩]] w fun e w' => e = .returned (.string ⟨(pt 4 0 0 s).toArray⟩) ∧ Below w.heap.size w w' := by
  have HN := Lib.hid hs
  clear hs
  have cb := conv1 (w.alloc (Obj.cells #[.int .i64 4, .int .i64 0, .int .u64 0, .string ⟨(s : List UInt8).toArray⟩] 25)) (UInt8.ofNat (4 : Int).toNat) 4 rfl
  rw [World.size_alloc] at cb
  go_enter Tryz.func75, Tryz.ntmps75
  go_wp2_with fail
  refine (rtext_any s _ (by have := HN.out; omega)).mono ?_
  rintro e w2 ⟨rfl, hb⟩
  have B9 := Lib.hid (two_allocs hb)
  clear hb
  have hR : (Pk.tx s).length ≤ 200 := by have := un_len s.length; have := HN.out; unfold Pk.tx; rw [List.length_append]; omega
  have cat := cat_list [UInt8.ofNat (4 : Int).toNat] (Pk.tx s)
  obtain ⟨R, hRe⟩ : ∃ R, Pk.tx s = R := ⟨_, rfl⟩
  rw [hRe] at hR cat ⊢
  have hd : (9223372036854775807 < 1 + R.length) = False := by rw [eq_iff_iff, iff_false]; omega
  have HR := Lib.hid hRe
  clear hR hRe
  go_wp2
  go_ret
  exact ⟨by show Ending.returned (.string (ByteArray.mk [UInt8.ofNat (4 : Int).toNat].toArray ++ ⟨R.toArray⟩)) = _; rw [cat, ← HR.out]; rfl, B9.out⟩

set_option maxHeartbeats 1000000 in
theorem one_5 (s : List UInt8) (w : World) (hs : s.length ≤ 64) :
    Calls Tryz.prog 75 #[.agg #[.int .i64 5, .int .i64 0, .int .u64 0, .string ⟨(s : List UInt8).toArray⟩]] w fun e w' => e = .returned (.string ⟨(pt 5 0 0 s).toArray⟩) ∧ Below w.heap.size w w' := by
  have HN := Lib.hid hs
  clear hs
  have cb := conv1 (w.alloc (Obj.cells #[.int .i64 5, .int .i64 0, .int .u64 0, .string ⟨(s : List UInt8).toArray⟩] 25)) (UInt8.ofNat (5 : Int).toNat) 5 rfl
  rw [World.size_alloc] at cb
  go_enter Tryz.func75, Tryz.ntmps75
  go_wp2_with fail
  refine (rtext_any s _ (by have := HN.out; omega)).mono ?_
  rintro e w2 ⟨rfl, hb⟩
  have B9 := Lib.hid (two_allocs hb)
  clear hb
  have hR : (Pk.tx s).length ≤ 200 := by have := un_len s.length; have := HN.out; unfold Pk.tx; rw [List.length_append]; omega
  have cat := cat_list [UInt8.ofNat (5 : Int).toNat] (Pk.tx s)
  obtain ⟨R, hRe⟩ : ∃ R, Pk.tx s = R := ⟨_, rfl⟩
  rw [hRe] at hR cat ⊢
  have hd : (9223372036854775807 < 1 + R.length) = False := by rw [eq_iff_iff, iff_false]; omega
  have HR := Lib.hid hRe
  clear hR hRe
  go_wp2
  go_ret
  exact ⟨by show Ending.returned (.string (ByteArray.mk [UInt8.ofNat (5 : Int).toNat].toArray ++ ⟨R.toArray⟩)) = _; rw [cat, ← HR.out]; rfl, B9.out⟩

theorem one_is (k n b : Int) (s : List UInt8) (w : World) (h : Vl.ck k n b s = 0) (hU : Rl.U b) (hn : -9223372036854775808 ≤ n ∧ n < 9223372036854775808) :
    Calls Tryz.prog 75 #[.agg #[.int .i64 k, .int .i64 n, .int .u64 b, .string ⟨(s : List UInt8).toArray⟩]] w fun e w' => e = .returned (.string ⟨(pt k n b s).toArray⟩) ∧ Below w.heap.size w w' := by
  rcases ck_ways h with ⟨rfl, rfl, rfl, rfl⟩ | ⟨rfl, rfl, rfl, rfl⟩ | ⟨rfl, rfl, rfl, rfl⟩ | ⟨rfl, rfl, rfl⟩ | ⟨rfl, rfl, rfl⟩ | ⟨rfl, rfl, rfl, hs⟩ | ⟨rfl, rfl, rfl, hs⟩
  · exact one_0 w
  · exact one_10 w
  · exact one_11 w
  · exact one_2 n w (by omega)
  · exact one_3 b w hU
  · exact one_4 s w hs
  · exact one_5 s w hs

set_option maxHeartbeats 1000000 in
theorem dput_long (xs : List V) (ao : Option Addr) (cap : Nat) (w : World) (hl : 8 < xs.length) :
    Calls Tryz.prog 49 #[.slice ao xs.length cap] w fun e w' => e = .returned (.tuple #[.string ⟨(pw xs).toArray⟩, .int .i64 (pe xs)]) ∧ Below w.heap.size w w' := by
  have h1 : (8 : Int) < (xs.length : Int) := by omega
  have HR := Lib.hid (And.intro (pe_long hl) (pw_bad (by rw [pe_long hl]; decide)))
  clear hl
  go_enter Tryz.func49, Tryz.ntmps49
  go_wp2
  go_ret2
  exact ⟨ret_si (a := []) HR.out.2.symm HR.out.1.symm, Below.refl _ _⟩

set_option maxHeartbeats 2000000 in
theorem dput_short (xs : List V) (ao : Option Addr) (cap : Nat) (w : World) (h : Sl w ao xs) (hl : xs.length ≤ 8) (ho : ∀ x ∈ xs, x.ok) :
    Calls Tryz.prog 49 #[.slice ao xs.length cap] w fun e w' => e = .returned (.tuple #[.string ⟨(pw xs).toArray⟩, .int .i64 (pe xs)]) ∧ Below w.heap.size w w' := by
  have h1 : decide ((8 : Int) < (xs.length : Int)) = false := by rw [decide_eq_false_iff_not]; omega
  have hu : IntKind.u64.wrap (xs.length : Int) = (xs.length : Int) := wrap_u64 _ (by omega) (by omega)
  have H := Lib.hid (And.intro h (And.intro hl (And.intro ho (pe_short (xs := xs) (by omega)))))
  clear h hl ho
  go_enter Tryz.func49, Tryz.ntmps49
  go_wp2_with fail
  refine (ruint_is (xs.length : Int) (Pk.un xs.length) _ (by omega) (by have := H.out.2.1; omega) (by rw [Int.toNat_natCast])).mono ?_
  rintro e w1 ⟨rfl, hb⟩
  have S := Lib.hid hb
  clear hb
  go_wp2
  go_loopw [4, 5] (fun o i wr => ∃ (j : Nat) (R : List UInt8), i = .int .i64 j ∧ o = .string ⟨R.toArray⟩ ∧ j ≤ xs.length ∧ Below w.heap.size w wr ∧ R = Pk.un xs.length ++ rb (xs.take j) ∧ re (xs.take j) = 0) (fun _ i _ => xs.length - (intOf i).toNat)
  case atStart => exact ⟨0, Pk.un xs.length, rfl, rfl, Nat.zero_le _, S.out, by rw [show rb (xs.take 0) = [] from rfl, List.append_nil], rfl⟩
  case round =>
    obtain ⟨j, R, rfl, rfl, hj, hb, hR, hre⟩ := hrel
    have J := Lib.hid (And.intro hb (And.intro hR hre))
    clear hb hR hre
    by_cases hlt : j < xs.length
    · obtain ⟨a, rfl, h0, h1, h2, h3⟩ := H.out.1.below J.out.1 j xs[j] (List.getElem?_eq_getElem hlt)
      have hw : wrap64 ((j : Int) + 1) = (j : Int) + 1 := by have := H.out.2.1; exact wrap_in _ (by omega) (by omega)
      have hok := Lib.hid (H.out.2.2.1 _ (List.getElem_mem hlt))
      by_cases hc : xs[j].ck = 0
      · have HC := Lib.hid hc
        have h5 := rb_len (re_fine J.out.2.2)
        have h6 := pt_len (k := xs[j].k) (n := xs[j].n) (b := xs[j].b) (Vl.ck_ok hc).2.2.2.2.2.2.2
        rw [List.length_take] at h5
        have h7 := H.out.2.1
        have h8 := un_len xs.length
        have h9 : R.length = (Pk.un xs.length).length + (rb (xs.take j)).length := by rw [J.out.2.1, List.length_append]
        obtain ⟨T, hT⟩ : ∃ T, pt xs[j].k xs[j].n xs[j].b xs[j].s = T := ⟨_, rfl⟩
        have h6' : T.length ≤ 75 := by rw [← hT]; exact h6
        have hd : (9223372036854775807 < R.length + T.length) = False := by rw [eq_iff_iff, iff_false]; omega
        have cat := cat_list R T
        have HT := Lib.hid hT
        clear hc h5 h6 h7 hT h6' h8 h9
        go_wp2_with fail
        refine (rcheck_is _ _ _ 0 _ _ hok.out.1 HC.out).mono ?_
        rintro e w3 ⟨rfl, hb⟩
        have B0 := Lib.hid hb
        have c0 := keep0 h0 hb
        have c1 := keep0 h1 hb
        have c2 := keep0 h2 hb
        have c3 := keep0 h3 hb
        clear hb h0 h1 h2 h3
        go_wp2_with fail
        refine (one_is _ _ _ _ _ HC.out hok.out.1 hok.out.2).mono ?_
        rintro e w4 ⟨rfl, hb⟩
        have B1 := Lib.hid (step0 (step0 J.out.1 B0.out) hb)
        clear hb
        rw [HT.out]
        go_wp2
        go_roundw
        case rel => exact ⟨j + 1, R ++ T, by go_num, rfl, hlt, B1.out, by rw [take_next xs j hlt, rb_snoc, J.out.2.1, ← HT.out, List.append_assoc]; rfl, re_next xs j hlt J.out.2.2 HC.out⟩
        case measure => rw [hw]; simp [intOf]; omega
      · have HC := Lib.hid hc
        have r1 := bne_t hc
        have r2 := beq_f hc
        have HR := Lib.hid (re_stop xs j hlt J.out.2.2 hc)
        go_wp2_with fail
        refine (rcheck_is _ _ _ xs[j].ck _ _ hok.out.1 rfl).mono ?_
        rintro e w3 ⟨rfl, hb⟩
        have B1 := Lib.hid (step0 J.out.1 hb)
        clear hb
        go_wp2
        go_ret2
        exact ⟨ret_si (a := []) (pw_bad (by rw [H.out.2.2.2, HR.out]; exact HC.out)).symm (by rw [H.out.2.2.2, HR.out]), B1.out⟩
    · obtain rfl : j = xs.length := by omega
      have hO := J.out.2.1
      have hr := J.out.2.2
      rw [List.take_length] at hO hr
      have K := Lib.hid (And.intro (hO.trans (pw_ok (H.out.2.2.2.trans hr)).symm) (H.out.2.2.2.trans hr))
      clear hO hr
      go_wp2
      go_ret2
      exact ⟨ret_si K.out.1 K.out.2.symm, J.out.1⟩

theorem dput_is (xs : List V) (ao : Option Addr) (cap : Nat) (w : World) (h : Sl w ao xs) (ho : ∀ x ∈ xs, x.ok) :
    Calls Tryz.prog 49 #[.slice ao xs.length cap] w fun e w' => e = .returned (.tuple #[.string ⟨(pw xs).toArray⟩, .int .i64 (pe xs)]) ∧ Below w.heap.size w w' := by
  by_cases hl : 8 < xs.length
  · exact dput_long xs ao cap w hl
  · exact dput_short xs ao cap w h (by omega) ho

end Go.Proofs.YtmgdciihpjifgaaGreatDoor.Rk
