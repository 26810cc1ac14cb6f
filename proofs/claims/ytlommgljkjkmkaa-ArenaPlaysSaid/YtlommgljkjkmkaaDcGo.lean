/-
  What the document's arena answers: New, Room, Right, Live, Refs. Conditions: the bounds named in each theorem.
-/
import Derived.Test.YtlommgljkjkmkaaDcMem
namespace Go.Proofs.Ytlommgljkjkmkaa.Gn
open Go.RowKit
set_option linter.unusedVariables false
set_option linter.unusedSimpArgs false

theorem step_makeE {α : Type} (E : El α) {ops : Array Oper} {o : Oper} {a : Act} {Q : Exit → Act → World → Prop} {W : World} {K : Act → World → Prop} {D : Prop} (hgd : o.guard = none) (l c : Operand) (ho : o.op = Op.makeSlice E.L l c) (kl kc : IntKind) (L C : Int) (n : Nat) (x0 : α) (hz : E.z.cells.toList = E.c x0) (hl : a.eval l = .int kl L) (hc : a.eval c = .int kc C) (hL : L = (n : Int)) (hC : C = (n : Int)) (hn : n ≤ 100000)
    (h : ∀ w', Rw E w' W.heap.size (.slice (some ⟨W.heap.size, 0, none⟩) n n) (List.replicate n x0) → Below W.heap.size W w' → K (a.put o.dst (.slice (some ⟨W.heap.size, 0, none⟩) n n)) w') :
    if Region.wanted o (yielded ops a.tmps) = true then Oper.wp Try.prog o a W K Q else D := by
  have hw : Region.wanted o (yielded ops a.tmps) = true := by simp [Region.wanted, hgd]
  rw [if_pos hw]
  obtain ⟨i0, hi, hz0, hz1, hz2⟩ := info_parts E.info
  have few := E.few
  obtain ⟨w', hrun, r1, r2⟩ := run_make_full (P := Try.prog) W W.heap.size E.L E.T i0 _ E.n E.und hi hz0 hz1 kl kc n (by rw [hz2]; exact Nat.le_trans (Nat.mul_le_mul few hn) (by omega)) (by unfold maxLen; omega) (Nat.le_refl _)
  subst hL
  subst hC
  unfold Oper.wp
  simp [execOp, ho, hl, hc, hrun, Result.andThen]
  refine h w' ?_ ((Below.refl _ W).grown r2 (Nat.le_refl _) (fun k hk => by cases hk))
  unfold Rw
  rw [List.length_replicate, ← El.made n x0 hz]
  exact r1

theorem take_count {α : Type} (l : List α) (p : α → Bool) (j : Nat) (x : α) (h : l[j]? = some x) : (l.take (j + 1)).countP p = (l.take j).countP p + if p x then 1 else 0 := by
  obtain ⟨hl, he⟩ := List.getElem?_eq_some_iff.1 h
  rw [List.take_succ_eq_append_getElem hl, List.countP_append, he]
  congr 1
  by_cases hp : p x = true <;> simp [hp]

set_option maxHeartbeats 2000000 in
theorem droom_is (d : Dc) (v : Value) (F : Nat → Prop) (w : World) (h : Dv w v d F) (hsz : d.taken.length ≤ 5000) :
    Calls Try.prog 18 #[v] w fun e w' => e = .returned (.int .i64 (d.room : Int)) ∧ Below w.heap.size w w' := by
  obtain ⟨ga, gc, ta, tc, ba, bc, rfl, h1, h2, h3, h4, h5, h6, h7, h8, h9, h10, h11⟩ := h
  have H := Lib.hid (And.intro h2 hsz)
  clear h1 h2 h3 h4 h5 h6 h7 h8 h9 h10 h11 hsz
  obtain ⟨W1, hW1⟩ : ∃ W1, w.alloc (.cells #[.slice ga d.gens.length gc, .slice ta d.taken.length tc, .slice ba d.back.length bc, .int .i64 (d.ever : Int)] 29) = W1 := ⟨_, rfl⟩
  have B := Lib.hid (And.intro (show Blk W1 w.heap.size #[.slice ga d.gens.length gc, .slice ta d.taken.length tc, .slice ba d.back.length bc, .int .i64 (d.ever : Int)] 29 from hW1 ▸ Blk.new w _ _) (show Below w.heap.size w W1 from hW1 ▸ below1 w _))
  go_enter Try.func18, Try.ntmps18
  go_wp2_with (simp only [hW1])
  go_loopw [3, 4] (fun o3 o4 wr => ∃ (j : Nat), o4 = .int .i64 j ∧ j ≤ d.taken.length ∧ o3 = .int .i64 (((d.taken.take j).countP (fun b => !b) : Nat) : Int) ∧ wr = W1) (fun _ i _ => d.taken.length - (intOf i).toNat)
  case atStart => exact ⟨0, rfl, Nat.zero_le _, rfl, rfl⟩
  case round =>
    obtain ⟨j, rfl, hj, rfl, rfl⟩ := hrel
    have c1 : wr.cell? ⟨w.heap.size, 1, none⟩ = some (.slice ta d.taken.length tc) := B.out.1.cell 1
    by_cases hlt : j < d.taken.length
    · obtain ⟨x, hx⟩ : ∃ x, d.taken[j] = x := ⟨_, rfl⟩
      have hx' : d.taken[j]? = some x := by rw [List.getElem?_eq_getElem hlt, hx]
      obtain ⟨q, hq, hat⟩ := H.out.1.below B.out.2 j x hx'
      have q1 : wr.cell? (q.add j) = some (.bool x) := by have := hat.1 _ rfl; rwa [show j * elB.n = j from Nat.mul_one j] at this
      rw [hq] at c1
      have i0 : (0 : Int) ≤ (j : Int) := Int.natCast_nonneg j
      have i1 : (j : Int) < (d.taken.length : Int) := Int.ofNat_lt.2 hlt
      have hw : wrap64 ((j : Int) + 1) = (j : Int) + 1 := wrap_in _ (by omega) (by have := H.out.2; omega)
      have J := Lib.hid (And.intro (take_count d.taken (fun b => !b) j x hx') (show (d.taken.take j).countP (fun b => !b) ≤ 5000 from Nat.le_trans List.countP_le_length (by rw [List.length_take]; have := H.out.2; omega)))
      clear hx hx' hat hj hq
      obtain ⟨m, hm⟩ : ∃ m, (d.taken.take j).countP (fun b => !b) = m := ⟨_, rfl⟩
      rw [hm] at J ⊢
      have hwm : wrap64 ((m : Int) + 1) = (m : Int) + 1 := wrap_in _ (by omega) (by have := J.out.2; omega)
      clear hm
      cases x with
      | false =>
        go_wp2
        go_roundw
        case rel => exact ⟨j + 1, by go_num, hlt, by rw [J.out.1]; simp [hwm], by first | trivial | rfl⟩
        case measure => first | (rw [hw]; simp [intOf]; omega) | (simp [intOf]; omega)
      | true =>
        go_wp2
        go_roundw
        case rel => exact ⟨j + 1, by go_num, hlt, by rw [J.out.1]; simp, by first | trivial | rfl⟩
        case measure => first | (rw [hw]; simp [intOf]; omega) | (simp [intOf]; omega)
    · obtain rfl : j = d.taken.length := by omega
      rw [List.take_length]
      have i1 : ¬ ((d.taken.length : Nat) : Int) < (d.taken.length : Int) := Int.lt_irrefl _
      clear hj hlt
      go_wp2
      go_ret
      exact ⟨rfl, B.out.2⟩

set_option maxHeartbeats 2000000 in
theorem dright_low (d : Dc) (v : Value) (F : Nat → Prop) (s g : Int) (h0 : s < 0) (w : World) (h : Dv w v d F) :
    Calls Try.prog 10 #[v, .agg #[.int .i64 s, .int .i64 g]] w fun e w' => e = .returned (.bool (false)) ∧ Below w.heap.size w w' := by
  have hmx : Try.prog.follows .mixedOrders = true := by kernel_rfl
  obtain ⟨ga, gc, ta, tc, ba, bc, rfl, h1, h2, h3, h4, h5, h6, h7, h8, h9, h10, h11⟩ := h
  have n0 : decide (0 ≤ s) = false := by rw [decide_eq_false_iff_not]; omega
  have m0 : ¬ (0 ≤ s) := by omega
  clear h0
  clear h1 h2 h3 h4 h5 h6 h7 h8 h9 h10 h11
  go_enter Try.func10, Try.ntmps10
  go_wp2_with fail
  go_quiet (fail)
  go_wp2
  go_ret
  exact ⟨rfl, below_drewV _ (below2 _ _ _)⟩

set_option maxHeartbeats 2000000 in
theorem dright_high (d : Dc) (v : Value) (F : Nat → Prop) (s g : Int) (h0 : 0 ≤ s) (hh : (d.gens.length : Int) ≤ s) (w : World) (h : Dv w v d F) :
    Calls Try.prog 10 #[v, .agg #[.int .i64 s, .int .i64 g]] w fun e w' => e = .returned (.bool (false)) ∧ Below w.heap.size w w' := by
  have hmx : Try.prog.follows .mixedOrders = true := by kernel_rfl
  obtain ⟨ga, gc, ta, tc, ba, bc, rfl, h1, h2, h3, h4, h5, h6, h7, h8, h9, h10, h11⟩ := h
  have n1 : decide (s < (d.gens.length : Int)) = false := by rw [decide_eq_false_iff_not]; omega
  clear hh
  clear h1 h2 h3 h4 h5 h6 h7 h8 h9 h10 h11
  go_enter Try.func10, Try.ntmps10
  go_wp2_with fail
  go_quiet (fail)
  go_wp2
  go_ret
  exact ⟨rfl, below_drewV _ (below2 _ _ _)⟩

set_option maxHeartbeats 2000000 in
theorem dright_off (d : Dc) (v : Value) (F : Nat → Prop) (s g : Int) (i : Nat) (hs : s = (i : Int)) (x : Int) (hk : d.taken[i]? = some false) (hx : d.gens[i]? = some x) (w : World) (h : Dv w v d F) :
    Calls Try.prog 10 #[v, .agg #[.int .i64 s, .int .i64 g]] w fun e w' => e = .returned (.bool (false)) ∧ Below w.heap.size w w' := by
  have hmx : Try.prog.follows .mixedOrders = true := by kernel_rfl
  obtain ⟨ga, gc, ta, tc, ba, bc, rfl, h1, h2, h3, h4, h5, h6, h7, h8, h9, h10, h11⟩ := h
  subst hs
  have hl := (List.getElem?_eq_some_iff.1 hk).1
  have hg := (List.getElem?_eq_some_iff.1 hx).1
  obtain ⟨q, rfl, hat⟩ := (h2.below (below2 w (.cells #[.slice ga d.gens.length gc, .slice ta d.taken.length tc, .slice ba d.back.length bc, .int .i64 (d.ever : Int)] 29) (.cells #[.int .i64 (i : Int), .int .i64 g] 33))) i _ hk
  have q1 := hat.1 _ rfl
  rw [show i * elB.n = i from Nat.mul_one i] at q1
  obtain ⟨r, rfl, hat2⟩ := (h1.below (below2 w (.cells #[.slice ga d.gens.length gc, .slice (some q) d.taken.length tc, .slice ba d.back.length bc, .int .i64 (d.ever : Int)] 29) (.cells #[.int .i64 (i : Int), .int .i64 g] 33))) i x hx
  have q2 := hat2.1 _ rfl
  rw [show i * elI.n = i from Nat.mul_one i] at q2
  have i0 : (0 : Int) ≤ (i : Int) := Int.natCast_nonneg i
  have i1 : (i : Int) < (d.gens.length : Int) := Int.ofNat_lt.2 hg
  have i2 : (i : Int) < (d.taken.length : Int) := Int.ofNat_lt.2 hl
  clear hat hat2 hl hg hk hx
  clear h1 h2 h3 h4 h5 h6 h7 h8 h9 h10 h11
  go_enter Try.func10, Try.ntmps10
  go_wp2_with fail
  go_quiet (fail)
  go_wp2
  go_ret
  exact ⟨rfl, below_drewV _ (below2 _ _ _)⟩

set_option maxHeartbeats 2000000 in
theorem dright_on (d : Dc) (v : Value) (F : Nat → Prop) (s g : Int) (i : Nat) (hs : s = (i : Int)) (x : Int) (hk : d.taken[i]? = some true) (hx : d.gens[i]? = some x) (w : World) (h : Dv w v d F) :
    Calls Try.prog 10 #[v, .agg #[.int .i64 s, .int .i64 g]] w fun e w' => e = .returned (.bool (x == g)) ∧ Below w.heap.size w w' := by
  have hmx : Try.prog.follows .mixedOrders = true := by kernel_rfl
  obtain ⟨ga, gc, ta, tc, ba, bc, rfl, h1, h2, h3, h4, h5, h6, h7, h8, h9, h10, h11⟩ := h
  subst hs
  have hl := (List.getElem?_eq_some_iff.1 hk).1
  have hg := (List.getElem?_eq_some_iff.1 hx).1
  obtain ⟨q, rfl, hat⟩ := (h2.below (below2 w (.cells #[.slice ga d.gens.length gc, .slice ta d.taken.length tc, .slice ba d.back.length bc, .int .i64 (d.ever : Int)] 29) (.cells #[.int .i64 (i : Int), .int .i64 g] 33))) i _ hk
  have q1 := hat.1 _ rfl
  rw [show i * elB.n = i from Nat.mul_one i] at q1
  obtain ⟨r, rfl, hat2⟩ := (h1.below (below2 w (.cells #[.slice ga d.gens.length gc, .slice (some q) d.taken.length tc, .slice ba d.back.length bc, .int .i64 (d.ever : Int)] 29) (.cells #[.int .i64 (i : Int), .int .i64 g] 33))) i x hx
  have q2 := hat2.1 _ rfl
  rw [show i * elI.n = i from Nat.mul_one i] at q2
  have i0 : (0 : Int) ≤ (i : Int) := Int.natCast_nonneg i
  have i1 : (i : Int) < (d.gens.length : Int) := Int.ofNat_lt.2 hg
  have i2 : (i : Int) < (d.taken.length : Int) := Int.ofNat_lt.2 hl
  clear hat hat2 hl hg hk hx
  clear h1 h2 h3 h4 h5 h6 h7 h8 h9 h10 h11
  go_enter Try.func10, Try.ntmps10
  go_wp2_with fail
  go_quiet (fail)
  go_wp2
  go_ret
  exact ⟨rfl, below_drewV _ (below2 _ _ _)⟩

theorem dright_is (d : Dc) (v : Value) (F : Nat → Prop) (s g : Int) (w : World) (h : Dv w v d F) (hl : d.taken.length = d.gens.length) :
    Calls Try.prog 10 #[v, .agg #[.int .i64 s, .int .i64 g]] w fun e w' => e = .returned (.bool (d.right s g)) ∧ Below w.heap.size w w' := by
  by_cases h0 : s < 0
  · rw [show d.right s g = false from by unfold Dc.right; rw [show decide (0 ≤ s) = false from by rw [decide_eq_false_iff_not]; omega]; rfl]
    exact dright_low d v F s g h0 w h
  · by_cases h1 : (d.gens.length : Int) ≤ s
    · rw [show d.right s g = false from by unfold Dc.right; rw [List.getElem?_eq_none (l := d.taken) (by omega)]; simp]
      exact dright_high d v F s g (by omega) h1 w h
    · obtain ⟨i, rfl⟩ : ∃ i : Nat, s = (i : Int) := ⟨s.toNat, by omega⟩
      have hx : d.gens[i]? = some d.gens[i] := List.getElem?_eq_getElem (by omega)
      have hk : d.taken[i]? = some d.taken[i] := List.getElem?_eq_getElem (by omega)
      have e : d.right (i : Int) g = (d.taken[i] && d.gens[i] == g) := by unfold Dc.right; rw [Int.toNat_natCast, hk, hx]; simp
      rw [e]
      cases hb : d.taken[i] with
      | false => rw [hb] at hk; exact dright_off d v F _ g i rfl _ hk hx w h
      | true => rw [hb] at hk; exact dright_on d v F _ g i rfl _ hk hx w h

set_option maxHeartbeats 4000000 in
theorem dlive_is (d : Dc) (v : Value) (F : Nat → Prop) (w : World) (h : Dv w v d F) (hl : d.taken.length = d.gens.length) (hsz : d.taken.length ≤ 5000) :
    Calls Try.prog 21 #[v] w fun e w' => ∃ v, e = .returned v ∧ Rw elR w' w.heap.size v (d.lv d.taken.length) ∧ Below w.heap.size w w' := by
  obtain ⟨ga, gc, ta, tc, ba, bc, rfl, h1, h2, h3, h4, h5, h6, h7, h8, h9, h10, h11⟩ := h
  have H := Lib.hid (And.intro h1 (And.intro h2 (And.intro hl hsz)))
  clear h1 h2 h3 h4 h5 h6 h7 h8 h9 h10 h11 hsz hl
  obtain ⟨CS, hCS⟩ : ∃ CS : Array Value, #[.slice ga d.gens.length gc, .slice ta d.taken.length tc, .slice ba d.back.length bc, .int .i64 (d.ever : Int)] = CS := ⟨_, rfl⟩
  obtain ⟨W1, hW1⟩ : ∃ W1, w.alloc (.cells #[.slice ga d.gens.length gc, .slice ta d.taken.length tc, .slice ba d.back.length bc, .int .i64 (d.ever : Int)] 29) = W1 := ⟨_, rfl⟩
  have B := Lib.hid (And.intro (show Blk W1 w.heap.size #[.slice ga d.gens.length gc, .slice ta d.taken.length tc, .slice ba d.back.length bc, .int .i64 (d.ever : Int)] 29 from hW1 ▸ Blk.new w _ _) (And.intro (show Below w.heap.size w W1 from hW1 ▸ below1 w _) (show W1.heap.size = w.heap.size + 1 from by rw [← hW1]; simp)))
  clear hCS CS
  go_enter Try.func21, Try.ntmps21
  go_wp2_with (simp only [hW1])
  go_loopw [3, 4] (fun o3 o4 wr => ∃ (j : Nat), o4 = .int .i64 j ∧ j ≤ d.taken.length ∧ Rw elR wr (w.heap.size + 1) o3 (d.lv j) ∧ Below (w.heap.size + 1) W1 wr) (fun _ i _ => d.taken.length - (intOf i).toNat)
  case atStart => exact ⟨0, rfl, Nat.zero_le _, Rw.nil _ _, Below.refl _ _⟩
  case round =>
    obtain ⟨j, rfl, hj, hR, hbel⟩ := hrel
    have hB := B.out.1.below' hbel (Nat.lt_succ_self _)
    have c1 : wr.cell? ⟨w.heap.size, 1, none⟩ = some (.slice ta d.taken.length tc) := hB.cell 1
    have c0 : wr.cell? ⟨w.heap.size, 0, none⟩ = some (.slice ga d.gens.length gc) := hB.cell 0
    have hbw : Below w.heap.size w wr := B.out.2.1.trans (hbel.mono (Nat.le_succ _))
    by_cases hlt : j < d.taken.length
    · obtain ⟨x, hx⟩ : ∃ x, d.taken[j] = x := ⟨_, rfl⟩
      have hx' : d.taken[j]? = some x := by rw [List.getElem?_eq_getElem hlt, hx]
      have hlg : j < d.gens.length := by rw [← H.out.2.2.1]; exact hlt
      obtain ⟨y, hy⟩ : ∃ y, d.gens[j] = y := ⟨_, rfl⟩
      have hy' : d.gens[j]? = some y := by rw [List.getElem?_eq_getElem hlg, hy]
      obtain ⟨q, hq, hat⟩ := H.out.2.1.below hbw j x hx'
      have q1 : wr.cell? (q.add j) = some (.bool x) := by have := hat.1 _ rfl; rwa [show j * elB.n = j from Nat.mul_one j] at this
      rw [hq] at c1
      obtain ⟨r, hr, hat2⟩ := H.out.1.below hbw j y hy'
      have r1 : wr.cell? (r.add j) = some (.int .i64 y) := by have := hat2.1 _ rfl; rwa [show j * elI.n = j from Nat.mul_one j] at this
      rw [hr] at c0
      have i0 : (0 : Int) ≤ (j : Int) := Int.natCast_nonneg j
      have i1 : (j : Int) < (d.taken.length : Int) := Int.ofNat_lt.2 hlt
      have i2 : (j : Int) < (d.gens.length : Int) := Int.ofNat_lt.2 hlg
      have hw : wrap64 ((j : Int) + 1) = (j : Int) + 1 := wrap_in _ (by omega) (by have := H.out.2.2.2; omega)
      have hlf : d.lf j = if x then some ((j : Int), y) else none := by unfold Dc.lf; rw [hx', hy']
      have J := Lib.hid (And.intro hR (And.intro hbel hlf))
      clear hR hbel hx hx' hy hy' hat hat2 hj hq hr hbw hlf hB hlg
      cases x with
      | false =>
        go_wp2
        go_roundw
        case rel =>
          refine ⟨j + 1, by go_num, hlt, ?_, J.out.2.1⟩
          rw [Dc.lv_succ, J.out.2.2]
          simp only [Bool.false_eq_true, if_false, List.append_nil]
          exact J.out.1
        case measure => first | (rw [hw]; simp [intOf]; omega) | (simp [intOf]; omega)
      | true =>
        go_wp2_with (at_builtin; go_loud (refine appE elR rfl _ _ rfl (w.heap.size + 1) _ (d.lv j) ((j : Int), y) _ rfl wr rfl (by exact J.out.1) wr.heap.size rfl rfl (by have := Dc.lv_len d j; have := H.out.2.2.2; omega) (by have := J.out.2.1.size; have := B.out.2.2; omega) ?_; intro v' w1 hown hgr hbk hbel; have Z := Lib.hid (And.intro hown (J.out.2.1.trans hbel)); clear hown hgr hbk hbel; go_frame))
        go_roundw
        case rel =>
          refine ⟨j + 1, by go_num, hlt, ?_, Z.out.2⟩
          rw [Dc.lv_succ, J.out.2.2]
          exact Z.out.1
        case measure => first | (rw [hw]; simp [intOf]; omega) | (simp [intOf]; omega)
    · obtain rfl : j = d.taken.length := by omega
      have i1 : ¬ ((d.taken.length : Nat) : Int) < (d.taken.length : Int) := Int.lt_irrefl _
      have J := Lib.hid (And.intro hR hbw)
      clear hR hbel hlt hj hbw hB
      go_wp2
      go_ret
      exact ⟨_, rfl, J.out.1.base (Nat.le_succ _), J.out.2⟩

set_option maxHeartbeats 4000000 in
/-- The same refs. -/
theorem refs_is (xs : List (Int × Int)) (a b : Option Addr) (c e : Nat) (w : World) (h1 : Sg elR w a xs) (h2 : Sg elR w b xs) (hl : xs.length ≤ 5000) :
    Calls Try.prog 19 #[.slice a xs.length c, .slice b xs.length e] w fun r w' => r = .returned (.bool true) ∧ Below w.heap.size w w' := by
  have hmx : Try.prog.follows .mixedOrders = true := by kernel_rfl
  have H := Lib.hid (And.intro h1 (And.intro h2 hl))
  clear h1 h2 hl
  go_enter Try.func19, Try.ntmps19
  go_wp2
  go_loopw [5] (fun o5 wr => ∃ (j : Nat), o5 = .int .i64 j ∧ j ≤ xs.length ∧ Below w.heap.size w wr) (fun i _ => xs.length - (intOf i).toNat)
  case atStart => exact ⟨0, rfl, Nat.zero_le _, Below.refl _ _⟩
  case round =>
    obtain ⟨j, rfl, hj, hbel⟩ := hrel
    by_cases hlt : j < xs.length
    · obtain ⟨q, rfl, hat⟩ := H.out.1.below hbel j xs[j] (List.getElem?_eq_getElem hlt)
      obtain ⟨r, rfl, hat2⟩ := H.out.2.1.below hbel j xs[j] (List.getElem?_eq_getElem hlt)
      obtain ⟨⟨S1, S2⟩, hr⟩ : ∃ r, xs[j] = r := ⟨_, rfl⟩
      rw [hr] at hat hat2
      have x0 : wr.cell? (q.add (j * 2)) = some (.int .i64 S1) := hat.1 _ rfl
      have x1 : wr.cell? ⟨(q.add (j * 2)).block, (q.add (j * 2)).off + 1, none⟩ = some (.int .i64 S2) := hat.2 1 _ rfl (by decide)
      have z0 : wr.cell? (r.add (j * 2)) = some (.int .i64 S1) := hat2.1 _ rfl
      have z1 : wr.cell? ⟨(r.add (j * 2)).block, (r.add (j * 2)).off + 1, none⟩ = some (.int .i64 S2) := hat2.2 1 _ rfl (by decide)
      have hw : wrap64 ((j : Int) + 1) = (j : Int) + 1 := wrap_k (Nat.le_trans (Nat.le_of_lt hlt) (Nat.le_trans H.out.2.2 (by decide)))
      have m0 : (j : Int) < (xs.length : Int) := Int.ofNat_lt.2 hlt
      have m1 : (0 : Int) ≤ (j : Int) := Int.natCast_nonneg j
      have K := Lib.hid hbel
      clear hbel hr hat hat2 hj
      go_wp2
      go_quiet (fail)
      go_wp2
      go_roundw
      case rel => exact ⟨j + 1, by go_num, hlt, below_drewV _ K.out⟩
      case measure => first | (rw [hw]; simp [intOf]; omega) | (simp [intOf]; omega)
    · obtain rfl : j = xs.length := by omega
      have i1 : ¬ ((xs.length : Nat) : Int) < (xs.length : Int) := Int.lt_irrefl _
      have K := Lib.hid hbel
      clear hbel hlt hj
      go_wp2
      go_ret
      exact ⟨rfl, K.out⟩

end Go.Proofs.Ytlommgljkjkmkaa.Gn
