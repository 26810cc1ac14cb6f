/-
  What the document's own Digits and Number answer, for every number and every text. Condition: the bounds named in each theorem.
-/
import Derived.Test.YtdonmbmahcjfbaaGreatDoorCvOf
import Derived.Laws.IdiomStrings
namespace Go.Proofs.YtdonmbmahcjfbaaGreatDoor.Km
open Go.RowKit

theorem one_byte (w : World) (c : Int) (b : UInt8) (hc : Value.int .u8 c = bv b) :
    (convert 123 9 (.slice (some ⟨w.heap.size, 0, none⟩) 1 1)).run Tryz.prog (w.alloc (.cells #[.int .u8 c] 5)) = .ok (.string ⟨[b].toArray⟩) (w.alloc (.cells #[.int .u8 c] 5)) := by
  refine conv_own (w := w.alloc (.cells #[.int .u8 c] 5)) (base := w.heap.size) [b] (.inr ⟨w.heap.size, 1, #[.int .u8 c], (0, 0), rfl, Nat.le_refl _, ?_, clear0 _, by simp, by unfold maxLen; omega, by simp, ?_⟩)
  · exact Go.heap_alloc_new w _
  · rw [hc]; rfl

theorem digit_is (d : Nat) (h : d < 10) : Value.int .u8 (48 + (d : Int)) = bv (UInt8.ofNat (48 + d)) := by
  rw [bv, Cv.dig_nat d h]; rfl
/-- What a round knows. -/
def Dj (w : World) (N u : Nat) (t : List UInt8) (wr : World) : Prop := Lib.decDigits u ++ t = Lib.decDigits N ∧ (u : Int) < 18446744073709551616 ∧ t.length ≤ 20 ∧ Below w.heap.size w wr ∧ (Lib.decDigits N).length ≤ 20
/-- The loop of Digits, as far as both signs go together. -/
def Dl (w : World) (N : Nat) (a b : Value) (wr : World) : Prop := ∃ (u : Nat) (t : List UInt8), a = .int .u64 u ∧ b = .string ⟨t.toArray⟩ ∧ Dj w N u t wr

theorem cat1 (c : UInt8) (t : List UInt8) : (ByteArray.mk #[c] ++ ByteArray.mk t.toArray) = ⟨(c :: t).toArray⟩ := by
  apply ByteArray.ext; simp
theorem ret_str1 (c : UInt8) (t : List UInt8) {r : List UInt8} (h : c :: t = r) : Ending.returned (.string (ByteArray.mk #[c] ++ ByteArray.mk t.toArray)) = .returned (.string ⟨r.toArray⟩) := by rw [cat1, h]
theorem ret_str2 (c : UInt8) (t : List UInt8) {r : List UInt8} (h : c :: t = r) : Ending.returned (.string (ByteArray.mk #[45] ++ (ByteArray.mk #[c] ++ ByteArray.mk t.toArray))) = .returned (.string ⟨(45 :: r).toArray⟩) := by rw [cat1 c t, h, cat1 45 r]
theorem dl_next {w : World} {N u : Nat} {t : List UInt8} {wr : World} {U : Int} {c : UInt8} (J : Dj w N u t wr) (S : Lib.decDigits u = Lib.decDigits (u / 10) ++ [c]) (hU : U = (u : Int)) (o : Obj) :
    Dl w N (.int .u64 (U / 10)) (.string (ByteArray.mk #[c] ++ ByteArray.mk t.toArray)) (wr.alloc o) := by
  obtain ⟨h1, h2, h3, h4, h5⟩ := J
  have e : Lib.decDigits (u / 10) ++ c :: t = Lib.decDigits N := by rw [← h1, S]; simp
  have hn := List.length_pos_iff.2 (Cv.dec_ne (u / 10))
  have hl := congrArg List.length e
  rw [List.length_append] at hl
  refine ⟨u / 10, c :: t, ?_, by rw [cat1], e, by omega, by omega, h4.alloc h4.size _, h5⟩
  rw [hU]; congr 1
theorem dl_less {u : Nat} {U : Int} (hU : U = (u : Int)) (h : ¬ u < 10) : (intOf (.int .u64 (U / 10))).toNat < (intOf (.int .u64 U)).toNat := by
  simp only [intOf]; omega

set_option maxHeartbeats 1000000 in
theorem rdigits_pos (n : Int) (N : Nat) (w : World) (hN : n = N) (h1 : n < 9223372036854775808) :
    Calls Tryz.prog 80 #[.int .i64 n] w fun e w' => e = .returned (.string ⟨(Lib.decDigits N).toArray⟩) ∧ Below w.heap.size w w' := by
  have hw : IntKind.u64.wrap n = (N : Int) := by rw [IntKind.wrap_u64]; omega
  have h0 : decide (n < 0) = false := by rw [decide_eq_false_iff_not]; omega
  have hl := Cv.dec_len 19 N (by have : (10 : Nat) ^ (19 + 1) = 100000000000000000000 := by decide
                                 omega)
  have H := Lib.hid (And.intro hl (show (N : Int) < 18446744073709551616 by omega))
  clear hl hN h1
  go_enter Tryz.func80, Tryz.ntmps80
  go_wp2
  go_loopw [3, 4] (fun a b wr => Dl w N a b wr) (fun a _ _ => (intOf a).toNat)
  case atStart => exact ⟨N, [], rfl, rfl, by simp, H.out.2, by simp, Below.refl _ _, H.out.1⟩
  case round =>
    obtain ⟨u, t, rfl, rfl, J⟩ := hrel
    clear H hw
    by_cases hs : u < 10
    · obtain ⟨U, hU⟩ : ∃ U : Int, U = (u : Int) := ⟨_, rfl⟩
      obtain ⟨c, hc⟩ : ∃ c, UInt8.ofNat (48 + u) = c := ⟨_, rfl⟩
      have hcv := one_byte wr (48 + U) c (by rw [hU, ← hc]; exact digit_is u hs)
      have hcat : (9223372036854775807 < 1 + t.length) = False := by have := J.2.2.1; simp; omega
      have u0 : 0 ≤ U := by omega
      have u1 : U < 10 := by omega
      have d10 : decide ((10 : Int) ≤ U) = false := by rw [decide_eq_false_iff_not]; omega
      rw [← hU]
      have S := Lib.hid (show Lib.decDigits u = [c] by rw [Cv.dec_small hs, hc])
      clear hs hU hc
      go_wp2
      go_ret
      exact ⟨ret_str1 c t (by rw [← J.1, S.out]; rfl), J.2.2.2.1.alloc J.2.2.2.1.size _⟩
    · obtain ⟨U, hU⟩ : ∃ U : Int, U = (u : Int) := ⟨_, rfl⟩
      have hm : (u : Int) % 10 = ((u % 10 : Nat) : Int) := by omega
      obtain ⟨c, hc⟩ : ∃ c, UInt8.ofNat (48 + u % 10) = c := ⟨_, rfl⟩
      have hcv := one_byte wr (48 + U % 10) c (by rw [hU, hm, ← hc]; exact digit_is (u % 10) (by omega))
      have hcat : (9223372036854775807 < 1 + t.length) = False := by have := J.2.2.1; simp; omega
      have d10 : decide ((10 : Int) ≤ U) = true := by rw [decide_eq_true_eq]; omega
      have u0 : 0 ≤ U := by omega
      have u1 : U < 18446744073709551616 := by have := J.2.1; omega
      have S := Lib.hid (show Lib.decDigits u = Lib.decDigits (u / 10) ++ [c] by rw [Cv.dec_big hs, hc])
      rw [← hU]
      have HU := Lib.hid hU
      have L := Lib.hid hs
      clear hs hm hc hU
      go_wp2
      exact ⟨dl_next J S.out HU.out _, dl_less HU.out L.out⟩

set_option maxHeartbeats 1000000 in
theorem rdigits_neg (n : Int) (N : Nat) (w : World) (hN : n = -(N : Int)) (hn : n < 0) (h1 : -9223372036854775808 ≤ n) :
    Calls Tryz.prog 80 #[.int .i64 n] w fun e w' => e = .returned (.string ⟨(45 :: Lib.decDigits N).toArray⟩) ∧ Below w.heap.size w w' := by
  have hw : IntKind.u64.wrap (-IntKind.u64.wrap n) = (N : Int) := by rw [IntKind.wrap_u64, IntKind.wrap_u64]; omega
  have h0 : decide (n < 0) = true := by rw [decide_eq_true_eq]; omega
  have hl := Cv.dec_len 19 N (by have : (10 : Nat) ^ (19 + 1) = 100000000000000000000 := by decide
                                 omega)
  have H := Lib.hid (And.intro hl (show (N : Int) < 18446744073709551616 by omega))
  clear hl hN h1 hn
  go_enter Tryz.func80, Tryz.ntmps80
  go_wp2
  go_loopw [3, 4] (fun a b wr => Dl w N a b wr) (fun a _ _ => (intOf a).toNat)
  case atStart => exact ⟨N, [], rfl, rfl, by simp, H.out.2, by simp, Below.refl _ _, H.out.1⟩
  case round =>
    obtain ⟨u, t, rfl, rfl, J⟩ := hrel
    clear H hw
    by_cases hs : u < 10
    · obtain ⟨U, hU⟩ : ∃ U : Int, U = (u : Int) := ⟨_, rfl⟩
      obtain ⟨c, hc⟩ : ∃ c, UInt8.ofNat (48 + u) = c := ⟨_, rfl⟩
      have hcv := one_byte wr (48 + U) c (by rw [hU, ← hc]; exact digit_is u hs)
      have hcat : (9223372036854775807 < 1 + t.length) = False := by have := J.2.2.1; simp; omega
      have hcat2 : (9223372036854775807 < 1 + (1 + t.length)) = False := by have := J.2.2.1; simp; omega
      have u0 : 0 ≤ U := by omega
      have u1 : U < 10 := by omega
      have d10 : decide ((10 : Int) ≤ U) = false := by rw [decide_eq_false_iff_not]; omega
      rw [← hU]
      have S := Lib.hid (show Lib.decDigits u = [c] by rw [Cv.dec_small hs, hc])
      clear hs hU hc
      go_wp2
      go_ret
      exact ⟨ret_str2 c t (by rw [← J.1, S.out]; rfl), J.2.2.2.1.alloc J.2.2.2.1.size _⟩
    · obtain ⟨U, hU⟩ : ∃ U : Int, U = (u : Int) := ⟨_, rfl⟩
      have hm : (u : Int) % 10 = ((u % 10 : Nat) : Int) := by omega
      obtain ⟨c, hc⟩ : ∃ c, UInt8.ofNat (48 + u % 10) = c := ⟨_, rfl⟩
      have hcv := one_byte wr (48 + U % 10) c (by rw [hU, hm, ← hc]; exact digit_is (u % 10) (by omega))
      have hcat : (9223372036854775807 < 1 + t.length) = False := by have := J.2.2.1; simp; omega
      have d10 : decide ((10 : Int) ≤ U) = true := by rw [decide_eq_true_eq]; omega
      have u0 : 0 ≤ U := by omega
      have u1 : U < 18446744073709551616 := by have := J.2.1; omega
      have S := Lib.hid (show Lib.decDigits u = Lib.decDigits (u / 10) ++ [c] by rw [Cv.dec_big hs, hc])
      rw [← hU]
      have HU := Lib.hid hU
      have L := Lib.hid hs
      clear hs hm hc hU
      go_wp2
      exact ⟨dl_next J S.out HU.out _, dl_less HU.out L.out⟩

theorem rdigits_any (n : Int) (w : World) (h : Cv.I n) :
    Calls Tryz.prog 80 #[.int .i64 n] w fun e w' => e = .returned (.string ⟨(Lib.itoa n).toArray⟩) ∧ Below w.heap.size w w' := by
  unfold Cv.I at h
  by_cases g : n < 0
  · rw [show Lib.itoa n = 45 :: Lib.decDigits n.natAbs by unfold Lib.itoa; rw [if_pos g]]; exact rdigits_neg n n.natAbs w (by omega) g h.1
  · rw [show Lib.itoa n = Lib.decDigits n.toNat by unfold Lib.itoa; rw [if_neg g]]; exact rdigits_pos n n.toNat w (by omega) h.2
theorem rdigits_is (n : Int) (s : List UInt8) (w : World) (h : Cv.I n) (e : Lib.itoa n = s) :
    Calls Tryz.prog 80 #[.int .i64 n] w fun e w' => e = .returned (.string ⟨s.toArray⟩) ∧ Below w.heap.size w w' := e ▸ rdigits_any n w h

theorem wrap_I (x : Int) : Cv.I (wrap64 x) := by unfold Cv.I wrap64; omega
theorem wv_I (a : Int) (l : List UInt8) (h : Cv.I a) : Cv.I (Cv.wv a l) := by
  induction l generalizing a with
  | nil => exact h
  | cons c l ih => exact ih _ (wrap_I _)
theorem fin_I (s : List UInt8) : Cv.I (Cv.fin s) := by
  unfold Cv.fin
  split
  · exact wrap_I _
  · exact wv_I _ _ ⟨by decide, by decide⟩

/-- What the loop of Number knows: j bytes are seen, all from i on are digits, and what they make. -/
def Nl (s : List UInt8) (i j : Nat) (m : Int) : Prop := i ≤ j ∧ j ≤ s.length ∧ m = Cv.wv 0 ((s.drop i).take (j - i)) ∧ ((s.drop i).take (j - i)).all Cv.dg = true ∧ s.length ≤ 20
theorem Nl.next {s : List UInt8} {i j : Nat} {m : Int} (h : Nl s i j m) (hj : j < s.length) (hd : Cv.dg s[j] = true) : Nl s i (j + 1) (wrap64 (wrap64 (wrap64 (m * 10) + (s[j].toNat : Int)) - 48)) := by
  obtain ⟨h1, h2, h3, h4, h5⟩ := h
  have e : (s.drop i).take (j + 1 - i) = (s.drop i).take (j - i) ++ [s[j]] := by
    rw [show j + 1 - i = j - i + 1 by omega, List.take_succ_eq_append_getElem (by rw [List.length_drop]; omega)]
    congr 2
    rw [List.getElem_drop]
    congr 1
    omega
  refine ⟨by omega, by omega, ?_, ?_, h5⟩
  · rw [e, Cv.wv_snoc, ← h3]
  · rw [e, List.all_append, h4]; simpa using hd
theorem Nl.bad {s : List UInt8} {i j : Nat} {m : Int} (h : Nl s i j m) (hi : Cv.tl s = s.drop i) (hj : j < s.length) (hd : Cv.dg s[j] = false) : Cv.num s = none := by
  refine Cv.none_digit ?_
  rw [hi, List.all_eq_false]
  refine ⟨s[j], ?_, by rw [hd]; simp⟩
  rw [List.mem_iff_getElem]
  have := h.1
  exact ⟨j - i, by rw [List.length_drop]; omega, by rw [List.getElem_drop]; congr 1; omega⟩
theorem Nl.done {s : List UInt8} {i j : Nat} {m : Int} (h : Nl s i j m) (hi : Cv.tl s = s.drop i) (hj : ¬ j < s.length) : m = Cv.wv 0 (Cv.tl s) := by
  obtain ⟨h1, h2, h3, h4, h5⟩ := h
  rw [h3, hi, List.take_of_length_le (by rw [List.length_drop]; omega)]
theorem dg_lo {c : UInt8} (h : Cv.dg c = false) : (c.toNat < 48) ∨ (48 ≤ c.toNat ∧ 57 < c.toNat) := by unfold Cv.dg at h; rw [decide_eq_false_iff_not] at h; omega
theorem dg_in {c : UInt8} (h : Cv.dg c = true) : 48 ≤ c.toNat ∧ c.toNat ≤ 57 := by unfold Cv.dg at h; exact of_decide_eq_true h

theorem tl_0 {s : List UInt8} (h : Cv.mi s = false) : Cv.tl s = s.drop 0 := by unfold Cv.tl; rw [h]; rfl
theorem tl_1 {s : List UInt8} (h : Cv.mi s = true) : Cv.tl s = s.drop 1 := by unfold Cv.tl; rw [h]; rfl

theorem nv_none {s : List UInt8} (h : Cv.num s = none) : Cv.nv s = 0 := by unfold Cv.nv; rw [h]; rfl
theorem ne_none {s : List UInt8} (h : Cv.num s = none) : Cv.ne s = 7 := by unfold Cv.ne; rw [h]; rfl
theorem nv_some {s : List UInt8} {v : Int} (h : Cv.num s = some v) : Cv.nv s = v := by unfold Cv.nv; rw [h]; rfl
theorem ne_some {s : List UInt8} {v : Int} (h : Cv.num s = some v) : Cv.ne s = 0 := by unfold Cv.ne; rw [h]; rfl

set_option maxHeartbeats 1000000 in
theorem rnumber_0 (s : List UInt8) (w : World) (hm : Cv.mi s = false) (h0 : 0 < s.length) (x : UInt8) (hx : s[0] = x) (b0 : ((x.toNat : Int) == 45) = false) (hl : s.length ≤ 20) :
    Calls Tryz.prog 83 #[.string ⟨s.toArray⟩] w fun e w' => e = .returned (.tuple #[.int .i64 (Cv.nv s), .int .i64 (Cv.ne s)]) ∧ Below w.heap.size w w' := by
  have T := Lib.hid (And.intro hm hl)
  have l20 : decide ((20 : Int) < (s.length : Int)) = false := by rw [decide_eq_false_iff_not]; omega
  have l0 : decide ((0 : Int) < (s.length : Int)) = true := by rw [decide_eq_true_eq]; omega
  have hsz0 : 0 < (ByteArray.mk s.toArray).size := h0
  have hba0 : (ByteArray.mk s.toArray)[0] = x := (byte_at s 0 h0).trans hx
  clear hx
  have T0 := Lib.hid h0
  clear hm hl
  go_enter Tryz.func83, Tryz.ntmps83
  go_wp2
  clear b0 hba0 hsz0 l0 h0
  go_loop [4, 6] (fun n k => ∃ (j : Nat) (m : Int), k = .int .i64 j ∧ n = .int .i64 m ∧ Nl s 0 j m) (fun _ k => s.length - (intOf k).toNat)
  case atStart => exact ⟨0, 0, rfl, rfl, Nat.le_refl _, by have := T0.out; omega, by simp [Cv.wv], by simp, T.out.2⟩
  case round =>
    obtain ⟨j, m, rfl, rfl, J⟩ := hrel
    by_cases hlt : j < s.length
    · have hsz : j < (ByteArray.mk s.toArray).size := hlt
      have hba : (ByteArray.mk s.toArray)[j] = s[j] := byte_at s j hlt
      have l1 : decide ((j : Int) < (s.length : Int)) = true := by rw [decide_eq_true_eq]; omega
      cases hd : Cv.dg s[j] with
      | false =>
        have HN := Lib.hid (J.bad (tl_0 T.out.1) hlt hd)
        rcases dg_lo hd with h | ⟨h, g⟩
        · have d1 : decide ((s[j].toNat : Int) < 48) = true := by rw [decide_eq_true_eq]; omega
          clear h hd
          go_wp2
          go_ret2
          exact ⟨ret_i2 (nv_none HN.out).symm (ne_none HN.out).symm, Below.refl _ _⟩
        · have d1 : decide ((s[j].toNat : Int) < 48) = false := by rw [decide_eq_false_iff_not]; omega
          have d2 : decide (57 < (s[j].toNat : Int)) = true := by rw [decide_eq_true_eq]; omega
          clear h g hd
          go_wp2
          go_ret2
          exact ⟨ret_i2 (nv_none HN.out).symm (ne_none HN.out).symm, Below.refl _ _⟩
      | true =>
        have h := dg_in hd
        have d1 : decide ((s[j].toNat : Int) < 48) = false := by rw [decide_eq_false_iff_not]; omega
        have d2 : decide (57 < (s[j].toNat : Int)) = false := by rw [decide_eq_false_iff_not]; omega
        have HN := Lib.hid (J.next hlt hd)
        clear h hd
        go_wp2
        have hj20 : j < 20 := by have := J.2.2.2.2; omega
        have ew : wrap64 ((j : Int) + 1) = ((j + 1 : Nat) : Int) := by rw [wrap_in _ (by omega) (by omega)]; rfl
        have eb : wrap64 (s[j].toNat : Int) = (s[j].toNat : Int) := wrap_in _ (by omega) (by have := s[j].toNat_lt; omega)
        refine ⟨⟨j + 1, _, by rw [ew], by rw [eb], HN.out⟩, ?_⟩
        rw [ew]
        simp only [intOf]
        omega
    · have l1 : decide ((j : Int) < (s.length : Int)) = false := by rw [decide_eq_false_iff_not]; omega
      have l2 : decide (j < s.length) = false := by rw [decide_eq_false_iff_not]; exact hlt
      have HF := Lib.hid (show Cv.fin s = m by unfold Cv.fin; rw [T.out.1, J.done (tl_0 T.out.1) hlt]; rfl)
      have l3 : s.length ≤ j := by omega
      clear hlt
      by_cases hs : Lib.itoa m = s
      · have HS := Lib.hid hs
        clear hs
        go_wp2_with fail
        refine (rdigits_is m s _ (HF.out ▸ fin_I s) HS.out).mono ?_
        rintro e w1 ⟨rfl, hb⟩
        have B := Lib.hid hb
        clear hb
        go_wp2
        go_ret2
        have hn : Cv.num s = some m := Cv.num_is (HF.out ▸ fin_I s) HS.out
        exact ⟨ret_i2 (nv_some hn).symm (ne_some hn).symm, B.out⟩
      · have n1 : (Lib.itoa m == s) = false := by rw [beq_eq_false_iff_ne]; exact hs
        have n2 : (Lib.itoa m != s) = true := by simpa using hs
        have HN := Lib.hid (Cv.none_other (s := s) (by rw [HF.out]; exact hs))
        clear hs
        go_wp2_with fail
        refine (rdigits_any m _ (HF.out ▸ fin_I s)).mono ?_
        rintro e w1 ⟨rfl, hb⟩
        have B := Lib.hid hb
        clear hb
        go_wp2
        go_ret2
        exact ⟨ret_i2 (nv_none HN.out).symm (ne_none HN.out).symm, B.out⟩

set_option maxHeartbeats 1000000 in
theorem rnumber_1 (s : List UInt8) (w : World) (hm : Cv.mi s = true) (h0 : 0 < s.length) (x : UInt8) (hx : s[0] = x) (b0 : ((x.toNat : Int) == 45) = true) (hl : s.length ≤ 20) :
    Calls Tryz.prog 83 #[.string ⟨s.toArray⟩] w fun e w' => e = .returned (.tuple #[.int .i64 (Cv.nv s), .int .i64 (Cv.ne s)]) ∧ Below w.heap.size w w' := by
  have T := Lib.hid (And.intro hm hl)
  have l20 : decide ((20 : Int) < (s.length : Int)) = false := by rw [decide_eq_false_iff_not]; omega
  have l0 : decide ((0 : Int) < (s.length : Int)) = true := by rw [decide_eq_true_eq]; omega
  have hsz0 : 0 < (ByteArray.mk s.toArray).size := h0
  have hba0 : (ByteArray.mk s.toArray)[0] = x := (byte_at s 0 h0).trans hx
  clear hx
  have T0 := Lib.hid h0
  clear hm hl
  go_enter Tryz.func83, Tryz.ntmps83
  go_wp2
  clear b0 hba0 hsz0 l0 h0
  go_loop [4, 6] (fun n k => ∃ (j : Nat) (m : Int), k = .int .i64 j ∧ n = .int .i64 m ∧ Nl s 1 j m) (fun _ k => s.length - (intOf k).toNat)
  case atStart => exact ⟨1, 0, rfl, rfl, Nat.le_refl _, by have := T0.out; omega, by simp [Cv.wv], by simp, T.out.2⟩
  case round =>
    obtain ⟨j, m, rfl, rfl, J⟩ := hrel
    by_cases hlt : j < s.length
    · have hsz : j < (ByteArray.mk s.toArray).size := hlt
      have hba : (ByteArray.mk s.toArray)[j] = s[j] := byte_at s j hlt
      have l1 : decide ((j : Int) < (s.length : Int)) = true := by rw [decide_eq_true_eq]; omega
      cases hd : Cv.dg s[j] with
      | false =>
        have HN := Lib.hid (J.bad (tl_1 T.out.1) hlt hd)
        rcases dg_lo hd with h | ⟨h, g⟩
        · have d1 : decide ((s[j].toNat : Int) < 48) = true := by rw [decide_eq_true_eq]; omega
          clear h hd
          go_wp2
          go_ret2
          exact ⟨ret_i2 (nv_none HN.out).symm (ne_none HN.out).symm, Below.refl _ _⟩
        · have d1 : decide ((s[j].toNat : Int) < 48) = false := by rw [decide_eq_false_iff_not]; omega
          have d2 : decide (57 < (s[j].toNat : Int)) = true := by rw [decide_eq_true_eq]; omega
          clear h g hd
          go_wp2
          go_ret2
          exact ⟨ret_i2 (nv_none HN.out).symm (ne_none HN.out).symm, Below.refl _ _⟩
      | true =>
        have h := dg_in hd
        have d1 : decide ((s[j].toNat : Int) < 48) = false := by rw [decide_eq_false_iff_not]; omega
        have d2 : decide (57 < (s[j].toNat : Int)) = false := by rw [decide_eq_false_iff_not]; omega
        have HN := Lib.hid (J.next hlt hd)
        clear h hd
        go_wp2
        have hj20 : j < 20 := by have := J.2.2.2.2; omega
        have ew : wrap64 ((j : Int) + 1) = ((j + 1 : Nat) : Int) := by rw [wrap_in _ (by omega) (by omega)]; rfl
        have eb : wrap64 (s[j].toNat : Int) = (s[j].toNat : Int) := wrap_in _ (by omega) (by have := s[j].toNat_lt; omega)
        refine ⟨⟨j + 1, _, by rw [ew], by rw [eb], HN.out⟩, ?_⟩
        rw [ew]
        simp only [intOf]
        omega
    · have l1 : decide ((j : Int) < (s.length : Int)) = false := by rw [decide_eq_false_iff_not]; omega
      have l2 : decide (j < s.length) = false := by rw [decide_eq_false_iff_not]; exact hlt
      have hneg := Lib.hid (show Cv.fin s = wrap64 (-m) by unfold Cv.fin; rw [T.out.1, if_pos rfl, J.done (tl_1 T.out.1) hlt])
      obtain ⟨F, hF⟩ : ∃ F, wrap64 (-m) = F := ⟨_, rfl⟩
      have HF := Lib.hid (hneg.out.trans hF)
      have l3 : s.length ≤ j := by omega
      clear hlt hneg
      by_cases hs : Lib.itoa F = s
      · have HS := Lib.hid hs
        clear hs
        go_wp2_with fail
        refine (rdigits_is F s _ (HF.out ▸ fin_I s) HS.out).mono ?_
        rintro e w1 ⟨rfl, hb⟩
        have B := Lib.hid hb
        clear hb
        go_wp2
        go_ret2
        have hn : Cv.num s = some F := Cv.num_is (HF.out ▸ fin_I s) HS.out
        exact ⟨ret_i2 (nv_some hn).symm (ne_some hn).symm, B.out⟩
      · have n1 : (Lib.itoa F == s) = false := by rw [beq_eq_false_iff_ne]; exact hs
        have n2 : (Lib.itoa F != s) = true := by simpa using hs
        have HN := Lib.hid (Cv.none_other (s := s) (by rw [HF.out]; exact hs))
        clear hs
        go_wp2_with fail
        refine (rdigits_any F _ (HF.out ▸ fin_I s)).mono ?_
        rintro e w1 ⟨rfl, hb⟩
        have B := Lib.hid hb
        clear hb
        go_wp2
        go_ret2
        exact ⟨ret_i2 (nv_none HN.out).symm (ne_none HN.out).symm, B.out⟩

set_option maxHeartbeats 1000000 in
theorem rnumber_long0 (s : List UInt8) (w : World) (h0 : 0 < s.length) (x : UInt8) (hx : s[0] = x) (b0 : ((x.toNat : Int) == 45) = false) (hl : 20 < s.length) :
    Calls Tryz.prog 83 #[.string ⟨s.toArray⟩] w fun e w' => e = .returned (.tuple #[.int .i64 (Cv.nv s), .int .i64 (Cv.ne s)]) ∧ Below w.heap.size w w' := by
  have HN := Lib.hid (Cv.none_long hl)
  have l20 : decide ((20 : Int) < (s.length : Int)) = true := by rw [decide_eq_true_eq]; omega
  have l0 : decide ((0 : Int) < (s.length : Int)) = true := by rw [decide_eq_true_eq]; omega
  have hsz0 : 0 < (ByteArray.mk s.toArray).size := h0
  have hba0 : (ByteArray.mk s.toArray)[0] = x := (byte_at s 0 h0).trans hx
  clear hx hl
  go_enter Tryz.func83, Tryz.ntmps83
  go_wp2
  go_ret2
  exact ⟨ret_i2 (nv_none HN.out).symm (ne_none HN.out).symm, Below.refl _ _⟩
set_option maxHeartbeats 1000000 in
theorem rnumber_long1 (s : List UInt8) (w : World) (h0 : 0 < s.length) (x : UInt8) (hx : s[0] = x) (b0 : ((x.toNat : Int) == 45) = true) (hl : 20 < s.length) :
    Calls Tryz.prog 83 #[.string ⟨s.toArray⟩] w fun e w' => e = .returned (.tuple #[.int .i64 (Cv.nv s), .int .i64 (Cv.ne s)]) ∧ Below w.heap.size w w' := by
  have HN := Lib.hid (Cv.none_long hl)
  have l20 : decide ((20 : Int) < (s.length : Int)) = true := by rw [decide_eq_true_eq]; omega
  have l0 : decide ((0 : Int) < (s.length : Int)) = true := by rw [decide_eq_true_eq]; omega
  have hsz0 : 0 < (ByteArray.mk s.toArray).size := h0
  have hba0 : (ByteArray.mk s.toArray)[0] = x := (byte_at s 0 h0).trans hx
  clear hx hl
  go_enter Tryz.func83, Tryz.ntmps83
  go_wp2
  go_ret2
  exact ⟨ret_i2 (nv_none HN.out).symm (ne_none HN.out).symm, Below.refl _ _⟩

set_option maxHeartbeats 1000000 in
theorem rnumber_nil (w : World) :
    Calls Tryz.prog 83 #[.string ⟨([] : List UInt8).toArray⟩] w fun e w' => e = .returned (.tuple #[.int .i64 0, .int .i64 7]) ∧ Below w.heap.size w w' := by
  go_enter Tryz.func83, Tryz.ntmps83
  go_wp2
  refine wp_loop_rounds 1 ?_
  rw [rounds_succ]
  go_wp2_with fail
  refine (rdigits_is 0 [48] _ ⟨by decide, by decide⟩ (by simp [Lib.itoa, Lib.decDigits])).mono ?_
  rintro e w1 ⟨rfl, hb⟩
  have B := Lib.hid hb
  clear hb
  go_wp2
  go_ret2
  exact ⟨rfl, B.out⟩

/-- What the document's Number answers, in all. -/
theorem rnumber_any (s : List UInt8) (w : World) :
    Calls Tryz.prog 83 #[.string ⟨s.toArray⟩] w fun e w' => e = .returned (.tuple #[.int .i64 (Cv.nv s), .int .i64 (Cv.ne s)]) ∧ Below w.heap.size w w' := by
  cases s with
  | nil =>
    have hn : Cv.num [] = none := Cv.num_none fun n _ e => by
      unfold Lib.itoa at e
      split at e
      · cases e
      · exact Cv.dec_ne _ e
    rw [nv_none hn, ne_none hn]; exact rnumber_nil w
  | cons c r =>
    have h0 : 0 < (c :: r).length := by simp
    cases e : (c.toNat == 45) with
    | true =>
      have b0 : ((c.toNat : Int) == 45) = true := by rw [beq_iff_eq] at e ⊢; omega
      by_cases hl : (c :: r).length ≤ 20
      · exact rnumber_1 (c :: r) w e h0 c rfl b0 hl
      · exact rnumber_long1 (c :: r) w h0 c rfl b0 (by omega)
    | false =>
      have b0 : ((c.toNat : Int) == 45) = false := by rw [beq_eq_false_iff_ne] at e ⊢; omega
      by_cases hl : (c :: r).length ≤ 20
      · exact rnumber_0 (c :: r) w e h0 c rfl b0 hl
      · exact rnumber_long0 (c :: r) w h0 c rfl b0 (by omega)
theorem rnumber_is (s : List UInt8) (v e : Int) (w : World) (hv : Cv.nv s = v) (he : Cv.ne s = e) :
    Calls Tryz.prog 83 #[.string ⟨s.toArray⟩] w fun x w' => x = .returned (.tuple #[.int .i64 v, .int .i64 e]) ∧ Below w.heap.size w w' := by
  subst hv he; exact rnumber_any s w

end Go.Proofs.YtdonmbmahcjfbaaGreatDoor.Km
