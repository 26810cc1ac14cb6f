/-
  What the document's SameRow answers of a row and itself, and its CmpRow of any two rows. Conditions: the bounds named in each theorem.
-/
import Derived.Test.YtfemigdghdbbgaaKcReadRow
import Derived.Test.YtfemigdghdbbgaaVlRefCmp
namespace Go.Proofs.Ytfemigdghdbbgaa
open Go.RowKit

set_option maxHeartbeats 2000000 in
theorem sameRow_t (xs : List V) (ao bo : Option Addr) (ca cb : Nat) (w : World) (hl : xs.length ≤ 1000000) (ha : Sl w ao xs) (hb : Sl w bo xs) :
    Calls Try.prog 19 #[.slice ao xs.length ca, .slice bo xs.length cb] w fun e w' => e = .returned (.bool true) ∧ Below w.heap.size w w' := by
  have H := Lib.hid (And.intro ha (And.intro hb hl))
  have hmx : Try.prog.follows .mixedOrders = true := by kernel_rfl
  clear ha hb hl
  go_enter Try.func19, Try.ntmps19
  go_wp2
  go_loopw [5] (fun i wr => ∃ j : Nat, i = .int .i64 j ∧ j ≤ xs.length ∧ Below w.heap.size w wr) (fun i _ => xs.length - (intOf i).toNat)
  case atStart => exact ⟨0, rfl, Nat.zero_le _, Below.refl _ _⟩
  case round =>
    obtain ⟨j, rfl, hj, hbel⟩ := hrel
    have J := Lib.hid hbel
    clear hbel
    by_cases hlt : j < xs.length
    · obtain ⟨a, rfl, a0, a1, a2, a3⟩ := H.out.1.below J.out j xs[j] (List.getElem?_eq_getElem hlt)
      obtain ⟨b, rfl, b0, b1, b2, b3⟩ := H.out.2.1.below J.out j xs[j] (List.getElem?_eq_getElem hlt)
      have hw : wrap64 ((j : Int) + 1) = (j : Int) + 1 := by have := H.out.2.2; exact wrap_in _ (by omega) (by omega)
      have HE := Lib.hid (show Vl.sm xs[j].k xs[j].n xs[j].b xs[j].s xs[j].k xs[j].n xs[j].b xs[j].s = true from by unfold Vl.sm; simp)
      go_wp2
      go_region_with (go_at_call 18; refine (rsame_is _ _ _ _ _ _ _ _ true _ HE.out).mono ?_; rintro e w1 ⟨rfl, hb1⟩; have K := Lib.hid (step0 (below_drew1 J.out) hb1); clear hb1)
      all_goals go_wp2
      all_goals go_roundw
      all_goals first
        | exact ⟨j + 1, by go_num, hlt, K.out⟩
        | (rw [hw]; simp [intOf]; omega)
    · obtain rfl : j = xs.length := by omega
      go_wp2
      go_ret
      exact ⟨rfl, J.out⟩

theorem rc_next {xs ys : List V} {j : Nat} (h1 : j < xs.length) (h2 : j < ys.length) (h : xs[j].vc ys[j] = 0) : rc (xs.drop j) (ys.drop j) = rc (xs.drop (j + 1)) (ys.drop (j + 1)) := by
  rw [List.drop_eq_getElem_cons h1, List.drop_eq_getElem_cons h2, rc, if_pos h]
theorem rc_stop {xs ys : List V} {j : Nat} (h1 : j < xs.length) (h2 : j < ys.length) (h : xs[j].vc ys[j] ≠ 0) : rc (xs.drop j) (ys.drop j) = xs[j].vc ys[j] := by
  rw [List.drop_eq_getElem_cons h1, List.drop_eq_getElem_cons h2, rc, if_neg h]
theorem rc_less {xs ys : List V} {j : Nat} (h1 : j = xs.length) (h2 : j < ys.length) : rc (xs.drop j) (ys.drop j) = -1 := by
  subst h1; rw [List.drop_eq_getElem_cons h2, List.drop_length]; rfl
theorem rc_more {xs ys : List V} {j : Nat} (h1 : j < xs.length) (h2 : j = ys.length) : rc (xs.drop j) (ys.drop j) = 1 := by
  subst h2; rw [List.drop_eq_getElem_cons h1, List.drop_length]; rfl
theorem rc_same {xs ys : List V} {j : Nat} (h1 : j = xs.length) (h2 : j = ys.length) : rc (xs.drop j) (ys.drop j) = 0 := by
  rw [List.drop_of_length_le (by omega), List.drop_of_length_le (by omega)]; rfl

set_option maxHeartbeats 4000000 in
theorem cmpRow_is (xs ys : List V) (ao bo : Option Addr) (ca cb : Nat) (w : World) (hl : xs.length ≤ 30) (hm : ys.length ≤ 30) (ha : Sl w ao xs) (hb : Sl w bo ys) (oa : ∀ x ∈ xs, x.ok) (ob : ∀ x ∈ ys, x.ok) :
    Calls Try.prog 23 #[.slice ao xs.length ca, .slice bo ys.length cb] w fun e w' => e = .returned (.int .i64 (rc xs ys)) ∧ Below w.heap.size w w' := by
  have H := Lib.hid (And.intro ha (And.intro hb (And.intro hl (And.intro hm (And.intro oa ob)))))
  have hmx : Try.prog.follows .mixedOrders = true := by kernel_rfl
  clear ha hb hl hm oa ob
  go_enter Try.func23, Try.ntmps23
  go_wp2
  go_loopw [5] (fun i wr => ∃ j : Nat, i = .int .i64 j ∧ j ≤ xs.length ∧ j ≤ ys.length ∧ Below w.heap.size w wr ∧ rc xs ys = rc (xs.drop j) (ys.drop j)) (fun i _ => xs.length - (intOf i).toNat)
  case atStart => exact ⟨0, rfl, Nat.zero_le _, Nat.zero_le _, Below.refl _ _, rfl⟩
  case round =>
    obtain ⟨j, rfl, hj, hk, hbel, hrc⟩ := hrel
    have J := Lib.hid (And.intro hbel (And.intro hrc (And.intro hj hk)))
    clear hbel hrc hj hk
    by_cases hlt : j < xs.length
    · by_cases hlu : j < ys.length
      · obtain ⟨a, rfl, a0, a1, a2, a3⟩ := H.out.1.below J.out.1 j xs[j] (List.getElem?_eq_getElem hlt)
        obtain ⟨b, rfl, b0, b1, b2, b3⟩ := H.out.2.1.below J.out.1 j ys[j] (List.getElem?_eq_getElem hlu)
        have hw : wrap64 ((j : Int) + 1) = (j : Int) + 1 := by have := H.out.2.2.1; exact wrap_in _ (by omega) (by omega)
        obtain ⟨c, hc⟩ : ∃ c, xs[j].vc ys[j] = c := ⟨_, rfl⟩
        have HC := Lib.hid hc
        have o1 := Lib.hid (H.out.2.2.2.2.1 _ (List.getElem_mem hlt))
        have o2 := Lib.hid (H.out.2.2.2.2.2 _ (List.getElem_mem hlu))
        clear hc
        by_cases hz : c = 0
        · subst hz
          go_wp2
          go_region_with (go_at_call 37; refine (rcmp_is _ _ _ _ _ _ _ _ 0 _ o1.out.1 o2.out.1 HC.out).mono ?_; rintro e w1 ⟨rfl, hb1⟩; have K := Lib.hid (step0 (below_drew1 J.out.1) hb1); clear hb1)
          all_goals go_wp2
          all_goals go_roundw
          all_goals first
            | exact ⟨j + 1, by go_num, hlt, hlu, K.out, by rw [J.out.2.1, rc_next hlt hlu HC.out]⟩
            | (rw [hw]; simp [intOf]; omega)
        · have z1 := bne_t hz
          have z2 := beq_f hz
          have HR := Lib.hid (show rc xs ys = c from by rw [J.out.2.1, rc_stop hlt hlu (by rw [HC.out]; exact hz), HC.out])
          go_wp2
          go_region_with (go_at_call 37; refine (rcmp_is _ _ _ _ _ _ _ _ c _ o1.out.1 o2.out.1 HC.out).mono ?_; rintro e w1 ⟨rfl, hb1⟩; have K := Lib.hid (step0 (below_drew1 J.out.1) hb1); clear hb1)
          all_goals go_wp2
          all_goals go_ret
          all_goals exact ⟨ret_int HR.out.symm, K.out⟩
      · have e : j = ys.length := by have := J.out; omega
        have HR := Lib.hid (show rc xs ys = 1 from by rw [J.out.2.1, rc_more hlt e])
        subst e
        have n1 : ((xs.length : Int) == (ys.length : Int)) = false := beq_f (by omega)
        have n2 : ((xs.length : Int) != (ys.length : Int)) = true := bne_t (by omega)
        have n3 : decide ((xs.length : Int) < (ys.length : Int)) = false := by rw [decide_eq_false_iff_not]; omega
        have n4 : (ys.length : Int) < (xs.length : Int) := by omega
        have HD := Lib.hid (show decide (xs.length < ys.length) = false from by rw [decide_eq_false_iff_not]; omega)
        clear hlt hlu
        go_wp2_with (go_at_call 38; rw [HD.out]; refine (order_f _).mono ?_; rintro e w' ⟨rfl, rfl⟩)
        go_ret
        exact ⟨ret_int HR.out.symm, J.out.1⟩
    · have e : j = xs.length := by have := J.out; omega
      subst e
      by_cases hlu : xs.length < ys.length
      · have HR := Lib.hid (show rc xs ys = -1 from by rw [J.out.2.1, rc_less rfl hlu])
        have n1 : ((xs.length : Int) == (ys.length : Int)) = false := beq_f (by omega)
        have n2 : ((xs.length : Int) != (ys.length : Int)) = true := bne_t (by omega)
        have n3 : (xs.length : Int) < (ys.length : Int) := by omega
        clear hlt hlu
        go_wp2_with (go_at_call 38; refine (order_t _).mono ?_; rintro e w' ⟨rfl, rfl⟩)
        go_ret
        exact ⟨ret_int HR.out.symm, J.out.1⟩
      · have e : xs.length = ys.length := by have := J.out; omega
        have HR := Lib.hid (show rc xs ys = 0 from by rw [J.out.2.1, rc_same rfl e])
        have n1 : ((xs.length : Int) == (ys.length : Int)) = true := beq_t (by omega)
        have n2 : ((xs.length : Int) != (ys.length : Int)) = false := by simp [e]
        clear hlt hlu e
        go_wp2
        go_ret
        exact ⟨ret_int HR.out.symm, J.out.1⟩

end Go.Proofs.Ytfemigdghdbbgaa
