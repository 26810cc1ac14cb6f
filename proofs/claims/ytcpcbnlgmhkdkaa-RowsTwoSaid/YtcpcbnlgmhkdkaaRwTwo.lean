/-
  What the document's SameRow and CmpRow answer of any two rows. Conditions: the bounds named in each theorem.
-/
import Derived.Test.YtcpcbnlgmhkdkaaRwPlain
import Derived.Test.YtcpcbnlgmhkdkaaVlRefCmp
import Derived.Deep.RegionHeld3
namespace Go.Proofs.Ytcpcbnlgmhkdkaa
open Go.RowKit

set_option maxHeartbeats 2000000 in
theorem sameRow_is (xs ys : List V) (ao bo : Option Addr) (ca cb : Nat) (w : World) (hl : xs.length ≤ 1000000) (ha : Sl w ao xs) (hb : Sl w bo ys) :
    Calls Try.prog 31 #[.slice ao xs.length ca, .slice bo ys.length cb] w fun e w' => e = .returned (.bool (rs xs ys)) ∧ Below w.heap.size w w' := by
  have hmx : Try.prog.follows .mixedOrders = true := by kernel_rfl
  by_cases hne : xs.length = ys.length
  · have H := Lib.hid (And.intro ha (And.intro hb (And.intro hl hne)))
    have n1 : ((xs.length : Int) == (ys.length : Int)) = true := beq_t (by omega)
    have n2 : ((xs.length : Int) != (ys.length : Int)) = false := by simp [hne]
    clear ha hb hl hne
    go_enter Try.func31, Try.ntmps31
    go_wp2
    go_loopw [5] (fun i wr => ∃ j : Nat, i = .int .i64 j ∧ j ≤ xs.length ∧ Below w.heap.size w wr ∧ rs xs ys = rs (xs.drop j) (ys.drop j)) (fun i _ => xs.length - (intOf i).toNat)
    case atStart => exact ⟨0, rfl, Nat.zero_le _, Below.refl _ _, rfl⟩
    case round =>
      obtain ⟨j, rfl, hj, hbel, hrs⟩ := hrel
      have J := Lib.hid (And.intro hbel hrs)
      clear hbel hrs
      by_cases hlt : j < xs.length
      · have hlu : j < ys.length := by have := H.out.2.2.2; omega
        obtain ⟨a, rfl, a0, a1, a2, a3⟩ := H.out.1.below J.out.1 j xs[j] (List.getElem?_eq_getElem hlt)
        obtain ⟨b, rfl, b0, b1, b2, b3⟩ := H.out.2.1.below J.out.1 j ys[j] (List.getElem?_eq_getElem hlu)
        have hw : wrap64 ((j : Int) + 1) = (j : Int) + 1 := by have := H.out.2.2.1; exact wrap_in _ (by omega) (by omega)
        by_cases hs : xs[j].sm ys[j] = true
        · have HE := Lib.hid hs
          have HN := Lib.hid (rs_drop hlt hlu hs)
          clear hs
          go_wp2
          go_region_with (go_at_call 56; refine (rsame_is _ _ _ _ _ _ _ _ true _ HE.out).mono ?_; rintro e w1 ⟨rfl, hb1⟩; have K := Lib.hid (step0 (below_drew1 J.out.1) hb1); clear hb1)
          all_goals go_wp2
          all_goals go_roundw
          all_goals first
            | exact ⟨j + 1, by go_num, hlt, K.out, J.out.2.trans HN.out⟩
            | (rw [hw]; simp [intOf]; omega)
        · have hs2 : xs[j].sm ys[j] = false := by simpa using hs
          have HE := Lib.hid hs2
          have HN := Lib.hid (J.out.2.trans (rs_stop hlt hlu hs2))
          clear hs hs2
          go_wp2
          go_region_with (go_at_call 56; refine (rsame_is _ _ _ _ _ _ _ _ false _ HE.out).mono ?_; rintro e w1 ⟨rfl, hb1⟩; have K := Lib.hid (step0 (below_drew1 J.out.1) hb1); clear hb1)
          all_goals go_wp2
          all_goals go_ret
          all_goals exact ⟨ret_bool HN.out.symm, K.out⟩
      · obtain rfl : j = xs.length := by omega
        have HN := Lib.hid (J.out.2.trans (rs_end rfl H.out.2.2.2))
        go_wp2
        go_ret
        exact ⟨ret_bool HN.out.symm, J.out.1⟩
  · have hf : rs xs ys = false := by
      cases h : rs xs ys with
      | false => rfl
      | true => exact absurd (rs_len xs ys h) hne
    have n1 : ((xs.length : Int) == (ys.length : Int)) = false := beq_f (by omega)
    have n2 : ((xs.length : Int) != (ys.length : Int)) = true := bne_t (by omega)
    rw [hf]
    clear ha hb hl hne hf
    go_enter Try.func31, Try.ntmps31
    go_wp2
    go_ret
    exact ⟨rfl, Below.refl _ _⟩

theorem same06 (xs ys : List V) (r : Bool) (ao bo : Option Addr) (ca cb : Nat) (w : World) (hl : xs.length ≤ 1000000) (ha : Sl w ao xs) (hb : Sl w bo ys) (h : rs xs ys = r) :
    Calls Try.prog 14 #[.slice ao xs.length ca, .slice bo ys.length cb] w fun e w' => e = .returned (.bool r) ∧ Below w.heap.size w w' := by
  subst h
  have H := Lib.hid (And.intro hl (And.intro ha hb))
  clear hl ha hb
  go_enter Try.func14, Try.ntmps14
  go_wp2_with fail
  refine (sameRow_is xs ys ao bo ca cb _ H.out.1 H.out.2.1 H.out.2.2).mono ?_
  rintro e w1 ⟨rfl, hb⟩
  have B := Lib.hid hb
  clear hb
  go_wp2
  go_ret
  exact ⟨rfl, B.out⟩
set_option maxHeartbeats 4000000 in
theorem cmpRow_is (xs ys : List V) (ao bo : Option Addr) (ca cb : Nat) (w : World) (hl : xs.length ≤ 30) (hm : ys.length ≤ 30) (ha : Sl w ao xs) (hb : Sl w bo ys) (oa : ∀ x ∈ xs, x.ok) (ob : ∀ x ∈ ys, x.ok) :
    Calls Try.prog 37 #[.slice ao xs.length ca, .slice bo ys.length cb] w fun e w' => e = .returned (.int .i64 (rc xs ys)) ∧ Below w.heap.size w w' := by
  have H := Lib.hid (And.intro ha (And.intro hb (And.intro hl (And.intro hm (And.intro oa ob)))))
  have hmx : Try.prog.follows .mixedOrders = true := by kernel_rfl
  clear ha hb hl hm oa ob
  go_enter Try.func37, Try.ntmps37
  go_wp2
  go_loopw [5] (fun i wr => ∃ j : Nat, i = .int .i64 j ∧ j ≤ xs.length ∧ j ≤ ys.length ∧ Below w.heap.size w wr ∧ rc xs ys = rc (xs.drop j) (ys.drop j)) (fun i _ => xs.length - (intOf i).toNat)
  case atStart => exact ⟨0, rfl, Nat.zero_le _, Nat.zero_le _, Below.refl _ _, rfl⟩
  case round =>
    obtain ⟨j, rfl, hj, hk, hbel, hrc⟩ := hrel
    have J := Lib.hid (And.intro hbel (And.intro hrc (And.intro hj hk)))
    clear hbel hrc hj hk
    by_cases hlt : j < xs.length
    · by_cases hlu : j < ys.length
      · obtain ⟨a, rfl, a0, a1, a2, a3⟩ := H.out.1.below J.out.1 j xs[j] (List.getElem?_eq_getElem hlt)
        obtain ⟨b, rfl, b0, b1, b2, b3⟩ := H.out.2.1.below J.out.1 j ys[j] (List.getElem?_eq_getElem hlu)
        have hw : wrap64 ((j : Int) + 1) = (j : Int) + 1 := by have := H.out.2.2.1; exact wrap_in _ (by omega) (by omega)
        obtain ⟨c, hc⟩ : ∃ c, xs[j].vc ys[j] = c := ⟨_, rfl⟩
        have HC := Lib.hid hc
        have o1 := Lib.hid (H.out.2.2.2.2.1 _ (List.getElem_mem hlt))
        have o2 := Lib.hid (H.out.2.2.2.2.2 _ (List.getElem_mem hlu))
        clear hc
        by_cases hz : c = 0
        · subst hz
          go_wp2
          go_region_with (go_at_call 61; refine (rcmp_is _ _ _ _ _ _ _ _ 0 _ o1.out.1 o2.out.1 HC.out).mono ?_; rintro e w1 ⟨rfl, hb1⟩; have K := Lib.hid (step0 (below_drew1 J.out.1) hb1); clear hb1)
          all_goals go_wp2
          all_goals go_roundw
          all_goals first
            | exact ⟨j + 1, by go_num, hlt, hlu, K.out, by rw [J.out.2.1, rc_next hlt hlu HC.out]⟩
            | (rw [hw]; simp [intOf]; omega)
        · have z1 := bne_t hz
          have z2 := beq_f hz
          have HR := Lib.hid (show rc xs ys = c from by rw [J.out.2.1, rc_stop hlt hlu (by rw [HC.out]; exact hz), HC.out])
          go_wp2
          go_region_with (go_at_call 61; refine (rcmp_is _ _ _ _ _ _ _ _ c _ o1.out.1 o2.out.1 HC.out).mono ?_; rintro e w1 ⟨rfl, hb1⟩; have K := Lib.hid (step0 (below_drew1 J.out.1) hb1); clear hb1)
          all_goals go_wp2
          all_goals go_ret
          all_goals exact ⟨ret_int HR.out.symm, K.out⟩
      · have e : j = ys.length := by have := J.out; omega
        have HR := Lib.hid (show rc xs ys = 1 from by rw [J.out.2.1, rc_more hlt e])
        subst e
        have n1 : ((xs.length : Int) == (ys.length : Int)) = false := beq_f (by omega)
        have n2 : ((xs.length : Int) != (ys.length : Int)) = true := bne_t (by omega)
        have n3 : decide ((xs.length : Int) < (ys.length : Int)) = false := by rw [decide_eq_false_iff_not]; omega
        have n4 : (ys.length : Int) < (xs.length : Int) := by omega
        have HD := Lib.hid (show decide (xs.length < ys.length) = false from by rw [decide_eq_false_iff_not]; omega)
        clear hlt hlu
        go_wp2_with (go_at_call 62; rw [HD.out]; refine (order_f _).mono ?_; rintro e w' ⟨rfl, rfl⟩)
        go_ret
        exact ⟨ret_int HR.out.symm, J.out.1⟩
    · have e : j = xs.length := by have := J.out; omega
      subst e
      by_cases hlu : xs.length < ys.length
      · have HR := Lib.hid (show rc xs ys = -1 from by rw [J.out.2.1, rc_less rfl hlu])
        have n1 : ((xs.length : Int) == (ys.length : Int)) = false := beq_f (by omega)
        have n2 : ((xs.length : Int) != (ys.length : Int)) = true := bne_t (by omega)
        have n3 : (xs.length : Int) < (ys.length : Int) := by omega
        clear hlt hlu
        go_wp2_with (go_at_call 62; refine (order_t _).mono ?_; rintro e w' ⟨rfl, rfl⟩)
        go_ret
        exact ⟨ret_int HR.out.symm, J.out.1⟩
      · have e : xs.length = ys.length := by have := J.out; omega
        have HR := Lib.hid (show rc xs ys = 0 from by rw [J.out.2.1, rc_same rfl e])
        have n1 : ((xs.length : Int) == (ys.length : Int)) = true := beq_t (by omega)
        have n2 : ((xs.length : Int) != (ys.length : Int)) = false := by simp [e]
        clear hlt hlu e
        go_wp2
        go_ret
        exact ⟨ret_int HR.out.symm, J.out.1⟩

theorem cmp06 (xs ys : List V) (c : Int) (ao bo : Option Addr) (ca cb : Nat) (w : World) (hl : xs.length ≤ 30) (hm : ys.length ≤ 30) (ha : Sl w ao xs) (hb : Sl w bo ys) (oa : ∀ x ∈ xs, x.ok) (ob : ∀ x ∈ ys, x.ok) (h : rc xs ys = c) :
    Calls Try.prog 17 #[.slice ao xs.length ca, .slice bo ys.length cb] w fun e w' => e = .returned (.int .i64 c) ∧ Below w.heap.size w w' := by
  subst h
  have H := Lib.hid (And.intro hl (And.intro hm (And.intro ha (And.intro hb (And.intro oa ob)))))
  clear hl hm ha hb oa ob
  go_enter Try.func17, Try.ntmps17
  go_wp2_with fail
  refine (cmpRow_is xs ys ao bo ca cb _ H.out.1 H.out.2.1 H.out.2.2.1 H.out.2.2.2.1 H.out.2.2.2.2.1 H.out.2.2.2.2.2).mono ?_
  rintro e w1 ⟨rfl, hb⟩
  have B := Lib.hid hb
  clear hb
  go_wp2
  go_ret
  exact ⟨rfl, B.out⟩

end Go.Proofs.Ytcpcbnlgmhkdkaa
