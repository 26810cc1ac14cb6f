/-
  The walk of law KeycodeAfter. No condition.
-/
import Derived.Test.YtfemigdghdbbgaaKcAwake
import Derived.Laws.Cover1
namespace Go.Proofs.Ytfemigdghdbbgaa
open Go.RowKit

theorem rafter_x (s T : List UInt8) (w : World) (hs : s.length ≤ 1000000) (h : Kc.af s = T) :
    Calls Try.prog 21 #[.string ⟨s.toArray⟩] w fun e w' => e = .returned (.string ⟨T.toArray⟩) ∧ Below w.heap.size w w' := by
  subst h; exact rafter_is s w hs

set_option maxHeartbeats 2000000 in
theorem keycodeAfter_far (s t : List UInt8) (w : World) (h : 2000 < s.length ∨ 2000 < t.length) :
    Calls Try.prog 5 #[.string ⟨s.toArray⟩, .string ⟨t.toArray⟩] w fun e w' => e = .returned (.bool true) ∧ Below w.heap.size w w' := by
  by_cases hs : 2000 < s.length
  · have l1 : (2000 : Int) < (s.length : Int) := by omega
    clear h hs
    go_enter Try.func5, Try.ntmps5
    go_wp2_with fail
    refine (awake_any _).mono ?_
    rintro e w7 ⟨rfl, hb⟩
    have A7 := Lib.hid hb
    clear hb
    go_wp2
    go_ret
    exact ⟨rfl, A7.out⟩
  · have l1 : decide ((2000 : Int) < (s.length : Int)) = false := by rw [decide_eq_false_iff_not]; omega
    have l2 : (2000 : Int) < (t.length : Int) := by omega
    clear h hs
    go_enter Try.func5, Try.ntmps5
    go_wp2_with fail
    refine (awake_any _).mono ?_
    rintro e w7 ⟨rfl, hb⟩
    have A7 := Lib.hid hb
    clear hb
    go_wp2
    go_ret
    exact ⟨rfl, A7.out⟩

set_option maxHeartbeats 2000000 in
theorem keycodeAfter_none (s t : List UInt8) (w : World) (hs : s.length ≤ 2000) (ht : t.length ≤ 2000) (ha : Kc.af s = []) :
    Calls Try.prog 5 #[.string ⟨s.toArray⟩, .string ⟨t.toArray⟩] w fun e w' => e = .returned (.bool true) ∧ Below w.heap.size w w' := by
  have l1 : decide ((2000 : Int) < (s.length : Int)) = false := by rw [decide_eq_false_iff_not]; omega
  have l2 : decide ((2000 : Int) < (t.length : Int)) = false := by rw [decide_eq_false_iff_not]; omega
  have H := Lib.hid (And.intro hs ha)
  clear hs ht ha
  go_enter Try.func5, Try.ntmps5
  go_wp2_with fail
  refine (after_x s [] _ (by have := H.out.1; omega) H.out.2).mono ?_
  rintro e w1 ⟨rfl, hb⟩
  have A1 := Lib.hid hb
  clear hb
  go_wp2_with fail
  refine (rafter_x s [] _ (by have := H.out.1; omega) H.out.2).mono ?_
  rintro e w2 ⟨rfl, hb⟩
  have A2 := Lib.hid (step0 A1.out hb)
  clear hb
  go_wp2_with fail
  refine (awake_any _).mono ?_
  rintro e w3 ⟨rfl, hb⟩
  have A3 := Lib.hid (step0 A2.out hb)
  clear hb
  go_wp2
  go_ret
  exact ⟨rfl, A3.out⟩

set_option maxHeartbeats 2000000 in
theorem keycodeAfter_yes (s t A : List UInt8) (w : World) (hs : s.length ≤ 2000) (ht : t.length ≤ 2000) (hA : Kc.af s = A) (ha : Kc.af s ≠ []) (hl : s.length ≤ t.length) (hn : t.take s.length = s) (h1 : ¬ t < s) (h2 : t < Kc.af s) :
    Calls Try.prog 5 #[.string ⟨s.toArray⟩, .string ⟨t.toArray⟩] w fun e w' => e = .returned (.bool true) ∧ Below w.heap.size w w' := by
  have l1 : decide ((2000 : Int) < (s.length : Int)) = false := by rw [decide_eq_false_iff_not]; omega
  have l2 : decide ((2000 : Int) < (t.length : Int)) = false := by rw [decide_eq_false_iff_not]; omega
  have H := Lib.hid (And.intro hs hA)
  have hnn : ¬ A = [] := by rw [← hA]; exact ha
  have hie : A.isEmpty = false := by cases A with | nil => exact absurd rfl hnn | cons _ _ => rfl
  have m1 : (s.length : Int) ≤ (t.length : Int) := by omega
  have m2 : decide ((s.length : Int) ≤ (t.length : Int)) = true := by rw [decide_eq_true_iff]; omega
  have ct := cut_to t s.length
  rw [hn] at ct
  have z1 : Op.bytesLess t s = false := by rw [Vl.less_eq]; simp [h1]
  have z2 : Op.bytesLess t A = true := by rw [Vl.less_eq]; rw [hA] at h2; simp [h2]
  clear hs ht hA ha hl hn h1 h2
  go_enter Try.func5, Try.ntmps5
  go_wp2_with fail
  refine (after_x s A _ (by have := H.out.1; omega) H.out.2).mono ?_
  rintro e w1 ⟨rfl, hb⟩
  have A1 := Lib.hid hb
  clear hb
  go_wp2_with fail
  refine (rafter_x s A _ (by have := H.out.1; omega) H.out.2).mono ?_
  rintro e w2 ⟨rfl, hb⟩
  have A2 := Lib.hid (step0 A1.out hb)
  clear hb
  go_wp2_with fail
  refine (awake_any _).mono ?_
  rintro e w3 ⟨rfl, hb⟩
  have A3 := Lib.hid (step0 A2.out hb)
  clear hb
  go_wp2
  go_ret
  exact ⟨rfl, A3.out⟩

set_option maxHeartbeats 2000000 in
theorem keycodeAfter_ll (s t A : List UInt8) (w : World) (hs : s.length ≤ 2000) (ht : t.length ≤ 2000) (hA : Kc.af s = A) (ha : Kc.af s ≠ []) (hl : s.length ≤ t.length) (hn : t.take s.length ≠ s) (h1 : t < s) :
    Calls Try.prog 5 #[.string ⟨s.toArray⟩, .string ⟨t.toArray⟩] w fun e w' => e = .returned (.bool true) ∧ Below w.heap.size w w' := by
  have l1 : decide ((2000 : Int) < (s.length : Int)) = false := by rw [decide_eq_false_iff_not]; omega
  have l2 : decide ((2000 : Int) < (t.length : Int)) = false := by rw [decide_eq_false_iff_not]; omega
  have H := Lib.hid (And.intro hs hA)
  have hnn : ¬ A = [] := by rw [← hA]; exact ha
  have hie : A.isEmpty = false := by cases A with | nil => exact absurd rfl hnn | cons _ _ => rfl
  have m1 : (s.length : Int) ≤ (t.length : Int) := by omega
  have m2 : decide ((s.length : Int) ≤ (t.length : Int)) = true := by rw [decide_eq_true_iff]; omega
  have ct := cut_to t s.length
  obtain ⟨P, hP⟩ : ∃ P, t.take s.length = P := ⟨_, rfl⟩
  rw [hP] at ct hn
  have n1 : (P == s) = false := by rw [beq_eq_false_iff_ne]; exact hn
  have n2 : ¬ P = s := hn
  have z1 : Op.bytesLess t s = true := by rw [Vl.less_eq]; simp [h1]
  clear hs ht hA ha hl hn h1 hP
  go_enter Try.func5, Try.ntmps5
  go_wp2_with fail
  refine (after_x s A _ (by have := H.out.1; omega) H.out.2).mono ?_
  rintro e w1 ⟨rfl, hb⟩
  have A1 := Lib.hid hb
  clear hb
  go_wp2_with fail
  refine (rafter_x s A _ (by have := H.out.1; omega) H.out.2).mono ?_
  rintro e w2 ⟨rfl, hb⟩
  have A2 := Lib.hid (step0 A1.out hb)
  clear hb
  go_wp2_with fail
  refine (awake_any _).mono ?_
  rintro e w3 ⟨rfl, hb⟩
  have A3 := Lib.hid (step0 A2.out hb)
  clear hb
  go_wp2
  go_ret
  exact ⟨rfl, A3.out⟩

set_option maxHeartbeats 2000000 in
theorem keycodeAfter_lm (s t A : List UInt8) (w : World) (hs : s.length ≤ 2000) (ht : t.length ≤ 2000) (hA : Kc.af s = A) (ha : Kc.af s ≠ []) (hl : s.length ≤ t.length) (hn : t.take s.length ≠ s) (h1 : ¬ t < s) (h2 : ¬ t < Kc.af s) :
    Calls Try.prog 5 #[.string ⟨s.toArray⟩, .string ⟨t.toArray⟩] w fun e w' => e = .returned (.bool true) ∧ Below w.heap.size w w' := by
  have l1 : decide ((2000 : Int) < (s.length : Int)) = false := by rw [decide_eq_false_iff_not]; omega
  have l2 : decide ((2000 : Int) < (t.length : Int)) = false := by rw [decide_eq_false_iff_not]; omega
  have H := Lib.hid (And.intro hs hA)
  have hnn : ¬ A = [] := by rw [← hA]; exact ha
  have hie : A.isEmpty = false := by cases A with | nil => exact absurd rfl hnn | cons _ _ => rfl
  have m1 : (s.length : Int) ≤ (t.length : Int) := by omega
  have m2 : decide ((s.length : Int) ≤ (t.length : Int)) = true := by rw [decide_eq_true_iff]; omega
  have ct := cut_to t s.length
  obtain ⟨P, hP⟩ : ∃ P, t.take s.length = P := ⟨_, rfl⟩
  rw [hP] at ct hn
  have n1 : (P == s) = false := by rw [beq_eq_false_iff_ne]; exact hn
  have n2 : ¬ P = s := hn
  have z1 : Op.bytesLess t s = false := by rw [Vl.less_eq]; simp [h1]
  have z2 : Op.bytesLess t A = false := by rw [Vl.less_eq]; rw [hA] at h2; simp [h2]
  clear hs ht hA ha hl hn h1 h2 hP
  go_enter Try.func5, Try.ntmps5
  go_wp2_with fail
  refine (after_x s A _ (by have := H.out.1; omega) H.out.2).mono ?_
  rintro e w1 ⟨rfl, hb⟩
  have A1 := Lib.hid hb
  clear hb
  go_wp2_with fail
  refine (rafter_x s A _ (by have := H.out.1; omega) H.out.2).mono ?_
  rintro e w2 ⟨rfl, hb⟩
  have A2 := Lib.hid (step0 A1.out hb)
  clear hb
  go_wp2_with fail
  refine (awake_any _).mono ?_
  rintro e w3 ⟨rfl, hb⟩
  have A3 := Lib.hid (step0 A2.out hb)
  clear hb
  go_wp2
  go_ret
  exact ⟨rfl, A3.out⟩

set_option maxHeartbeats 2000000 in
theorem keycodeAfter_sl (s t A : List UInt8) (w : World) (hs : s.length ≤ 2000) (ht : t.length ≤ 2000) (hA : Kc.af s = A) (ha : Kc.af s ≠ []) (hl : t.length < s.length) (h1 : t < s) :
    Calls Try.prog 5 #[.string ⟨s.toArray⟩, .string ⟨t.toArray⟩] w fun e w' => e = .returned (.bool true) ∧ Below w.heap.size w w' := by
  have l1 : decide ((2000 : Int) < (s.length : Int)) = false := by rw [decide_eq_false_iff_not]; omega
  have l2 : decide ((2000 : Int) < (t.length : Int)) = false := by rw [decide_eq_false_iff_not]; omega
  have H := Lib.hid (And.intro hs hA)
  have hnn : ¬ A = [] := by rw [← hA]; exact ha
  have hie : A.isEmpty = false := by cases A with | nil => exact absurd rfl hnn | cons _ _ => rfl
  have m1 : decide ((s.length : Int) ≤ (t.length : Int)) = false := by rw [decide_eq_false_iff_not]; omega
  have m2 : decide (s.length ≤ t.length) = false := by rw [decide_eq_false_iff_not]; omega
  have m3 : (t.length : Int) < (s.length : Int) := by omega
  have z1 : Op.bytesLess t s = true := by rw [Vl.less_eq]; simp [h1]
  clear hs ht hA ha hl h1
  go_enter Try.func5, Try.ntmps5
  go_wp2_with fail
  refine (after_x s A _ (by have := H.out.1; omega) H.out.2).mono ?_
  rintro e w1 ⟨rfl, hb⟩
  have A1 := Lib.hid hb
  clear hb
  go_wp2_with fail
  refine (rafter_x s A _ (by have := H.out.1; omega) H.out.2).mono ?_
  rintro e w2 ⟨rfl, hb⟩
  have A2 := Lib.hid (step0 A1.out hb)
  clear hb
  go_wp2_with fail
  refine (awake_any _).mono ?_
  rintro e w3 ⟨rfl, hb⟩
  have A3 := Lib.hid (step0 A2.out hb)
  clear hb
  go_wp2
  go_ret
  exact ⟨rfl, A3.out⟩

set_option maxHeartbeats 2000000 in
theorem keycodeAfter_sm (s t A : List UInt8) (w : World) (hs : s.length ≤ 2000) (ht : t.length ≤ 2000) (hA : Kc.af s = A) (ha : Kc.af s ≠ []) (hl : t.length < s.length) (h1 : ¬ t < s) (h2 : ¬ t < Kc.af s) :
    Calls Try.prog 5 #[.string ⟨s.toArray⟩, .string ⟨t.toArray⟩] w fun e w' => e = .returned (.bool true) ∧ Below w.heap.size w w' := by
  have l1 : decide ((2000 : Int) < (s.length : Int)) = false := by rw [decide_eq_false_iff_not]; omega
  have l2 : decide ((2000 : Int) < (t.length : Int)) = false := by rw [decide_eq_false_iff_not]; omega
  have H := Lib.hid (And.intro hs hA)
  have hnn : ¬ A = [] := by rw [← hA]; exact ha
  have hie : A.isEmpty = false := by cases A with | nil => exact absurd rfl hnn | cons _ _ => rfl
  have m1 : decide ((s.length : Int) ≤ (t.length : Int)) = false := by rw [decide_eq_false_iff_not]; omega
  have m2 : decide (s.length ≤ t.length) = false := by rw [decide_eq_false_iff_not]; omega
  have m3 : (t.length : Int) < (s.length : Int) := by omega
  have z1 : Op.bytesLess t s = false := by rw [Vl.less_eq]; simp [h1]
  have z2 : Op.bytesLess t A = false := by rw [Vl.less_eq]; rw [hA] at h2; simp [h2]
  clear hs ht hA ha hl h1 h2
  go_enter Try.func5, Try.ntmps5
  go_wp2_with fail
  refine (after_x s A _ (by have := H.out.1; omega) H.out.2).mono ?_
  rintro e w1 ⟨rfl, hb⟩
  have A1 := Lib.hid hb
  clear hb
  go_wp2_with fail
  refine (rafter_x s A _ (by have := H.out.1; omega) H.out.2).mono ?_
  rintro e w2 ⟨rfl, hb⟩
  have A2 := Lib.hid (step0 A1.out hb)
  clear hb
  go_wp2_with fail
  refine (awake_any _).mono ?_
  rintro e w3 ⟨rfl, hb⟩
  have A3 := Lib.hid (step0 A2.out hb)
  clear hb
  go_wp2
  go_ret
  exact ⟨rfl, A3.out⟩

theorem keycodeAfter_walk (s t : List UInt8) (w : World) :
    Calls Try.prog 5 #[.string ⟨s.toArray⟩, .string ⟨t.toArray⟩] w fun e w' => e = .returned (.bool true) ∧ Below w.heap.size w w' := by
  by_cases h : 2000 < s.length ∨ 2000 < t.length
  · exact keycodeAfter_far s t w h
  have hs : s.length ≤ 2000 := by omega
  have ht : t.length ≤ 2000 := by omega
  by_cases ha : Kc.af s = []
  · exact keycodeAfter_none s t w hs ht ha
  have hb := Kc.af_begins s t ha
  by_cases hp : s <+: t
  · obtain ⟨h1, h2⟩ := hb.1 hp
    exact keycodeAfter_yes s t _ w hs ht rfl ha hp.length_le (List.prefix_iff_eq_take.1 hp).symm h1 h2
  · by_cases hl : s.length ≤ t.length
    · have hn : t.take s.length ≠ s := fun e => hp (List.prefix_iff_eq_take.2 e.symm)
      by_cases h1 : t < s
      · exact keycodeAfter_ll s t _ w hs ht rfl ha hl hn h1
      · exact keycodeAfter_lm s t _ w hs ht rfl ha hl hn h1 (fun h2 => hp (hb.2 ⟨h1, h2⟩))
    · by_cases h1 : t < s
      · exact keycodeAfter_sl s t _ w hs ht rfl ha (by omega) h1
      · exact keycodeAfter_sm s t _ w hs ht rfl ha (by omega) h1 (fun h2 => hp (hb.2 ⟨h1, h2⟩))

end Go.Proofs.Ytfemigdghdbbgaa
