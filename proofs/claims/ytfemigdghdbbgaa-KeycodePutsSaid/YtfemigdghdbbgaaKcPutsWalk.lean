/-
  The walk of law KeycodePuts. Condition: the bounds of the values' fields.
-/
import Derived.Test.YtfemigdghdbbgaaKcAwake
import Derived.Test.YtfemigdghdbbgaaKcRefPut
namespace Go.Proofs.Ytfemigdghdbbgaa
open Go.RowKit

theorem kput_any (x : V) (ho : x.ok) :
    ∃ (T : List UInt8) (c : Int), (∀ w, Calls Try.prog 12 #[.agg #[.int .i64 x.k, .int .i64 x.n, .int .u64 x.b, .string ⟨x.s.toArray⟩]] w fun e w' => e = .returned (.tuple #[.string ⟨T.toArray⟩, .int .i64 c]) ∧ Below w.heap.size w w') ∧
      (∀ w, Calls Try.prog 13 #[.agg #[.int .i64 x.k, .int .i64 x.n, .int .u64 x.b, .string ⟨x.s.toArray⟩]] w fun e w' => e = .returned (.tuple #[.string ⟨T.toArray⟩, .int .i64 c]) ∧ Below w.heap.size w w') := by
  by_cases h : Vl.ck x.k x.n x.b x.s = 0
  · exact ⟨_, 0, fun w => kput_ok _ _ _ _ w ho.1 ho.2 h, fun w => rput_ok _ _ _ _ w ho.1 ho.2 h⟩
  · exact ⟨[], _, fun w => kput_bad _ _ _ _ _ w ho.1 rfl h, fun w => rput_bad _ _ _ _ _ w ho.1 rfl h⟩

set_option maxHeartbeats 2000000 in
theorem keycodePuts_walk (xs : List V) (ao : Option Addr) (cap : Nat) (w : World) (h : Sl w ao xs) (ho : ∀ x ∈ xs, x.ok) :
    Calls Try.prog 3 #[.slice ao xs.length cap] w fun e w' => e = .returned (.bool true) ∧ Below w.heap.size w w' := by
  by_cases hf : xs.length ≤ 30 ∧ ∀ x ∈ xs, x.s.length ≤ 2000
  · have H := Lib.hid (And.intro h (And.intro hf ho))
    clear h hf ho
    obtain ⟨T, hT⟩ : ∃ T, rt xs = T := ⟨_, rfl⟩
    obtain ⟨r, hr⟩ : ∃ r, re xs = r := ⟨_, rfl⟩
    have HT := Lib.hid (And.intro hT hr)
    clear hT hr
    by_cases hn : 0 < xs.length
    · have hn1 : (0 : Int) < (xs.length : Int) := by omega
      have hx := List.getElem?_eq_getElem hn
      obtain ⟨a, rfl, ha0⟩ := H.out.1 0 _ hx
      obtain ⟨U, c, k1, k2⟩ := kput_any xs[0] (H.out.2.2 _ (List.getElem_mem hn))
      obtain ⟨x, hx0⟩ : ∃ x, xs[0] = x := ⟨_, rfl⟩
      rw [hx0] at hx k1 k2
      have HK := Lib.hid (And.intro k1 (And.intro k2 hx))
      clear k1 k2 hx hx0 ha0 hn
      go_enter Try.func3, Try.ntmps3
      go_wp2_with fail
      refine (few_yes xs _ cap _ H.out.1 H.out.2.1.1 H.out.2.1.2).mono ?_
      rintro e w1 ⟨rfl, hb⟩
      have A1 := Lib.hid hb
      clear hb
      go_wp2_with fail
      refine (krow_is xs _ cap _ (H.out.1.below A1.out) H.out.2.1.1 H.out.2.2).mono ?_
      rintro e w2 ⟨rfl, hb⟩
      have A2 := Lib.hid (step0 A1.out hb)
      clear hb
      rw [HT.out.1, HT.out.2]
      go_wp2_with fail
      refine (rrow_is xs _ cap _ (H.out.1.below A2.out) H.out.2.1.1 H.out.2.2).mono ?_
      rintro e w3 ⟨rfl, hb⟩
      have A3 := Lib.hid (step0 A2.out hb)
      clear hb
      rw [HT.out.1, HT.out.2]
      obtain ⟨a', ha, c0, c1, c2, c3⟩ := H.out.1.below A3.out 0 _ HK.out.2.2
      obtain rfl : a = a' := by simpa using ha
      rw [show a.add (0 * 4) = a from rfl] at c0 c1 c2 c3
      go_wp2_with fail
      refine (HK.out.1 _).mono ?_
      rintro e w4 ⟨rfl, hb⟩
      have A4 := Lib.hid (step0 A3.out hb)
      replace c0 := keep0 c0 hb
      replace c1 := keep0 c1 hb
      replace c2 := keep0 c2 hb
      replace c3 := keep0 c3 hb
      clear hb
      go_wp2_with fail
      refine (HK.out.2.1 _).mono ?_
      rintro e w5 ⟨rfl, hb⟩
      have A5 := Lib.hid (step0 A4.out hb)
      clear hb
      go_wp2_with fail
      refine (awake_any _).mono ?_
      rintro e w6 ⟨rfl, hb⟩
      have A6 := Lib.hid (step0 A5.out hb)
      clear hb
      go_wp2
      go_ret
      exact ⟨rfl, A6.out⟩
    · obtain rfl : xs = [] := List.eq_nil_of_length_eq_zero (by omega)
      clear hn
      go_enter Try.func3, Try.ntmps3
      go_wp2_with fail
      refine (few_yes [] ao cap _ H.out.1 H.out.2.1.1 H.out.2.1.2).mono ?_
      rintro e w1 ⟨rfl, hb⟩
      have A1 := Lib.hid hb
      clear hb
      go_wp2_with fail
      refine (krow_is [] ao cap _ (H.out.1.below A1.out) H.out.2.1.1 H.out.2.2).mono ?_
      rintro e w2 ⟨rfl, hb⟩
      have A2 := Lib.hid (step0 A1.out hb)
      clear hb
      rw [HT.out.1, HT.out.2]
      go_wp2_with fail
      refine (rrow_is [] ao cap _ (H.out.1.below A2.out) H.out.2.1.1 H.out.2.2).mono ?_
      rintro e w3 ⟨rfl, hb⟩
      have A3 := Lib.hid (step0 A2.out hb)
      clear hb
      rw [HT.out.1, HT.out.2]
      go_wp2_with fail
      refine (awake_any _).mono ?_
      rintro e w6 ⟨rfl, hb⟩
      have A6 := Lib.hid (step0 A3.out hb)
      clear hb
      go_wp2
      go_ret
      exact ⟨rfl, A6.out⟩
  · have H := Lib.hid (And.intro h hf)
    clear h hf ho
    go_enter Try.func3, Try.ntmps3
    go_wp2_with fail
    refine (few_no xs ao cap _ H.out.1 H.out.2).mono ?_
    rintro e w1 ⟨rfl, hb⟩
    have A1 := Lib.hid hb
    clear hb
    go_wp2_with fail
    refine (awake_any _).mono ?_
    rintro e w2 ⟨rfl, hb⟩
    have A2 := Lib.hid (step0 A1.out hb)
    clear hb
    go_wp2
    go_ret
    exact ⟨rfl, A2.out⟩

end Go.Proofs.Ytfemigdghdbbgaa
