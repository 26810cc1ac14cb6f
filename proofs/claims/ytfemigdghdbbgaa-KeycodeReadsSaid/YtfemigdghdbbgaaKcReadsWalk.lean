/-
  The walk of law KeycodeReads. No condition.
-/
import Derived.Test.YtfemigdghdbbgaaKcAwake
import Derived.Test.YtfemigdghdbbgaaKcTwoRows
namespace Go.Proofs.Ytfemigdghdbbgaa
open Go.RowKit

theorem ra_len : ∀ (f : Nat) (l : List UInt8), (rr f l).1.length ≤ f
  | 0, _ => Nat.le_refl _
  | f + 1, l => by
    have := ra_len f (rd l).r
    rw [rr]
    (repeat' split) <;> simp
    omega

set_option maxHeartbeats 2000000 in
theorem keycodeReads_walk (l : List UInt8) (w : World) :
    Calls Try.prog 4 #[.string ⟨l.toArray⟩] w fun e w' => e = .returned (.bool true) ∧ Below w.heap.size w w' := by
  by_cases hl : l.length ≤ 2000
  · have l1 : decide ((2000 : Int) < (l.length : Int)) = false := by rw [decide_eq_false_iff_not]; omega
    obtain ⟨⟨k, n, b, s, r, e⟩, hR⟩ : ∃ R, rd l = R := ⟨_, rfl⟩
    obtain ⟨⟨xs, c⟩, hX⟩ : ∃ R, ra l = R := ⟨_, rfl⟩
    have hxl : xs.length ≤ 1000000 := by
      have := ra_len l.length l
      unfold ra at hX
      rw [hX] at this
      simp at this
      omega
    have H := Lib.hid (And.intro (show l.length ≤ 1000000 by omega) (And.intro hR (And.intro hX hxl)))
    have HE := Lib.hid (show Vl.sm k n b s k n b s = true from by unfold Vl.sm; simp)
    clear hl hR hX hxl
    go_enter Try.func4, Try.ntmps4
    go_wp2_with fail
    refine (rdv l k n b e s r _ H.out.1 H.out.2.1).mono ?_
    rintro e w1 ⟨rfl, hb⟩
    have A1 := Lib.hid hb
    clear hb
    go_wp2_with fail
    refine (rrdv l k n b _ s r _ H.out.1 H.out.2.1).mono ?_
    rintro e w2 ⟨rfl, hb⟩
    obtain ⟨_, c0, c1, c2, c3⟩ := boxes_1 hb
    have A2 := Lib.hid (step1 A1.out hb)
    clear hb
    go_wp2_with fail
    refine (readRow_x l xs c _ H.out.1 H.out.2.2.1).mono ?_
    rintro e w3 ⟨ao, ca, rfl, hs, hb⟩
    replace c0 := keep1 c0 hb
    replace c1 := keep1 c1 hb
    replace c2 := keep1 c2 hb
    replace c3 := keep1 c3 hb
    obtain ⟨_, d0, d1, d2, d3⟩ := boxes_1 hb
    have A3 := Lib.hid (And.intro (step1 A2.out hb) hs)
    clear hb hs
    go_wp2_with fail
    refine (rreadRow_x l xs c _ H.out.1 H.out.2.2.1).mono ?_
    rintro e w4 ⟨bo, cb, rfl, hs, hb⟩
    replace c0 := keep0 c0 hb
    replace c1 := keep0 c1 hb
    replace c2 := keep0 c2 hb
    replace c3 := keep0 c3 hb
    replace d0 := keep0 d0 hb
    replace d1 := keep0 d1 hb
    replace d2 := keep0 d2 hb
    replace d3 := keep0 d3 hb
    have A4 := Lib.hid (And.intro (step0 A3.out.1 hb) (And.intro (A3.out.2.below hb) hs))
    clear hb hs
    go_wp2_with fail
    refine (rsame_is k n b s k n b s true _ HE.out).mono ?_
    rintro e w5 ⟨rfl, hb⟩
    have A5 := Lib.hid (And.intro (step0 A4.out.1 hb) (And.intro (A4.out.2.1.below hb) (A4.out.2.2.below hb)))
    clear hb
    go_wp2_with fail
    refine (sameRow_t xs ao bo ca cb _ H.out.2.2.2 A5.out.2.1 A5.out.2.2).mono ?_
    rintro e w6 ⟨rfl, hb⟩
    have A6 := Lib.hid (step0 A5.out.1 hb)
    clear hb
    go_wp2_with fail
    refine (awake_any _).mono ?_
    rintro e w7 ⟨rfl, hb⟩
    have A7 := Lib.hid (step0 A6.out hb)
    clear hb
    go_wp2
    go_ret
    exact ⟨rfl, A7.out⟩
  · have l1 : (2000 : Int) < (l.length : Int) := by omega
    clear hl
    go_enter Try.func4, Try.ntmps4
    go_wp2_with fail
    refine (awake_any _).mono ?_
    rintro e w7 ⟨rfl, hb⟩
    have A7 := Lib.hid hb
    clear hb
    go_wp2
    go_ret
    exact ⟨rfl, A7.out⟩

end Go.Proofs.Ytfemigdghdbbgaa
