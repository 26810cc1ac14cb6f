/-
  The walk of law KeycodeBack. Condition: the bounds of the value's fields.
-/
import Derived.Test.YtfemigdghdbbgaaKcAwake
import Derived.Test.YtfemigdghdbbgaaVlSame
namespace Go.Proofs.Ytfemigdghdbbgaa
open Go.RowKit

set_option maxHeartbeats 2000000 in
theorem keycodeBack_far (k n b : Int) (s d : List UInt8) (w : World) (h : 2000 < s.length ∨ 2000 < d.length) :
    Calls Try.prog 6 #[.agg #[.int .i64 k, .int .i64 n, .int .u64 b, .string ⟨s.toArray⟩], .string ⟨d.toArray⟩] w fun e w' => e = .returned (.bool true) ∧ Below w.heap.size w w' := by
  by_cases hs : 2000 < s.length
  · have H := Lib.hid hs
    clear h hs
    go_enter Try.func6, Try.ntmps6
    go_wp2_with fail
    refine (few_0 k n b s _ H.out).mono ?_
    rintro e w1 ⟨rfl, hb⟩
    have A1 := Lib.hid (old_1 hb)
    clear hb
    go_wp2_with fail
    refine (awake_any _).mono ?_
    rintro e w7 ⟨rfl, hb⟩
    have A7 := Lib.hid (step0 A1.out hb)
    clear hb
    go_wp2
    go_ret
    exact ⟨rfl, A7.out⟩
  · have H := Lib.hid hs
    have l2 : (2000 : Int) < (d.length : Int) := by omega
    clear h hs
    go_enter Try.func6, Try.ntmps6
    go_wp2_with fail
    refine (few_1 k n b s _ (Nat.le_of_not_lt H.out)).mono ?_
    rintro e w1 ⟨rfl, hb⟩
    have A1 := Lib.hid (old_1 hb)
    clear hb
    go_wp2_with fail
    refine (awake_any _).mono ?_
    rintro e w7 ⟨rfl, hb⟩
    have A7 := Lib.hid (step0 A1.out hb)
    clear hb
    go_wp2
    go_ret
    exact ⟨rfl, A7.out⟩

set_option maxHeartbeats 2000000 in
theorem keycodeBack_bad (k n b c : Int) (s d : List UInt8) (w : World) (hs : s.length ≤ 2000) (hd : d.length ≤ 2000) (hU : Rl.U b) (hc : Vl.ck k n b s = c) (hz : c ≠ 0) :
    Calls Try.prog 6 #[.agg #[.int .i64 k, .int .i64 n, .int .u64 b, .string ⟨s.toArray⟩], .string ⟨d.toArray⟩] w fun e w' => e = .returned (.bool true) ∧ Below w.heap.size w w' := by
  have H := Lib.hid (And.intro hs (And.intro hU (And.intro hc hz)))
  have l2 : decide ((2000 : Int) < (d.length : Int)) = false := by rw [decide_eq_false_iff_not]; omega
  have z1 := bne_t hz
  have z2 := beq_f hz
  clear hs hd hU hc hz
  go_enter Try.func6, Try.ntmps6
  go_wp2_with fail
  refine (few_1 k n b s _ H.out.1).mono ?_
  rintro e w1 ⟨rfl, hb⟩
  obtain ⟨_, c0, c1, c2, c3⟩ := boxes_1 hb
  have A1 := Lib.hid (old_1 hb)
  clear hb
  go_wp2_with fail
  refine (kput_bad k n b c s _ H.out.2.1 H.out.2.2.1 H.out.2.2.2).mono ?_
  rintro e w2 ⟨rfl, hb⟩
  have A2 := Lib.hid (step0 A1.out hb)
  clear hb
  go_wp2_with fail
  refine (awake_any _).mono ?_
  rintro e w7 ⟨rfl, hb⟩
  have A7 := Lib.hid (step0 A2.out hb)
  clear hb
  go_wp2
  go_ret
  exact ⟨rfl, A7.out⟩

set_option maxHeartbeats 4000000 in
theorem keycodeBack_ok (k n b : Int) (s d : List UInt8) (w : World) (hs : s.length ≤ 2000) (hd : d.length ≤ 2000) (hU : Rl.U b) (hn : -9223372036854775808 ≤ n ∧ n < 9223372036854775808) (hc : Vl.ck k n b s = 0) :
    Calls Try.prog 6 #[.agg #[.int .i64 k, .int .i64 n, .int .u64 b, .string ⟨s.toArray⟩], .string ⟨d.toArray⟩] w fun e w' => e = .returned (.bool true) ∧ Below w.heap.size w w' := by
  obtain ⟨T, hT⟩ : ∃ T, pt k n b s = T := ⟨_, rfl⟩
  have hl := (pt_len hc).1
  rw [hT] at hl
  have rp := rd_pt hc hU hn d
  have rs := fun i hi => rd_short hc i hi
  rw [hT] at rp rs
  have H := Lib.hid (And.intro hs (And.intro hU (And.intro hn (And.intro hc (And.intro hT (And.intro hl (And.intro rp rs)))))))
  have HE := Lib.hid (show Vl.sm k n b s k n b s = true from by unfold Vl.sm; simp)
  have l2 : decide ((2000 : Int) < (d.length : Int)) = false := by rw [decide_eq_false_iff_not]; omega
  have cd : (9223372036854775807 < T.length + d.length) = False := by rw [eq_iff_iff, iff_false]; omega
  have HD := Lib.hid hd
  have cat := cat_list T d
  obtain ⟨Y, hY⟩ : ∃ Y, T ++ d = Y := ⟨_, rfl⟩
  rw [hY] at cat
  have HY := Lib.hid hY
  clear hs hd hU hn hc hT hl rp rs hY
  go_enter Try.func6, Try.ntmps6
  go_wp2_with fail
  refine (few_1 k n b s _ H.out.1).mono ?_
  rintro e w1 ⟨rfl, hb⟩
  obtain ⟨_, c0, c1, c2, c3⟩ := boxes_1 hb
  have A1 := Lib.hid (old_1 hb)
  clear hb
  go_wp2_with fail
  refine (kput_x k n b s T _ H.out.2.1 H.out.2.2.1 H.out.2.2.2.1 H.out.2.2.2.2.1).mono ?_
  rintro e w2 ⟨rfl, hb⟩
  replace c0 := keep0 c0 hb
  replace c1 := keep0 c1 hb
  replace c2 := keep0 c2 hb
  replace c3 := keep0 c3 hb
  have A2 := Lib.hid (step0 A1.out hb)
  clear hb
  go_wp2_with fail
  refine (rdv Y k n b 0 s d _ (by have := H.out.2.2.2.2.2.1; have := HD.out; rw [← HY.out, List.length_append]; omega) (by rw [← HY.out]; exact H.out.2.2.2.2.2.2.1)).mono ?_
  rintro e w3 ⟨rfl, hb⟩
  replace c0 := keep0 c0 (step0 hb (below1 w3 (.cells #[.int .i64 k, .int .i64 n, .int .u64 b, .string ⟨s.toArray⟩] 33)))
  replace c1 := keep0 c1 (step0 hb (below1 w3 (.cells #[.int .i64 k, .int .i64 n, .int .u64 b, .string ⟨s.toArray⟩] 33)))
  replace c2 := keep0 c2 (step0 hb (below1 w3 (.cells #[.int .i64 k, .int .i64 n, .int .u64 b, .string ⟨s.toArray⟩] 33)))
  replace c3 := keep0 c3 (step0 hb (below1 w3 (.cells #[.int .i64 k, .int .i64 n, .int .u64 b, .string ⟨s.toArray⟩] 33)))
  have A3 := Lib.hid (step0 A2.out hb)
  clear hb
  go_wp2_with fail
  refine (rsame_is k n b s k n b s true _ HE.out).mono ?_
  rintro e w4 ⟨rfl, hb⟩
  have A4 := Lib.hid (step1 A3.out hb)
  clear hb c0 c1 c2 c3
  go_wp2
  go_loopw [10] (fun i wr => ∃ j : Nat, i = .int .i64 j ∧ j ≤ T.length ∧ Below w.heap.size w wr) (fun i _ => T.length - (intOf i).toNat)
  case atStart => exact ⟨0, rfl, Nat.zero_le _, A4.out⟩
  case round =>
    obtain ⟨j, rfl, hj, hb⟩ := hrel
    have J := Lib.hid hb
    clear hb
    by_cases hlt : j < T.length
    · have hw : wrap64 ((j : Int) + 1) = (j : Int) + 1 := by have := H.out.2.2.2.2.2.1; exact wrap_in _ (by omega) (by omega)
      have ct := cut_to T j
      obtain ⟨P, hP⟩ : ∃ P, T.take j = P := ⟨_, rfl⟩
      rw [hP] at ct
      have HP := Lib.hid hP
      clear hP
      go_wp2_with fail
      refine (rdv P 0 0 0 3 [] [] _ (by have := H.out.2.2.2.2.2.1; rw [← HP.out, List.length_take]; omega) (by rw [← HP.out]; exact H.out.2.2.2.2.2.2.2 j hlt)).mono ?_
      rintro e w5 ⟨rfl, hb⟩
      have A5 := Lib.hid (step0 J.out hb)
      clear hb
      go_wp2
      go_roundw
      case rel => exact ⟨j + 1, by go_num, hlt, A5.out.alloc A5.out.size _⟩
      case measure => rw [hw]; simp [intOf]; omega
    · obtain rfl : j = T.length := by omega
      go_wp2_with fail
      refine (awake_any _).mono ?_
      rintro e w7 ⟨rfl, hb⟩
      have A7 := Lib.hid (step0 J.out hb)
      clear hb
      go_wp2
      go_ret
      exact ⟨rfl, A7.out⟩

theorem keycodeBack_walk (k n b : Int) (s d : List UInt8) (w : World) (hU : Rl.U b) (hn : -9223372036854775808 ≤ n ∧ n < 9223372036854775808) :
    Calls Try.prog 6 #[.agg #[.int .i64 k, .int .i64 n, .int .u64 b, .string ⟨s.toArray⟩], .string ⟨d.toArray⟩] w fun e w' => e = .returned (.bool true) ∧ Below w.heap.size w w' := by
  by_cases h : 2000 < s.length ∨ 2000 < d.length
  · exact keycodeBack_far k n b s d w h
  by_cases hc : Vl.ck k n b s = 0
  · exact keycodeBack_ok k n b s d w (by omega) (by omega) hU hn hc
  · exact keycodeBack_bad k n b _ s d w (by omega) (by omega) hU rfl hc

end Go.Proofs.Ytfemigdghdbbgaa
