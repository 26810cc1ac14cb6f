/-
  Law ValuesThree's walks where one of the three may not be.
-/
import Derived.Test.YtcgienhkonhgcaaDoorVlAwake
import Derived.Test.YtcgienhkonhgcaaDoorVlCheck
namespace Go.Proofs.YtcgienhkonhgcaaDoor
open Go.RowKit

set_option maxHeartbeats 8000000 in
set_option maxRecDepth 100000 in
theorem three_bad0 (k n b : Int) (s : List UInt8) (k' n' b' : Int) (s' : List UInt8) (k'' n'' b'' : Int) (s'' : List UInt8) (w : World) (hB : Rl.U b) (hB' : Rl.U b') (hB'' : Rl.U b'') (hr : Vl.ck k n b s ≠ 0) (hT : Tab w) :
    Calls Tryd.prog 6 #[.agg #[.int .i64 k, .int .i64 n, .int .u64 b, .string ⟨(s : List UInt8).toArray⟩], .agg #[.int .i64 k', .int .i64 n', .int .u64 b', .string ⟨(s' : List UInt8).toArray⟩], .agg #[.int .i64 k'', .int .i64 n'', .int .u64 b'', .string ⟨(s'' : List UInt8).toArray⟩]] w fun e w' => e = .returned (.bool true) ∧ Below w.heap.size w w' := by
  have T0 := Lib.hid hT
  clear hT
  have U0 := Lib.hid hB
  have U1 := Lib.hid hB'
  have U2 := Lib.hid hB''
  clear hB hB' hB''
  have r1 := bne_t hr
  have r2 := beq_f hr
  obtain ⟨r, e⟩ : ∃ r, Vl.ck k n b s = r := ⟨_, rfl⟩
  rw [e] at r1 r2
  have K0 := Lib.hid e
  clear e hr
  go_enter Tryd.func6, Tryd.ntmps6
  go_wp2_with fail
  refine (check_is k n b r s _ U0.out K0.out).mono ?_
  rintro e w1 ⟨rfl, hb⟩
  have A1 := Lib.hid (hb)
  clear hb
  go_wp2_with fail
  refine (awake_any _ (T0.out.below (old_3 A1.out))).mono ?_
  rintro e w2 ⟨rfl, hb⟩
  have A2 := Lib.hid (step0 A1.out hb)
  clear hb
  go_wp2
  go_ret
  exact ⟨rfl, old_3 A2.out⟩

set_option maxHeartbeats 8000000 in
set_option maxRecDepth 100000 in
theorem three_bad1 (k n b : Int) (s : List UInt8) (k' n' b' : Int) (s' : List UInt8) (k'' n'' b'' : Int) (s'' : List UInt8) (w : World) (hB : Rl.U b) (hB' : Rl.U b') (hB'' : Rl.U b'') (h0 : Vl.ck k n b s = 0) (hr : Vl.ck k' n' b' s' ≠ 0) (hT : Tab w) :
    Calls Tryd.prog 6 #[.agg #[.int .i64 k, .int .i64 n, .int .u64 b, .string ⟨(s : List UInt8).toArray⟩], .agg #[.int .i64 k', .int .i64 n', .int .u64 b', .string ⟨(s' : List UInt8).toArray⟩], .agg #[.int .i64 k'', .int .i64 n'', .int .u64 b'', .string ⟨(s'' : List UInt8).toArray⟩]] w fun e w' => e = .returned (.bool true) ∧ Below w.heap.size w w' := by
  have T0 := Lib.hid hT
  clear hT
  have U0 := Lib.hid hB
  have U1 := Lib.hid hB'
  have U2 := Lib.hid hB''
  clear hB hB' hB''
  have r1 := bne_t hr
  have r2 := beq_f hr
  have K0 := Lib.hid h0
  obtain ⟨r, e⟩ : ∃ r, Vl.ck k' n' b' s' = r := ⟨_, rfl⟩
  rw [e] at r1 r2
  have K1 := Lib.hid e
  clear e hr h0
  go_enter Tryd.func6, Tryd.ntmps6
  go_wp2_with fail
  refine (check_is k n b 0 s _ U0.out K0.out).mono ?_
  rintro e w1 ⟨rfl, hb⟩
  have A1 := Lib.hid (hb)
  clear hb
  obtain ⟨-, q0, q1, q2, q3, q4, q5, q6, q7, q8, q9, q10, q11⟩ := boxes_3 A1.out
  go_wp2_with fail
  refine (check_is k' n' b' r s' _ U1.out K1.out).mono ?_
  rintro e w2 ⟨rfl, hb⟩
  have A2 := Lib.hid (step0 A1.out hb)
  clear hb q0 q1 q2 q3 q4 q5 q6 q7 q8 q9 q10 q11
  go_wp2_with fail
  refine (awake_any _ (T0.out.below (old_3 A2.out))).mono ?_
  rintro e w3 ⟨rfl, hb⟩
  have A3 := Lib.hid (step0 A2.out hb)
  clear hb
  go_wp2
  go_ret
  exact ⟨rfl, old_3 A3.out⟩

set_option maxHeartbeats 8000000 in
set_option maxRecDepth 100000 in
theorem three_bad2 (k n b : Int) (s : List UInt8) (k' n' b' : Int) (s' : List UInt8) (k'' n'' b'' : Int) (s'' : List UInt8) (w : World) (hB : Rl.U b) (hB' : Rl.U b') (hB'' : Rl.U b'') (h0 : Vl.ck k n b s = 0) (h1 : Vl.ck k' n' b' s' = 0) (hr : Vl.ck k'' n'' b'' s'' ≠ 0) (hT : Tab w) :
    Calls Tryd.prog 6 #[.agg #[.int .i64 k, .int .i64 n, .int .u64 b, .string ⟨(s : List UInt8).toArray⟩], .agg #[.int .i64 k', .int .i64 n', .int .u64 b', .string ⟨(s' : List UInt8).toArray⟩], .agg #[.int .i64 k'', .int .i64 n'', .int .u64 b'', .string ⟨(s'' : List UInt8).toArray⟩]] w fun e w' => e = .returned (.bool true) ∧ Below w.heap.size w w' := by
  have T0 := Lib.hid hT
  clear hT
  have U0 := Lib.hid hB
  have U1 := Lib.hid hB'
  have U2 := Lib.hid hB''
  clear hB hB' hB''
  have r1 := bne_t hr
  have r2 := beq_f hr
  have K0 := Lib.hid h0
  have K1 := Lib.hid h1
  obtain ⟨r, e⟩ : ∃ r, Vl.ck k'' n'' b'' s'' = r := ⟨_, rfl⟩
  rw [e] at r1 r2
  have K2 := Lib.hid e
  clear e hr h0 h1
  go_enter Tryd.func6, Tryd.ntmps6
  go_wp2_with fail
  refine (check_is k n b 0 s _ U0.out K0.out).mono ?_
  rintro e w1 ⟨rfl, hb⟩
  have A1 := Lib.hid (hb)
  clear hb
  obtain ⟨-, q0, q1, q2, q3, q4, q5, q6, q7, q8, q9, q10, q11⟩ := boxes_3 A1.out
  go_wp2_with fail
  refine (check_is k' n' b' 0 s' _ U1.out K1.out).mono ?_
  rintro e w2 ⟨rfl, hb⟩
  have A2 := Lib.hid (step0 A1.out hb)
  clear hb q0 q1 q2 q3 q4 q5 q6 q7 q8 q9 q10 q11
  obtain ⟨-, q0, q1, q2, q3, q4, q5, q6, q7, q8, q9, q10, q11⟩ := boxes_3 A2.out
  go_wp2_with fail
  refine (check_is k'' n'' b'' r s'' _ U2.out K2.out).mono ?_
  rintro e w3 ⟨rfl, hb⟩
  have A3 := Lib.hid (step0 A2.out hb)
  clear hb q0 q1 q2 q3 q4 q5 q6 q7 q8 q9 q10 q11
  go_wp2_with fail
  refine (awake_any _ (T0.out.below (old_3 A3.out))).mono ?_
  rintro e w4 ⟨rfl, hb⟩
  have A4 := Lib.hid (step0 A3.out hb)
  clear hb
  go_wp2
  go_ret
  exact ⟨rfl, old_3 A4.out⟩


end Go.Proofs.YtcgienhkonhgcaaDoor
