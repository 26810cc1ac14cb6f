/-
  Law ValuesThree's walks, case by case.
-/
import Derived.Test.YtcgienhkonhgcaaDoorVlAwake
import Derived.Test.YtcgienhkonhgcaaDoorVlSame
import Derived.Test.YtcgienhkonhgcaaDoorVlThreePlain
import Derived.Deep.RegionHeld3
import Derived.Deep.DrawnRows
namespace Go.Proofs.YtcgienhkonhgcaaDoor
open Go.RowKit
attribute [local go_sem ↓] Go.wp_at_zero Go.wp_at_succ

set_option maxHeartbeats 8000000 in
set_option maxRecDepth 100000 in
theorem three_g2 (n b : Int) (s : List UInt8) (k' n' b' : Int) (s' : List UInt8) (k'' n'' b'' : Int) (s'' : List UInt8) (w : World) (hB : Rl.U b) (hB' : Rl.U b') (hB'' : Rl.U b'') (h0 : Vl.ck 2 n b s = 0) (h1 : Vl.ck k' n' b' s' = 0) (h2 : Vl.ck k'' n'' b'' s'' = 0) (hx : Vl.vc 2 n b s k' n' b' s' = 1) (hT : Tab w) :
    Calls Tryd.prog 6 #[.agg #[.int .i64 2, .int .i64 n, .int .u64 b, .string ⟨(s : List UInt8).toArray⟩], .agg #[.int .i64 k', .int .i64 n', .int .u64 b', .string ⟨(s' : List UInt8).toArray⟩], .agg #[.int .i64 k'', .int .i64 n'', .int .u64 b'', .string ⟨(s'' : List UInt8).toArray⟩]] w fun e w' => e = .returned (.bool true) ∧ Below w.heap.size w w' := by
  have T0 := Lib.hid hT
  clear hT
  have W1 := Lib.hid (show Vl.vc k' n' b' s' 2 n b s = (-1) from by have := Vl.vc_neg k' n' b' s' 2 n b s; omega)
  have X := Lib.hid hx
  have Sm := Lib.hid (show Vl.sm 2 n b s k' n' b' s' = false from by rw [← Vl.same_iff h0 h1 hB hB', hx]; rfl)
  have K0 := Lib.hid h0
  have K1 := Lib.hid h1
  have K2 := Lib.hid h2
  clear h0 h1 h2 hx
  have U0 := Lib.hid hB
  have U1 := Lib.hid hB'
  have U2 := Lib.hid hB''
  clear hB hB' hB''
  have g1 : IntKind.i64.wrap 1 = 1 := by decide
  go_enter Tryd.func6, Tryd.ntmps6
  go_wp2_with fail
  refine (check_is 2 n b 0 s _ U0.out K0.out).mono ?_
  rintro e w1 ⟨rfl, hb⟩
  have A1 := Lib.hid (hb)
  clear hb
  obtain ⟨-, q0, q1, q2, q3, q4, q5, q6, q7, q8, q9, q10, q11⟩ := boxes_3 A1.out
  go_wp2_with fail
  refine (check_is k' n' b' 0 s' _ U1.out K1.out).mono ?_
  rintro e w2 ⟨rfl, hb⟩
  have A2 := Lib.hid (step0 A1.out hb)
  clear hb q0 q1 q2 q3 q4 q5 q6 q7 q8 q9 q10 q11
  obtain ⟨-, q0, q1, q2, q3, q4, q5, q6, q7, q8, q9, q10, q11⟩ := boxes_3 A2.out
  go_wp2_with fail
  refine (check_is k'' n'' b'' 0 s'' _ U2.out K2.out).mono ?_
  rintro e w3 ⟨rfl, hb⟩
  have A3 := Lib.hid (step0 A2.out hb)
  clear hb q0 q1 q2 q3 q4 q5 q6 q7 q8 q9 q10 q11
  obtain ⟨-, q0, q1, q2, q3, q4, q5, q6, q7, q8, q9, q10, q11⟩ := boxes_3 A3.out
  clear q0 q1 q2 q3 q4 q5 q6 q7 q8 q9 q10 q11
  go_wp2_with fail
  go_region_held3 (fun v => Below (((w.alloc (Obj.cells #[.int .i64 2, .int .i64 n, .int .u64 b, .string ⟨(s : List UInt8).toArray⟩] 24)).alloc (Obj.cells #[.int .i64 k', .int .i64 n', .int .u64 b', .string ⟨(s' : List UInt8).toArray⟩] 24)).alloc (Obj.cells #[.int .i64 k'', .int .i64 n'', .int .u64 b'', .string ⟨(s'' : List UInt8).toArray⟩] 24)).heap.size (((w.alloc (Obj.cells #[.int .i64 2, .int .i64 n, .int .u64 b, .string ⟨(s : List UInt8).toArray⟩] 24)).alloc (Obj.cells #[.int .i64 k', .int .i64 n', .int .u64 b', .string ⟨(s' : List UInt8).toArray⟩] 24)).alloc (Obj.cells #[.int .i64 k'', .int .i64 n'', .int .u64 b'', .string ⟨(s'' : List UInt8).toArray⟩] 24)) v ∧ v.cell? ⟨w.heap.size, 0, none⟩ = some (.int .i64 2) ∧ v.cell? ⟨w.heap.size, 1, none⟩ = some (.int .i64 n) ∧ v.cell? ⟨w.heap.size, 2, none⟩ = some (.int .u64 b) ∧ v.cell? ⟨w.heap.size, 3, none⟩ = some (.string ⟨(s : List UInt8).toArray⟩) ∧ v.cell? ⟨w.heap.size + 1, 0, none⟩ = some (.int .i64 k') ∧ v.cell? ⟨w.heap.size + 1, 1, none⟩ = some (.int .i64 n') ∧ v.cell? ⟨w.heap.size + 1, 2, none⟩ = some (.int .u64 b') ∧ v.cell? ⟨w.heap.size + 1, 3, none⟩ = some (.string ⟨(s' : List UInt8).toArray⟩) ∧ v.cell? ⟨w.heap.size + 2, 0, none⟩ = some (.int .i64 k'') ∧ v.cell? ⟨w.heap.size + 2, 1, none⟩ = some (.int .i64 n'') ∧ v.cell? ⟨w.heap.size + 2, 2, none⟩ = some (.int .u64 b'') ∧ v.cell? ⟨w.heap.size + 2, 3, none⟩ = some (.string ⟨(s'' : List UInt8).toArray⟩)) (first | exact boxes_3 A3.out.drew | exact boxes_3 (step0 ‹Below _ _ _ ∧ _›.1 hb))
    (first | (go_at_call_of 13 ((#[.agg #[.int .i64 2, .int .i64 n, .int .u64 b, .string ⟨(s : List UInt8).toArray⟩], .agg #[.int .i64 k', .int .i64 n', .int .u64 b', .string ⟨(s' : List UInt8).toArray⟩]] : Array Value)); refine (vcmp_is 2 n b s k' n' b' s' 1 _ U0.out U1.out X.out).mono ?_; rintro e v ⟨rfl, hb⟩) | (go_at_call_of 13 ((#[.agg #[.int .i64 k', .int .i64 n', .int .u64 b', .string ⟨(s' : List UInt8).toArray⟩], .agg #[.int .i64 2, .int .i64 n, .int .u64 b, .string ⟨(s : List UInt8).toArray⟩]] : Array Value)); refine (vcmp_is k' n' b' s' 2 n b s (-1) _ U1.out U0.out W1.out).mono ?_; rintro e v ⟨rfl, hb⟩) | (go_at_call 11; refine (same_is 2 n b s k' n' b' s' false _ Sm.out).mono ?_; rintro e v ⟨rfl, hb⟩))
  obtain ⟨A4, q0, q1, q2, q3, q4, q5, q6, q7, q8, q9, q10, q11⟩ := ‹Below _ _ _ ∧ _›
  replace A4 := Lib.hid A4
  clear hb
  go_wp2_with fail
  refine (zero_t 2 _ (by decide) (by decide)).mono ?_
  rintro e w5 ⟨rfl, hb⟩
  have A5 := Lib.hid (step0 A4.out hb)
  clear hb q0 q1 q2 q3 q4 q5 q6 q7 q8 q9 q10 q11
  obtain ⟨-, q0, q1, q2, q3, q4, q5, q6, q7, q8, q9, q10, q11⟩ := boxes_3 (A5.out.alloc A5.out.size (.cells #[.int .i64 2, .int .i64 0, .int .u64 0, .string ⟨#[]⟩] 24))
  go_wp2_with fail
  refine (vcmp_is 2 n b s k' n' b' s' 1 _ U0.out U1.out X.out).mono ?_
  rintro e w7 ⟨rfl, hb⟩
  have A7 := Lib.hid (step1 A5.out hb)
  clear hb q0 q1 q2 q3 q4 q5 q6 q7 q8 q9 q10 q11
  go_wp2_with fail
  refine (awake_any _ (T0.out.below (old_3 A7.out))).mono ?_
  rintro e w10 ⟨rfl, hb⟩
  have A10 := Lib.hid (step0 A7.out hb)
  clear hb
  go_wp2
  go_ret
  exact ⟨rfl, old_3 A10.out⟩


end Go.Proofs.YtcgienhkonhgcaaDoor
