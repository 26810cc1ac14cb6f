/-
  Law ValuesTwo's walk: the call returns true, and writes nothing that was there. Condition: the table of names holds what its initialiser lays.
-/
import Derived.Test.YtcgienhkonhgcaaDoorVlAwake
import Derived.Test.YtcgienhkonhgcaaDoorVlSame
import Derived.Deep.RegionHeld3
import Derived.Deep.DrawnRows
namespace Go.Proofs.YtcgienhkonhgcaaDoor
open Go.RowKit
attribute [local go_sem ↓] Go.wp_at_zero Go.wp_at_succ

set_option maxHeartbeats 8000000 in
set_option maxRecDepth 100000 in
theorem valuesTwo_longa (k n b : Int) (s : List UInt8) (k' n' b' : Int) (s' : List UInt8) (w : World) (h : 2000 < s.length) (hT : Tab w) :
    Calls Tryd.prog 4 #[.agg #[.int .i64 k, .int .i64 n, .int .u64 b, .string ⟨(s : List UInt8).toArray⟩], .agg #[.int .i64 k', .int .i64 n', .int .u64 b', .string ⟨(s' : List UInt8).toArray⟩]] w fun e w' => e = .returned (.bool true) ∧ Below w.heap.size w w' := by
  have T0 := Lib.hid hT
  clear hT
  have H := Lib.hid h
  clear h
  go_enter Tryd.func4, Tryd.ntmps4
  go_wp2_with fail
  refine (few_0 k n b s _ H.out).mono ?_
  rintro e w1 ⟨rfl, hb⟩
  have A1 := Lib.hid (hb)
  clear hb
  have Q1 := boxes_2 A1.out
  replace Q1 := Q1.2
  clear Q1
  go_wp2_with fail
  refine (awake_any _ (T0.out.below (old_2 A1.out))).mono ?_
  rintro e w2 ⟨rfl, hb⟩
  have A2 := Lib.hid (step0 A1.out hb)
  clear hb
  go_wp2
  go_ret
  exact ⟨rfl, old_2 A2.out⟩

set_option maxHeartbeats 8000000 in
set_option maxRecDepth 100000 in
theorem valuesTwo_longb (k n b : Int) (s : List UInt8) (k' n' b' : Int) (s' : List UInt8) (w : World) (g : s.length ≤ 2000) (h : 2000 < s'.length) (hT : Tab w) :
    Calls Tryd.prog 4 #[.agg #[.int .i64 k, .int .i64 n, .int .u64 b, .string ⟨(s : List UInt8).toArray⟩], .agg #[.int .i64 k', .int .i64 n', .int .u64 b', .string ⟨(s' : List UInt8).toArray⟩]] w fun e w' => e = .returned (.bool true) ∧ Below w.heap.size w w' := by
  have T0 := Lib.hid hT
  clear hT
  have H := Lib.hid h
  have G := Lib.hid g
  clear h g
  go_enter Tryd.func4, Tryd.ntmps4
  go_wp2_with fail
  refine (few_1 k n b s _ G.out).mono ?_
  rintro e w1 ⟨rfl, hb⟩
  have A1 := Lib.hid (hb)
  clear hb
  have Q1 := boxes_2 A1.out
  replace Q1 := Q1.2
  obtain ⟨q0, q1, q2, q3, q4, q5, q6, q7⟩ := Q1
  go_wp2_with fail
  refine (few_0 k' n' b' s' _ H.out).mono ?_
  rintro e w2 ⟨rfl, hb⟩
  have A2 := Lib.hid (step0 A1.out hb)
  clear hb
  have Q2 := boxes_2 A2.out
  replace Q2 := Q2.2
  clear Q2
  go_wp2_with fail
  refine (awake_any _ (T0.out.below (old_2 A2.out))).mono ?_
  rintro e w3 ⟨rfl, hb⟩
  have A3 := Lib.hid (step0 A2.out hb)
  clear hb
  go_wp2
  go_ret
  exact ⟨rfl, old_2 A3.out⟩

set_option maxHeartbeats 8000000 in
set_option maxRecDepth 100000 in
theorem valuesTwo_few (k n b : Int) (s : List UInt8) (k' n' b' : Int) (s' : List UInt8) (w : World) (g : s.length ≤ 2000) (h : s'.length ≤ 2000) (hB : Rl.U b) (hB' : Rl.U b') (hT : Tab w) :
    Calls Tryd.prog 4 #[.agg #[.int .i64 k, .int .i64 n, .int .u64 b, .string ⟨(s : List UInt8).toArray⟩], .agg #[.int .i64 k', .int .i64 n', .int .u64 b', .string ⟨(s' : List UInt8).toArray⟩]] w fun e w' => e = .returned (.bool true) ∧ Below w.heap.size w w' := by
  have T0 := Lib.hid hT
  clear hT
  have H := Lib.hid h
  have G := Lib.hid g
  clear h g
  have U0 := Lib.hid hB
  have U1 := Lib.hid hB'
  clear hB hB'
  obtain ⟨r, hr⟩ : ∃ r, Vl.vc k n b s k' n' b' s' = r := ⟨_, rfl⟩
  obtain ⟨x, hx⟩ : ∃ x, Vl.sm k n b s k' n' b' s' = x := ⟨_, rfl⟩
  have R := Lib.hid hr
  have X := Lib.hid hx
  clear hr hx
  go_enter Tryd.func4, Tryd.ntmps4
  go_wp2_with fail
  refine (few_1 k n b s _ G.out).mono ?_
  rintro e w1 ⟨rfl, hb⟩
  have A1 := Lib.hid (hb)
  clear hb
  have Q1 := boxes_2 A1.out
  replace Q1 := Q1.2
  obtain ⟨q0, q1, q2, q3, q4, q5, q6, q7⟩ := Q1
  go_wp2_with fail
  refine (few_1 k' n' b' s' _ H.out).mono ?_
  rintro e w2 ⟨rfl, hb⟩
  have A2 := Lib.hid (step0 A1.out hb)
  clear hb
  have Q2 := boxes_2 A2.out
  replace Q2 := Q2.2
  clear Q2
  go_wp2_with fail
  go_region_held3 (fun v => Below ((w.alloc (Obj.cells #[.int .i64 k, .int .i64 n, .int .u64 b, .string ⟨(s : List UInt8).toArray⟩] 24)).alloc (Obj.cells #[.int .i64 k', .int .i64 n', .int .u64 b', .string ⟨(s' : List UInt8).toArray⟩] 24)).heap.size ((w.alloc (Obj.cells #[.int .i64 k, .int .i64 n, .int .u64 b, .string ⟨(s : List UInt8).toArray⟩] 24)).alloc (Obj.cells #[.int .i64 k', .int .i64 n', .int .u64 b', .string ⟨(s' : List UInt8).toArray⟩] 24)) v ∧ v.cell? ⟨w.heap.size, 0, none⟩ = some (.int .i64 k) ∧ v.cell? ⟨w.heap.size, 1, none⟩ = some (.int .i64 n) ∧ v.cell? ⟨w.heap.size, 2, none⟩ = some (.int .u64 b) ∧ v.cell? ⟨w.heap.size, 3, none⟩ = some (.string ⟨(s : List UInt8).toArray⟩) ∧ v.cell? ⟨w.heap.size + 1, 0, none⟩ = some (.int .i64 k') ∧ v.cell? ⟨w.heap.size + 1, 1, none⟩ = some (.int .i64 n') ∧ v.cell? ⟨w.heap.size + 1, 2, none⟩ = some (.int .u64 b') ∧ v.cell? ⟨w.heap.size + 1, 3, none⟩ = some (.string ⟨(s' : List UInt8).toArray⟩)) (first | exact boxes_2 A2.out.drew | exact boxes_2 (step0 ‹Below _ _ _ ∧ _›.1 hb))
    (first | (go_at_call 11; refine (same_is k n b s k' n' b' s' x _ X.out).mono ?_; rintro e v ⟨rfl, hb⟩) | (go_at_call 12; refine (rsame_is k n b s k' n' b' s' x _ X.out).mono ?_; rintro e v ⟨rfl, hb⟩) | (go_at_call 13; refine (vcmp_is k n b s k' n' b' s' r _ U0.out U1.out R.out).mono ?_; rintro e v ⟨rfl, hb⟩) | (go_at_call 14; refine (rcmp_is k n b s k' n' b' s' r _ U0.out U1.out R.out).mono ?_; rintro e v ⟨rfl, hb⟩) | (go_at_call 10; refine (awake_any _ (T0.out.below (old_2 ‹Below _ _ _ ∧ _›.1))).mono ?_; rintro e v ⟨rfl, hb⟩))
  go_wp2
  go_ret
  exact ⟨rfl, old_2 ‹Below _ _ _ ∧ _›.1⟩

theorem valuesTwo_list (k n b : Int) (s : List UInt8) (k' n' b' : Int) (s' : List UInt8) (w : World) (hB : Rl.U b) (hB' : Rl.U b') (hT : Tab w) :
    Calls Tryd.prog 4 #[.agg #[.int .i64 k, .int .i64 n, .int .u64 b, .string ⟨(s : List UInt8).toArray⟩], .agg #[.int .i64 k', .int .i64 n', .int .u64 b', .string ⟨(s' : List UInt8).toArray⟩]] w fun e w' => e = .returned (.bool true) ∧ Below w.heap.size w w' := by
  by_cases h : 2000 < s.length
  · exact valuesTwo_longa k n b s k' n' b' s' w h hT
  by_cases g : 2000 < s'.length
  · exact valuesTwo_longb k n b s k' n' b' s' w (by omega) g hT
  · exact valuesTwo_few k n b s k' n' b' s' w (by omega) (by omega) hB hB' hT

end Go.Proofs.YtcgienhkonhgcaaDoor
