/-
  Law ValuesOne's walk: the call returns true, and writes nothing that was there. Condition: the table of names holds what its initialiser lays.
-/
import Derived.Test.YtcgienhkonhgcaaDoorVlAwake
import Derived.Test.YtcgienhkonhgcaaDoorVlRefCheck
import Derived.Deep.RegionHeld3
import Derived.Deep.DrawnRows
namespace Go.Proofs.YtcgienhkonhgcaaDoor
open Go.RowKit
attribute [local go_sem ↓] Go.wp_at_zero Go.wp_at_succ

set_option maxHeartbeats 8000000 in
set_option maxRecDepth 100000 in
theorem valuesOne_long (k n b : Int) (s : List UInt8) (w : World) (h : 2000 < s.length) (hT : Tab w) :
    Calls Tryd.prog 3 #[.agg #[.int .i64 k, .int .i64 n, .int .u64 b, .string ⟨(s : List UInt8).toArray⟩]] w fun e w' => e = .returned (.bool true) ∧ Below w.heap.size w w' := by
  have T0 := Lib.hid hT
  clear hT
  have H := Lib.hid h
  clear h
  go_enter Tryd.func3, Tryd.ntmps3
  go_wp2_with fail
  go_region_with (first
    | (go_at_call 7; refine (few_0 k n b s _ H.out).mono ?_; rintro e v ⟨rfl, hb⟩)
    | (go_at_call 10; refine (awake_any _ (T0.out.below (below_then hb))).mono ?_; rintro e v2 ⟨rfl, hb2⟩))
  all_goals go_wp2
  all_goals go_ret
  all_goals exact ⟨rfl, step0 (below_then hb) hb2⟩

set_option maxHeartbeats 8000000 in
set_option maxRecDepth 100000 in
theorem valuesOne_few (k n b : Int) (s : List UInt8) (w : World) (h : s.length ≤ 2000) (hB : Rl.U b) (hT : Tab w) :
    Calls Tryd.prog 3 #[.agg #[.int .i64 k, .int .i64 n, .int .u64 b, .string ⟨(s : List UInt8).toArray⟩]] w fun e w' => e = .returned (.bool true) ∧ Below w.heap.size w w' := by
  have T0 := Lib.hid hT
  clear hT
  have H := Lib.hid h
  have U0 := Lib.hid hB
  obtain ⟨r, hr⟩ : ∃ r, Vl.ck k n b s = r := ⟨_, rfl⟩
  have R := Lib.hid hr
  clear h hB hr
  go_enter Tryd.func3, Tryd.ntmps3
  go_wp2_with fail
  go_region_held3 (fun v => Below (w.alloc (Obj.cells #[.int .i64 k, .int .i64 n, .int .u64 b, .string ⟨(s : List UInt8).toArray⟩] 24)).heap.size (w.alloc (Obj.cells #[.int .i64 k, .int .i64 n, .int .u64 b, .string ⟨(s : List UInt8).toArray⟩] 24)) v ∧ v.cell? ⟨w.heap.size, 0, none⟩ = some (.int .i64 k) ∧ v.cell? ⟨w.heap.size, 1, none⟩ = some (.int .i64 n) ∧ v.cell? ⟨w.heap.size, 2, none⟩ = some (.int .u64 b) ∧ v.cell? ⟨w.heap.size, 3, none⟩ = some (.string ⟨(s : List UInt8).toArray⟩)) (first | exact boxes_1 (Below.refl _ _).drew | exact boxes_1 (step0 ‹Below _ _ _ ∧ _›.1 hb))
    (first | (go_at_call 7; refine (few_1 k n b s _ H.out).mono ?_; rintro e v ⟨rfl, hb⟩) | (go_at_call 8; refine (check_is k n b r s _ U0.out R.out).mono ?_; rintro e v ⟨rfl, hb⟩) | (go_at_call 9; refine (rcheck_is k n b r s _ U0.out R.out).mono ?_; rintro e v ⟨rfl, hb⟩) | (go_at_call 10; refine (awake_any _ (T0.out.below (old_1 ‹Below _ _ _ ∧ _›.1))).mono ?_; rintro e v ⟨rfl, hb⟩))
  go_wp2
  go_ret
  exact ⟨rfl, old_1 ‹Below _ _ _ ∧ _›.1⟩

theorem valuesOne_list (k n b : Int) (s : List UInt8) (w : World) (hB : Rl.U b) (hT : Tab w) :
    Calls Tryd.prog 3 #[.agg #[.int .i64 k, .int .i64 n, .int .u64 b, .string ⟨(s : List UInt8).toArray⟩]] w fun e w' => e = .returned (.bool true) ∧ Below w.heap.size w w' := by
  by_cases h : 2000 < s.length
  · exact valuesOne_long k n b s w h hT
  · exact valuesOne_few k n b s w (by omega) hB hT

end Go.Proofs.YtcgienhkonhgcaaDoor
