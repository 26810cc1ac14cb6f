/-
  Law RealsTwo's walk: the call returns true, and writes nothing that was there. Condition: the library's table holds what its initialiser lays.
-/
import Derived.Test.YtaknkiafchnlpaaDoorRealsAwake
namespace Go.Proofs.YtaknkiafchnlpaaDoor
open Go.RowKit

set_option maxHeartbeats 4000000 in
theorem realsTwo_walk (a : Int) (b : Int) (w : World) (wfa : (Lit.int .u64 a).wf = true) (wfb : (Lit.int .u64 b).wf = true) (hT : Tab w) :
    Calls Tryd.prog 4 #[.int .u64 a, .int .u64 b] w fun e w' => e = .returned (.bool true) ∧ Below w.heap.size w w' := by
  have ha := u_of_wf wfa
  have hb := u_of_wf wfb
  clear wfa wfb
  have T0 := Lib.hid hT
  clear hT
  go_enter Tryd.func4, Tryd.ntmps4
  go_wp2_with fail
  refine (cmp_any a b _ ha hb).mono ?_
  rintro e w1 ⟨rfl, hb⟩
  have B1 := Lib.hid hb
  have T1 := Lib.hid (T0.out.below hb)
  clear hb
  go_wp2_with fail
  refine (refCmp_any a b _ ha hb).mono ?_
  rintro e w' ⟨rfl, rfl⟩
  go_wp2_with fail
  refine (equal_any a b _ ha hb).mono ?_
  rintro e w2 ⟨rfl, hb⟩
  have B2 := Lib.hid hb
  have T2 := Lib.hid (T1.out.below hb)
  clear hb
  go_wp2_with fail
  refine (refEqual_any a b _ ha hb).mono ?_
  rintro e w' ⟨rfl, rfl⟩
  go_wp2_with fail
  refine (awake_any _ T2.out).mono ?_
  rintro e w3 ⟨rfl, hb⟩
  have B3 := Lib.hid hb
  have T3 := Lib.hid (T2.out.below hb)
  clear hb
  go_wp2
  go_ret
  exact ⟨rfl, below_then (below_then (B1.out) B2.out) B3.out⟩

end Go.Proofs.YtaknkiafchnlpaaDoor
