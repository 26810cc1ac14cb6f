/-
  Law RealsThree's walk: the call returns true, and writes nothing that was there. Condition: the library's table holds what its initialiser lays.
-/
import Derived.Test.YtaknkiafchnlpaaDoorRealsThreeLess
import Derived.Test.YtaknkiafchnlpaaDoorRealsThreeSame
import Derived.Test.YtaknkiafchnlpaaDoorRealsThreeMore
namespace Go.Proofs.YtaknkiafchnlpaaDoor
open Go.RowKit

set_option maxHeartbeats 4000000 in
theorem realsThree_walk (a : Int) (b : Int) (c : Int) (w : World) (wfa : (Lit.int .u64 a).wf = true) (wfb : (Lit.int .u64 b).wf = true) (wfc : (Lit.int .u64 c).wf = true) (hT : Tab w) :
    Calls Tryd.prog 8 #[.int .u64 a, .int .u64 b, .int .u64 c] w fun e w' => e = .returned (.bool true) ∧ Below w.heap.size w w' := by
  have ha := u_of_wf wfa
  have hb := u_of_wf wfb
  have hc := u_of_wf wfc
  clear wfa wfb wfc
  have T0 := Lib.hid hT
  clear hT
  rcases Rl.cp_range a b with p1 | p1 | p1
  · rcases Rl.cp_range b c with q1 | q1 | q1
    · exact three_less_less a b c w ha hb hc T0 (Lib.hid p1) (Lib.hid q1)
    · exact three_less_same a b c w ha hb hc T0 (Lib.hid p1) (Lib.hid q1)
    · exact three_less_more a b c w ha hb hc T0 (Lib.hid p1) (Lib.hid q1)
  · rcases Rl.cp_range b c with q1 | q1 | q1
    · exact three_same_less a b c w ha hb hc T0 (Lib.hid p1) (Lib.hid q1)
    · exact three_same_same a b c w ha hb hc T0 (Lib.hid p1) (Lib.hid q1)
    · exact three_same_more a b c w ha hb hc T0 (Lib.hid p1) (Lib.hid q1)
  · rcases Rl.cp_range b c with q1 | q1 | q1
    · exact three_more_less a b c w ha hb hc T0 (Lib.hid p1) (Lib.hid q1)
    · exact three_more_same a b c w ha hb hc T0 (Lib.hid p1) (Lib.hid q1)
    · exact three_more_more a b c w ha hb hc T0 (Lib.hid p1) (Lib.hid q1)

end Go.Proofs.YtaknkiafchnlpaaDoor
