/-
  What awake answers: true. No condition.
-/
import Derived.Test.YtljgnflmomakaaaTdParts
namespace Go.Proofs.Ytljgnflmomakaaa
open Go.RowKit

set_option maxHeartbeats 2000000 in
theorem awake_any (W : World) :
    Calls Try.prog 10 #[] W fun e W' => e = .returned (.bool true) ∧ Below W.heap.size W W' := by
  go_enter Try.func10, Try.ntmps10
  go_wp2_with fail
  refine (make_is 1 2 8388624 0 _ (by decide) (by decide)).mono ?_
  rintro _ w' ⟨rfl, rfl⟩
  go_wp2_with fail
  refine (make_is 1048576 0 0 1 _ (by decide) (by decide)).mono ?_
  rintro _ w' ⟨rfl, rfl⟩
  go_wp2_with fail
  refine (next_is 5 4 9 9 5 1 0 _ (by decide)).mono ?_
  rintro _ w' ⟨rfl, rfl⟩
  go_wp2_with fail
  refine (next_is 5 5 9 9 0 0 21 _ (by decide)).mono ?_
  rintro _ w' ⟨rfl, rfl⟩
  go_wp2_with fail
  refine (with_is 8388624 8388627 true true false _ (by unfold Td.U; omega) (by decide)).mono ?_
  rintro _ w' ⟨rfl, rfl⟩
  go_wp2_with fail
  refine (epoch_is 8388627 1 _ (by decide)).mono ?_
  rintro _ w' ⟨rfl, rfl⟩
  go_wp2_with fail
  refine (seq_is 8388627 2 _ (by decide)).mono ?_
  rintro _ w' ⟨rfl, rfl⟩
  go_wp2_with fail
  refine (locked_is 8388627 true _ (by decide)).mono ?_
  rintro _ w' ⟨rfl, rfl⟩
  go_wp2_with fail
  refine (absent_is 8388627 true _ (by decide)).mono ?_
  rintro _ w' ⟨rfl, rfl⟩
  go_wp2_with fail
  refine (dead_is 8388627 false _ (by decide)).mono ?_
  rintro _ w' ⟨rfl, rfl⟩
  go_wp2_with fail
  refine (plain_w 8388627 8388626 _ (by unfold Td.U; omega) (by decide)).mono ?_
  rintro _ w' ⟨rfl, rfl⟩
  go_wp2_with fail
  refine (cmp_is 8388624 8388627 0 _ (by decide)).mono ?_
  rintro _ w' ⟨rfl, hb⟩
  have B := Lib.hid hb
  clear hb
  go_wp2
  go_ret
  exact ⟨rfl, B.out⟩

end Go.Proofs.Ytljgnflmomakaaa
