/-
  Law UtfPuts' walk: the call returns true, and writes nothing that was there. No condition.
-/
import Derived.Test.YtcehhphmmcoaaaaUtfAwake
import Derived.Test.YtcehhphmmcoaaaaUtfRefPut
namespace Go.Proofs.Ytcehhphmmcoaaaa
open Go.RowKit

set_option maxHeartbeats 1000000 in
theorem utfPuts_walk (a : Int) (w : World) (_ : (Lit.int .i64 a).wf = true) :
    Calls Try.prog 3 #[.int .i64 a] w fun e w' => e = .returned (.bool true) ∧ Below w.heap.size w w' := by
  go_enter Try.func3, Try.ntmps3
  go_wp2_with fail
  refine (put_any a _).mono ?_
  rintro e w1 ⟨rfl, hb⟩
  have Hb := Lib.hid hb
  clear hb
  go_wp2_with fail
  refine (rput_any a _).mono ?_
  rintro e w2 ⟨rfl, hb⟩
  have Hb2 := Lib.hid hb
  clear hb
  go_wp2_with fail
  refine (width_any a _).mono ?_
  rintro e w' ⟨rfl, rfl⟩
  go_wp2_with fail
  refine (rwidth_any a _).mono ?_
  rintro e w' ⟨rfl, rfl⟩
  go_wp2_with fail
  refine (awake_any _).mono ?_
  rintro e w3 ⟨rfl, hb⟩
  have Hb3 := Lib.hid hb
  clear hb
  go_wp2
  go_ret
  exact ⟨rfl, (Hb.out.trans (Hb2.out.mono Hb.out.size)).trans (Hb3.out.mono (Nat.le_trans Hb.out.size Hb2.out.size))⟩

end Go.Proofs.Ytcehhphmmcoaaaa
