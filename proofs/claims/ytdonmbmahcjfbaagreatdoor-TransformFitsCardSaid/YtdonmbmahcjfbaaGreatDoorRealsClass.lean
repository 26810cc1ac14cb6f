/-
  The class of a real: the program's and the document's. No condition.
-/
import Derived.Test.YtdonmbmahcjfbaaGreatDoorRealsKey
namespace Go.Proofs.YtdonmbmahcjfbaaGreatDoor
open Go.RowKit

theorem ret_ib {k : IntKind} {a b : Int} {c d : Bool} (h : a = b) (g : c = d) : Ending.returned (.tuple #[.int k a, .bool c]) = .returned (.tuple #[.int k b, .bool d]) := by rw [h, g]
theorem class_is (x r : Int) (w : World) (hx : Rl.U x) (h : Rl.cl x = r) :
    Calls Tryz.prog 115 #[.int .u64 x] w fun e w' => e = .returned (.int .i64 r) ∧ w = w' := by
  rw [← h]; exact class_any x w hx

end Go.Proofs.YtdonmbmahcjfbaaGreatDoor
