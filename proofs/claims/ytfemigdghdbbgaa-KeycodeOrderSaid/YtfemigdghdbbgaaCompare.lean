/-
  What cmp.Compare answers at two bytes of which one is less.
-/
import Derived.Test.YtfemigdghdbbgaaBase
namespace Go.Proofs.Ytfemigdghdbbgaa
open Go.RowKit

set_option maxHeartbeats 1000000 in
theorem compare_less (a b : Int) (w : World) (h : a < b) :
    Calls Try.prog 58 #[.int .u8 a, .int .u8 b] w fun e w' => e = .returned (.int .i64 (-1)) ∧ w' = w := by
  go_enter Try.func58, Try.ntmps58
  go_wp2
  go_ret
  exact ⟨rfl, rfl⟩

set_option maxHeartbeats 1000000 in
theorem compare_more (a b : Int) (w : World) (h : b < a) :
    Calls Try.prog 58 #[.int .u8 a, .int .u8 b] w fun e w' => e = .returned (.int .i64 1) ∧ w' = w := by
  have g : b ≤ a := Int.le_of_lt h
  go_enter Try.func58, Try.ntmps58
  go_wp2
  go_ret
  exact ⟨rfl, rfl⟩

end Go.Proofs.Ytfemigdghdbbgaa
