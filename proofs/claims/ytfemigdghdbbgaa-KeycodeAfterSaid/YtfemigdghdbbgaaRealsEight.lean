/-
  What eight answers: the eight bytes of any 64 bits, the highest first; it writes nothing that was there.
-/
import Derived.Test.YtfemigdghdbbgaaRealsLeaf
import Derived.Below
namespace Go.Proofs.Ytfemigdghdbbgaa
open Go.RowKit

/-- The eight digits of base 256. -/
def Dg (x a b c d e f g h : Int) : Prop :=
  x = ((((((a * 256 + b) * 256 + c) * 256 + d) * 256 + e) * 256 + f) * 256 + g) * 256 + h ∧ (0 ≤ a ∧ a < 256) ∧ (0 ≤ b ∧ b < 256) ∧ (0 ≤ c ∧ c < 256) ∧ (0 ≤ d ∧ d < 256) ∧ (0 ≤ e ∧ e < 256) ∧ (0 ≤ f ∧ f < 256) ∧ (0 ≤ g ∧ g < 256) ∧ (0 ≤ h ∧ h < 256)

/-- The eight bytes as Go's array. -/
def ag (a b c d e f g h : Int) : Value := .agg #[.int .u8 a, .int .u8 b, .int .u8 c, .int .u8 d, .int .u8 e, .int .u8 f, .int .u8 g, .int .u8 h]

theorem below2 (w : World) (o p : Obj) : Below w.heap.size w ((w.alloc o).alloc p) :=
  have b := (Below.refl _ w).alloc (Nat.le_refl _) o
  b.alloc b.size p

set_option maxHeartbeats 1000000 in
theorem eight_any (x : Int) (w : World) (hx : Rl.U x) :
    Calls Try.prog 57 #[.int .u64 x] w fun r w' => ∃ a b c d e f g h, r = .returned (ag a b c d e f g h) ∧ Dg x a b c d e f g h ∧ Below w.heap.size w w' := by
  go_enter Try.func57, Try.ntmps57
  go_wp2
  refine wp_loop_rounds 9 ?_
  rw [rounds_succ]
  go_wp2
  rw [rounds_succ]
  go_wp2
  rw [rounds_succ]
  go_wp2
  rw [rounds_succ]
  go_wp2
  rw [rounds_succ]
  go_wp2
  rw [rounds_succ]
  go_wp2
  rw [rounds_succ]
  go_wp2
  rw [rounds_succ]
  go_wp2
  rw [rounds_succ]
  go_wp2
  refine bodyPost_ret (v := .agg #[.int .u8 (x / 256 / 256 / 256 / 256 / 256 / 256 / 256 % 256), .int .u8 (x / 256 / 256 / 256 / 256 / 256 / 256 % 256), .int .u8 (x / 256 / 256 / 256 / 256 / 256 % 256), .int .u8 (x / 256 / 256 / 256 / 256 % 256), .int .u8 (x / 256 / 256 / 256 % 256), .int .u8 (x / 256 / 256 % 256), .int .u8 (x / 256 % 256), .int .u8 (x % 256)]) (by simp [results, Try.results57, go_sem]) rfl
    ⟨_, _, _, _, _, _, _, _, rfl, ?_, below2 _ _ _⟩
  unfold Rl.U at hx
  unfold Dg
  omega

end Go.Proofs.Ytfemigdghdbbgaa
