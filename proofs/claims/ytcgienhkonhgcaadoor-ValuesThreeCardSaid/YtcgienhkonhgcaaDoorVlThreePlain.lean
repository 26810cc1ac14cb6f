/-
  The order of values has three answers.
-/
import Derived.Test.YtcgienhkonhgcaaDoorVlPlain
namespace Go.Proofs.YtcgienhkonhgcaaDoor.Vl

theorem ic_range (a b : Int) : ic a b = -1 ∨ ic a b = 0 ∨ ic a b = 1 := by unfold ic; (repeat' split) <;> omega
theorem sc_range (a b : List UInt8) : sc a b = -1 ∨ sc a b = 0 ∨ sc a b = 1 := by unfold sc; (repeat' split) <;> omega
theorem vc_range (k n b : Int) (s : List UInt8) (k' n' b' : Int) (s' : List UInt8) : vc k n b s k' n' b' s' = -1 ∨ vc k n b s k' n' b' s' = 0 ∨ vc k n b s k' n' b' s' = 1 := by
  unfold vc or4
  have h1 := ic_range k k'
  have h2 := ic_range n n'
  have h3 := Rl.cp_range b b'
  have h4 := sc_range s s'
  (repeat' split) <;> omega

end Go.Proofs.YtcgienhkonhgcaaDoor.Vl
