/-
  A value as an argument, opened and shut.
-/
import Derived.Test.YtdonmbmahcjfbaaGreatDoorVlWorld
import Derived.ProofKit
import Derived.OpenShut
import Derived.ShutString
import Derived.Deep.DeepHandedRow
import Derived.Lib.LaidTab
import Derived.Lib.SmallJoins
namespace Go.Proofs.YtdonmbmahcjfbaaGreatDoor
open Go.ChangeShapes Go.WideShapes Go.ChangeAt Go.RowKit Go.Joins Go.Deep

theorem u_of_wf {x : Int} (h : (Lit.int .u64 x).wf = true) : Rl.U x := by
  simp [Lit.wf, IntKind.min, IntKind.max, IntKind.signed, IntKind.bits] at h
  unfold Rl.U; omega

section
variable {H : Type} {enc : TypeId × Value → H} {W : World}

end

end Go.Proofs.YtdonmbmahcjfbaaGreatDoor
