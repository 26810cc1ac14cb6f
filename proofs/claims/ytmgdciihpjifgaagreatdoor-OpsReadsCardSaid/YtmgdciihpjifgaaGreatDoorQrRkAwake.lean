/-
 What awake answers. No condition.
-/
import Derived.Test.YtmgdciihpjifgaaGreatDoorQrRkVals
import Derived.Test.YtmgdciihpjifgaaGreatDoorQrRkPut
import Derived.Test.YtmgdciihpjifgaaGreatDoorQrScSame
namespace Go.Proofs.YtmgdciihpjifgaaGreatDoor.Rk
open Go.RowKit
theorem put_x (xs : List V) (T : List UInt8) (e : Int) (n : Nat) (ao : Option Addr) (cap : Nat) (w : World) (hn : xs.length = n) (h : Sl w ao xs) (ho : ∀ x ∈ xs, x.ok) (hT : pw xs = T) (he : pe xs = e) :
  Calls Tryz.prog 48 #[.slice ao n cap] w fun y w' => y = .returned (.tuple #[.string ⟨T.toArray⟩, .int .i64 e]) ∧ Below w.heap.size w w' := by
 subst hn hT he; exact rput_is xs ao cap w h ho
theorem dput_x (xs : List V) (T : List UInt8) (e : Int) (n : Nat) (ao : Option Addr) (cap : Nat) (w : World) (hn : xs.length = n) (h : Sl w ao xs) (ho : ∀ x ∈ xs, x.ok) (hT : pw xs = T) (he : pe xs = e) :
  Calls Tryz.prog 49 #[.slice ao n cap] w fun y w' => y = .returned (.tuple #[.string ⟨T.toArray⟩, .int .i64 e]) ∧ Below w.heap.size w w' := by
 subst hn hT he; exact dput_is xs ao cap w h ho
abbrev r2 : List V := [⟨0, 0, 0, []⟩, ⟨2, 1, 0, []⟩]
end Go.Proofs.YtmgdciihpjifgaaGreatDoor.Rk
