/-
  Are two tables the same: sameCol, Same by the library's EqualFunc, and the document's SameCol, SameCols, Same. Conditions: at most 1000 columns.
-/
import Derived.Test.YtdonmbmahcjfbaaGreatDoorScCheck
import Derived.Test.YtdonmbmahcjfbaaGreatDoorVlSame
namespace Go.Proofs.YtdonmbmahcjfbaaGreatDoor
open Go.RowKit

end Go.Proofs.YtdonmbmahcjfbaaGreatDoor
