/-
  What the document's Check answers, for every value; it writes nothing that was there. Condition: the bounds named in the theorems.
-/
import Derived.Test.YtdonmbmahcjfbaaGreatDoorVlWorld
import Derived.Test.YtdonmbmahcjfbaaGreatDoorUtfRefAll
namespace Go.Proofs.YtdonmbmahcjfbaaGreatDoor
open Go.RowKit

end Go.Proofs.YtdonmbmahcjfbaaGreatDoor
