/-
  What the document's Read answers of any text, kind by kind. Conditions: the bounds named in each theorem.
-/
import Derived.Test.YtkmbjaackjambaaDoorKcRead
import Derived.Test.YtkmbjaackjambaaDoorKcRefPlain
namespace Go.Proofs.YtkmbjaackjambaaDoor
open Go.RowKit

end Go.Proofs.YtkmbjaackjambaaDoor
