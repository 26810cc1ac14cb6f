/-
  The document's Put of a row, Delete of a key's row. Conditions: a sheet in memory, of at most 1000 columns and 100 lines of at most 30 values; a row of at most 30 values that keep a value's bounds.
-/
import Derived.Test.YtfgakoldedpfoaaDoorShRef
import Derived.Test.YtfgakoldedpfoaaDoorShRCheck
import Derived.Test.YtfgakoldedpfoaaDoorShDel
namespace Go.Proofs.YtfgakoldedpfoaaDoor
open Go.RowKit
set_option linter.unusedVariables false
set_option linter.unusedSimpArgs false

end Go.Proofs.YtfgakoldedpfoaaDoor
