/-
  The document's Check of a sheet. Conditions: a sheet in memory, of at most 100 lines of at most 30 values.
-/
import Derived.Test.YtfgakoldedpfoaaDoorShCheck
namespace Go.Proofs.YtfgakoldedpfoaaDoor
open Go.RowKit
set_option linter.unusedVariables false
set_option linter.unusedSimpArgs false

end Go.Proofs.YtfgakoldedpfoaaDoor
