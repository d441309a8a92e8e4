/-
  The document's Sum: by exact answers. Condition: the bytes lie in memory.
-/
import Derived.Test.YtkmbgehknpefiaaDoorOsm
namespace Go.Proofs.YtkmbgehknpefiaaDoor
set_option linter.unusedSimpArgs false
set_option linter.unusedVariables false
open Go.RowKit
end Go.Proofs.YtkmbgehknpefiaaDoor
