/-
  The document's Put and Text: by exact answers. Condition: a text takes at most 2^40 bytes.
-/
import Derived.Test.YtkmbgehknpefiaaDoorOwy
import Derived.Laws.BitsAllLaws
namespace Go.Proofs.YtkmbgehknpefiaaDoor
set_option linter.unusedSimpArgs false
set_option linter.unusedVariables false
open Go.RowKit
end Go.Proofs.YtkmbgehknpefiaaDoor
