/-
  A child, a parent and a root of an identifier, by the document's functions: see the program's. Condition: the depth is not below 0.
-/
import Derived.Test.YtldbmmganicliaaStp
namespace Go.Proofs.Ytldbmmganicliaa
set_option linter.unusedSimpArgs false
set_option linter.unusedVariables false
open Go.RowKit
end Go.Proofs.Ytldbmmganicliaa
