/-
  What must come: a child that is known; the law's own question answers true, and nothing that was there is changed. No condition.
-/
import Derived.Test.YtldbmmganicliaaStp
import Derived.Test.YtldbmmganicliaaHlp
namespace Go.Proofs.Ytldbmmganicliaa
set_option linter.unusedSimpArgs false
set_option linter.unusedVariables false
open Go.RowKit
end Go.Proofs.Ytldbmmganicliaa
