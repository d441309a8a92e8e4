/-
  The document's Send: by exact answers. Condition: the link lies in memory.
-/
import Derived.Test.YtnagbiicpecamaaJdm
namespace Go.Proofs.Ytnagbiicpecamaa
set_option linter.unusedSimpArgs false
set_option linter.unusedVariables false
open Go.RowKit Go.Maps Go.Sort
end Go.Proofs.Ytnagbiicpecamaa
