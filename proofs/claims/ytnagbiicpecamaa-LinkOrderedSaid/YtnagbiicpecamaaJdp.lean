/-
  The document's Out, walked: by an exact answer. Condition: the link lies in memory.
-/
import Derived.Test.YtnagbiicpecamaaJdo
namespace Go.Proofs.Ytnagbiicpecamaa
set_option linter.unusedSimpArgs false
set_option linter.unusedVariables false
open Go.RowKit Go.Maps Go.Sort
end Go.Proofs.Ytnagbiicpecamaa
