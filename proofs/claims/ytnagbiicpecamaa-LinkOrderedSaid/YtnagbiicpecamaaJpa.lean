/-
  packets and bodies: the law's comparisons of what both sides tell, where it is the same. Condition: the rows lie in memory.
-/
import Derived.Test.YtnagbiicpecamaaJli
import Derived.Test.YtnagbiicpecamaaJdo
namespace Go.Proofs.Ytnagbiicpecamaa
set_option linter.unusedSimpArgs false
set_option linter.unusedVariables false
open Go.RowKit Go.Maps Go.Sort
end Go.Proofs.Ytnagbiicpecamaa
