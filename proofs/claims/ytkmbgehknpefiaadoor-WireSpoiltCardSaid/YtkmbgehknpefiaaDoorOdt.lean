/-
  The document's Reader: its texts: by exact answers. Condition: it lies in memory.
-/
import Derived.Test.YtkmbgehknpefiaaDoorOdu
namespace Go.Proofs.YtkmbgehknpefiaaDoor
set_option linter.unusedSimpArgs false
set_option linter.unusedVariables false
open Go.RowKit

theorem text_u (most : Nat) (s : RS) : RS.text most s = (if (s.u most).2.E = 0 then (if (s.u most).1 ≤ (s.u most).2.L.length then ((s.u most).2.L.take (s.u most).1, ⟨(s.u most).2.L.drop (s.u most).1, 0⟩) else ([], ⟨[], 6⟩)) else ([], (s.u most).2)) := rfl

end Go.Proofs.YtkmbgehknpefiaaDoor
