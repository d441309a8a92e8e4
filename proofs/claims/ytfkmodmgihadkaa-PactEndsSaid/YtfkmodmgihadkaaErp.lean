/-
  The law's RefParts: parts of the program as the document's, by a contract. Condition: the list takes at most 2^47 bytes.
-/
import Derived.Test.YtfkmodmgihadkaaEbas
namespace Go.Proofs.Ytfkmodmgihadkaa
set_option linter.unusedSimpArgs false
set_option linter.unusedVariables false
open Go.RowKit
end Go.Proofs.Ytfkmodmgihadkaa
