/-
  The law's RefParts: parts of the program as the document's, by a contract. Condition: the list takes at most 2^47 bytes.
-/
import Derived.Test.YtjdmjiikpnlkjaaEbas
namespace Go.Proofs.Ytjdmjiikpnlkjaa
set_option linter.unusedSimpArgs false
set_option linter.unusedVariables false
open Go.RowKit

theorem rpart_info : (Try.prog.info? 134).map (fun i => (i.zero, i.size, i.bytes)) = some (some (.agg #[.int .u8 0, .int .u8 0, .string ByteArray.empty, .string ByteArray.empty, .int .i64 0]), 5, 48) := by kernel_rfl

end Go.Proofs.Ytjdmjiikpnlkjaa
