/-
  Conversions between the program's parts and results and the document's, and which of them may be: each by a contract. No condition.
-/
import Derived.Test.YtfkmodmgihadkaaRows
import Derived.WalkKit
import Derived.WalkSpells
import Derived.WalkLawsBesides
import Derived.Deep.RegionWith
import Derived.Deep.RegionHeld3
import Derived.BigRegion
import Derived.Lib.Hide
import Derived.LoopN
import Derived.Handy
namespace Go.Proofs.Ytfkmodmgihadkaa
set_option linter.unusedSimpArgs false
set_option linter.unusedVariables false
open Go.RowKit

/-- may there be such a part? -/
def rP (g k n : Int) (key val : ByteArray) : Bool :=
  decide (g < 4) && decide (k ≤ 4) && decide (1 ≤ key.size) && decide (key.size ≤ 16) && decide (val.size ≤ 64) && (decide (k = 1) || decide (val.size = 0)) && decide (0 ≤ n) && (decide (k = 2) || decide (k = 3) || decide (n = 0))
/-- may there be such a result? -/
def rR (c : Int) (v : ByteArray) : Bool := decide (c ≤ 5) && decide (v.size ≤ 1000)

theorem emp_eq (s : ByteArray) : s.toList.isEmpty = decide (s.size = 0) := by
  rw [ByteArray.toList_eq]
  show s.data.toList.isEmpty = decide (s.data.size = 0)
  cases h : s.data.toList with
  | nil => have := congrArg List.length h; simp at this; simp [this]
  | cons a l => have := congrArg List.length h; simp at this; simp; intro hh; rw [hh] at this; simp at this
theorem nil_iff (s : ByteArray) : s.toList = [] ↔ s.size = 0 := by
  have h := emp_eq s
  rw [← List.isEmpty_iff, h]
  simp [-ByteArray.size_eq_zero_iff]
theorem ret_bool {a b : Bool} (h : a = b) : Ending.returned (.bool a) = .returned (.bool b) := by rw [h]

end Go.Proofs.Ytfkmodmgihadkaa
