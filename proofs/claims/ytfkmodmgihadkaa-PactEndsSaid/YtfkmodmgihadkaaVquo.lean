/-
  Majorities: the document's Majority and Quorum, by exact answers. Condition: the lists lie in memory.
-/
import Derived.Test.YtfkmodmgihadkaaVrnk
namespace Go.Proofs.Ytfkmodmgihadkaa.V
set_option linter.unusedSimpArgs false
set_option linter.unusedVariables false
open Go.RowKit

/-- how many of the first ones are among L. -/
def cnt (V L : List P2) (k : Nat) : Nat := ((V.take k).filter fun p => decide (p ∈ L)).length
/-- are a majority of V among L? -/
def quo (V L : List P2) : Bool := decide (V.length / 2 + 1 ≤ (V.filter fun p => decide (p ∈ L)).length)
theorem cnt_all (V L : List P2) : cnt V L V.length = (V.filter fun p => decide (p ∈ L)).length := by simp [cnt]
theorem cnt_le (V L : List P2) (k : Nat) : cnt V L k ≤ k := by
  unfold cnt
  exact Nat.le_trans (List.length_filter_le _ _) (by simp; omega)
theorem cnt_in {V L : List P2} {k : Nat} {x : P2} (h : V[k]? = some x) (hx : x ∈ L) : cnt V L (k + 1) = cnt V L k + 1 := by
  unfold cnt
  rw [List.take_add_one, h]
  simp [hx]
theorem cnt_out {V L : List P2} {k : Nat} {x : P2} (h : V[k]? = some x) (hx : x ∉ L) : cnt V L (k + 1) = cnt V L k := by
  unfold cnt
  rw [List.take_add_one, h]
  simp [hx]

end Go.Proofs.Ytfkmodmgihadkaa.V
