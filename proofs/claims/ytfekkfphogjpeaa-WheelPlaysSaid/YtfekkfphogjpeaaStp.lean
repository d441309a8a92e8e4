/-
  An identifier's ten numbers; what was there reads as it did. No condition.
-/
import Derived.Test.YtfekkfphogjpeaaConv
import Derived.Below
import Derived.Handy
namespace Go.Proofs.Ytfekkfphogjpeaa
set_option linter.unusedSimpArgs false
set_option linter.unusedVariables false
open Go.RowKit

/-- an identifier's ten numbers. -/
structure I10 where
  n : Int
  l : Int
  s : Int
  d : Int
  a0 : Int
  a1 : Int
  b0 : Int
  b1 : Int
  c0 : Int
  c1 : Int
  deriving DecidableEq, Inhabited
/-- none. -/
def zer : I10 := ⟨0, 0, 0, 0, 0, 0, 0, 0, 0, 0⟩
/-- what was there reads as it did. -/
theorem kept {W w1 : World} (hb : Below W.heap.size W w1) (b o : Nat) (v : Value) (hl : b < W.heap.size) (h : W.cell? ⟨b, o, none⟩ = some v) : w1.cell? ⟨b, o, none⟩ = some v := by
  rw [hb.cell (p := ⟨b, o, none⟩) hl]
  exact h
theorem keptF {W w1 : World} (hb : Below W.heap.size W w1) (b o : Nat) (hl : b < W.heap.size) (h : W.frozen? ⟨b, o, none⟩ = false) : w1.frozen? ⟨b, o, none⟩ = false := by
  rw [hb.frozen (p := ⟨b, o, none⟩) hl]
  exact h

end Go.Proofs.Ytfekkfphogjpeaa
