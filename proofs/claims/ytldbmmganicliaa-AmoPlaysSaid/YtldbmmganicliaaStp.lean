/-
  A child, a parent and a root of an identifier: the program's functions and the document's give back the same numbers, by plain functions, and change nothing that was there. Condition: the depth is not below 0.
-/
import Derived.Test.YtldbmmganicliaaRgt
namespace Go.Proofs.Ytldbmmganicliaa
set_option linter.unusedSimpArgs false
set_option linter.unusedVariables false
open Go.RowKit

/-- an identifier's ten numbers. -/
structure I10 where
  n : Int
  l : Int
  s : Int
  d : Int
  a0 : Int
  a1 : Int
  b0 : Int
  b1 : Int
  c0 : Int
  c1 : Int
/-- none. -/
def zer : I10 := ⟨0, 0, 0, 0, 0, 0, 0, 0, 0, 0⟩
/-- may there be such a one? -/
def I10.ok (x : I10) : Bool := rI x.n x.l x.s x.d x.a0 x.a1 x.b0 x.b1 x.c0 x.c1
/-- the call that group g makes for x, as its call i; and the error. -/
def chi (x : I10) (g i : Int) : I10 × Int :=
  if x.ok = false ∨ 4 ≤ g then (zer, 1) else
  if x.d = 3 then (zer, 18) else
  if x.d = 0 then (⟨x.n, x.l, x.s, 1, g, i, x.b0, x.b1, x.c0, x.c1⟩, 0) else
  if x.d = 1 then (⟨x.n, x.l, x.s, 2, x.a0, x.a1, g, i, x.c0, x.c1⟩, 0) else
  (⟨x.n, x.l, x.s, 3, x.a0, x.a1, x.b0, x.b1, g, i⟩, 0)
/-- the call that x was made for; and the error. -/
def par (x : I10) : I10 × Int :=
  if x.ok = false then (zer, 1) else
  if x.d = 0 then (zer, 3) else
  if x.d = 1 then (⟨x.n, x.l, x.s, 0, 0, 0, x.b0, x.b1, x.c0, x.c1⟩, 0) else
  if x.d = 2 then (⟨x.n, x.l, x.s, 1, x.a0, x.a1, 0, 0, x.c0, x.c1⟩, 0) else
  (⟨x.n, x.l, x.s, 2, x.a0, x.a1, x.b0, x.b1, 0, 0⟩, 0)
theorem ok_d {n l s d a0 a1 b0 b1 c0 c1 : Int} (h : rI n l s d a0 a1 b0 b1 c0 c1 = true) : d ≤ 3 := by
  by_cases hd : d ≤ 3
  · exact hd
  · rw [rightID_close n l s d a0 a1 b0 b1 c0 c1 (.inr (.inr (.inr (by omega))))] at h
    cases h
/-- what was there reads as it did. -/
theorem kept {W w1 : World} (hb : Below W.heap.size W w1) (b o : Nat) (v : Value) (hl : b < W.heap.size) (h : W.cell? ⟨b, o, none⟩ = some v) : w1.cell? ⟨b, o, none⟩ = some v := by
  rw [hb.cell (p := ⟨b, o, none⟩) hl]
  exact h
theorem keptF {W w1 : World} (hb : Below W.heap.size W w1) (b o : Nat) (hl : b < W.heap.size) (h : W.frozen? ⟨b, o, none⟩ = false) : w1.frozen? ⟨b, o, none⟩ = false := by
  rw [hb.frozen (p := ⟨b, o, none⟩) hl]
  exact h

end Go.Proofs.Ytldbmmganicliaa
