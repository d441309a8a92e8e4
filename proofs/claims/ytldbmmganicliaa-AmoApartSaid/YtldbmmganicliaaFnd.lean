/-
  The document's Set: Find, by a contract. Condition: the list's identifiers lie in one block, each number fits its kind.
-/
import Derived.Test.YtldbmmganicliaaOrd
import Derived.Test.YtldbmmganicliaaLex
import Derived.Test.YtldbmmganicliaaUnd
namespace Go.Proofs.Ytldbmmganicliaa
set_option linter.unusedSimpArgs false
set_option linter.unusedVariables false
open Go.RowKit Go.Sort

/-- each number fits its kind. -/
structure I10.Rng (x : I10) : Prop where
  n : 0 ≤ x.n ∧ x.n ≤ 255
  l : 0 ≤ x.l ∧ x.l ≤ 65535
  s : 0 ≤ x.s ∧ x.s ≤ 4294967295
  d : 0 ≤ x.d ∧ x.d ≤ 255
  a0 : 0 ≤ x.a0 ∧ x.a0 ≤ 255
  a1 : 0 ≤ x.a1 ∧ x.a1 ≤ 255
  b0 : 0 ≤ x.b0 ∧ x.b0 ≤ 255
  b1 : 0 ≤ x.b1 ∧ x.b1 ≤ 255
  c0 : 0 ≤ x.c0 ∧ x.c0 ≤ 255
  c1 : 0 ≤ x.c1 ∧ x.c1 ≤ 255
/-- the identifier number i of a row. -/
structure RowAt (W : World) (g i : Nat) (x : I10) : Prop where
  c0 : W.cell? ⟨g, i * 10, none⟩ = some (.int .u8 x.n)
  c1 : W.cell? ⟨g, i * 10 + 1, none⟩ = some (.int .u16 x.l)
  c2 : W.cell? ⟨g, i * 10 + 2, none⟩ = some (.int .u32 x.s)
  c3 : W.cell? ⟨g, i * 10 + 3, none⟩ = some (.int .u8 x.d)
  c4 : W.cell? ⟨g, i * 10 + 4, none⟩ = some (.int .u8 x.a0)
  c5 : W.cell? ⟨g, i * 10 + 5, none⟩ = some (.int .u8 x.a1)
  c6 : W.cell? ⟨g, i * 10 + 6, none⟩ = some (.int .u8 x.b0)
  c7 : W.cell? ⟨g, i * 10 + 7, none⟩ = some (.int .u8 x.b1)
  c8 : W.cell? ⟨g, i * 10 + 8, none⟩ = some (.int .u8 x.c0)
  c9 : W.cell? ⟨g, i * 10 + 9, none⟩ = some (.int .u8 x.c1)

theorem RowAt.kept {W W' : World} {B g i : Nat} {x : I10} (h : RowAt W g i x) (hb : Below B W W') (hl : g < B) : RowAt W' g i x :=
  ⟨(hb.cell (p := ⟨g, i * 10, none⟩) hl).trans h.c0, (hb.cell (p := ⟨g, i * 10 + 1, none⟩) hl).trans h.c1, (hb.cell (p := ⟨g, i * 10 + 2, none⟩) hl).trans h.c2, (hb.cell (p := ⟨g, i * 10 + 3, none⟩) hl).trans h.c3, (hb.cell (p := ⟨g, i * 10 + 4, none⟩) hl).trans h.c4, (hb.cell (p := ⟨g, i * 10 + 5, none⟩) hl).trans h.c5, (hb.cell (p := ⟨g, i * 10 + 6, none⟩) hl).trans h.c6, (hb.cell (p := ⟨g, i * 10 + 7, none⟩) hl).trans h.c7, (hb.cell (p := ⟨g, i * 10 + 8, none⟩) hl).trans h.c8, (hb.cell (p := ⟨g, i * 10 + 9, none⟩) hl).trans h.c9⟩

/-- how many stand ahead of x. -/
def fnd (X : List I10) (x : I10) : Nat := (X.takeWhile fun y => decide (y.cmp x < 0)).length
theorem fnd_eq (x : I10) : ∀ (X : List I10) (j : Nat), j ≤ X.length → (∀ k y, k < j → X[k]? = some y → y.cmp x < 0) → (∀ y, X[j]? = some y → ¬ y.cmp x < 0) → fnd X x = j
  | [], j, hj, _, _ => by
    have : j = 0 := by simpa using hj
    subst this
    rfl
  | a :: X, 0, _, _, h => by
    have := h a (by simp)
    simp [fnd, this]
  | a :: X, j + 1, hj, hp, h => by
    have ha := hp 0 a (by omega) (by simp)
    have ih := fnd_eq x X j (by simpa using hj) (fun k y hk hy => hp (k + 1) y (by omega) (by simpa using hy)) (fun y hy => h y (by simpa using hy))
    simp only [fnd] at ih ⊢
    rw [List.takeWhile_cons, if_pos (by simpa using ha), List.length_cons, ih]
/-- does x stand there? -/
def isAt (X : List I10) (x : I10) : Bool :=
  match X[fnd X x]? with
  | some y => eqI y x
  | none => false

end Go.Proofs.Ytldbmmganicliaa
