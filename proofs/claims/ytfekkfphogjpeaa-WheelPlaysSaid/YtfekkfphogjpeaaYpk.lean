/-
  Lists of keys in memory. No condition.
-/
import Derived.Test.YtfekkfphogjpeaaYar
import Derived.Test.YtfekkfphogjpeaaYdd
namespace Go.Proofs.Ytfekkfphogjpeaa
set_option linter.unusedSimpArgs false
set_option linter.unusedVariables false
open Go.RowKit Go.Maps Go.Sort

/-- a list of keys in memory. -/
def KRow (W : World) (A : Option Addr) (ks : List K13) : Prop := ∀ i x, ks[i]? = some x → ∃ g, A = some ⟨g, 0, none⟩ ∧ KAt W g (i * 13) x
theorem KAt.below {W W' : World} {g o : Nat} {x : K13} (h : KAt W g o x) (hb : Below W.heap.size W W') : KAt W' g o x := fun j v hv => by
  have := h j v hv
  exact (hb.cell (p := ⟨g, o + j, none⟩) (World.block_lt_of_cell? W _ this)).trans this
theorem KRow.below {W W' : World} {A : Option Addr} {ks : List K13} (h : KRow W A ks) (hb : Below W.heap.size W W') : KRow W' A ks := fun i x hx => by
  obtain ⟨g, e, hk⟩ := h i x hx
  exact ⟨g, e, hk.below hb⟩
theorem rowE_at {W : World} {base n : Nat} {t : TypeId} {v : Value} {L : List Tm} (h : W.ownsRow base t 13 v n (cellsK (L.map (·.k)))) (hn : n = L.length) : ∃ A c, v = .slice A n c ∧ n ≤ c ∧ c ≤ maxLen ∧ KRow W A (L.map (·.k)) := by
  obtain ⟨A, c, rfl, h1, h2, h3, _⟩ := own_form h
  refine ⟨A, c, rfl, h1, h2, fun i x hx => ?_⟩
  have hi : i < L.length := by
    have := (List.getElem?_eq_some_iff.1 hx).1
    simpa using this
  obtain ⟨g, rfl, _, _⟩ := h3 (by omega)
  refine ⟨g, rfl, fun j u hu => ?_⟩
  have hj : j < 13 := by
    have := (Array.getElem?_eq_some_iff.1 hu).1
    simpa [K13.cs] using this
  exact own_cell h (i * 13 + j) u ((cellsK_at _ i x hx j hj).trans hu)

end Go.Proofs.Ytfekkfphogjpeaa
