/-
  Two views held against each other; which views may be: the document's SameProcs, Same and Right, by exact answers. Condition: the lists lie in memory.
-/
import Derived.Test.YtfkmodmgihadkaaVrnk
namespace Go.Proofs.Ytfkmodmgihadkaa.V
set_option linter.unusedSimpArgs false
set_option linter.unusedVariables false
open Go.RowKit
theorem rowA (w : World) (c1 c2 : Array Value) (t1 t2 : TypeId) : ((w.alloc (.cells c1 t1)).alloc (.cells c2 t2)).heap[w.heap.size]? = some (.cells c1 t1 (0, 0)) :=
  (((Below.refl (w.heap.size + 1) (w.alloc (.cells c1 t1))).alloc (by simp) (.cells c2 t2)).block w.heap.size (by omega)).trans (heap_alloc_new w _)
theorem rowB (w : World) (c1 c2 : Array Value) (t1 t2 : TypeId) : ((w.alloc (.cells c1 t1)).alloc (.cells c2 t2)).heap[w.heap.size + 1]? = some (.cells c2 t2 (0, 0)) := by
  have hg := heap_alloc_new (w.alloc (.cells c1 t1)) (.cells c2 t2)
  have e : (w.alloc (.cells c1 t1)).heap.size = w.heap.size + 1 := by simp
  rw [e] at hg
  exact hg
theorem two_below (w : World) (c1 c2 : Array Value) (t1 t2 : TypeId) : Below w.heap.size w ((w.alloc (.cells c1 t1)).alloc (.cells c2 t2)) := ((Below.refl _ _).alloc (Nat.le_refl _) _).alloc (by simp) _

/-- may there be such members? -/
def okV (V : List P2) : Bool := V.all P2.r && decide (V.Pairwise fun a b => a.n ≠ b.n)
/-- may there be such a view? -/
def vR (g N : Int) (V : List P2) : Bool := decide (g < 4) && decide (1 ≤ N) && decide (1 ≤ V.length) && decide (V.length ≤ 8) && okV V
theorem okV_true {V : List P2} (h : ∀ (i : Nat) (x : P2), V[i]? = some x → x.r = true ∧ ∀ (j : Nat) (y : P2), j < i → V[j]? = some y → y.n ≠ x.n) : okV V = true := by
  have h1 : V.all P2.r = true := by
    rw [List.all_eq_true]
    intro x hx
    obtain ⟨j, hj⟩ := List.getElem?_of_mem hx
    exact (h j x hj).1
  have h2 : V.Pairwise fun a b => a.n ≠ b.n := by
    rw [List.pairwise_iff_getElem]
    intro i j hi hj hij
    exact (h j _ (List.getElem?_eq_getElem hj)).2 i _ hij (List.getElem?_eq_getElem hi)
  simp [okV, h1, h2]
theorem okV_bad {V : List P2} {i : Nat} {x : P2} (hi : V[i]? = some x) (hr : x.r = false) : okV V = false := by
  have : V.all P2.r = false := by
    rw [List.all_eq_false]
    exact ⟨x, List.mem_of_getElem? hi, by simp [hr]⟩
  simp [okV, this]
theorem okV_two {V : List P2} {i j : Nat} {x y : P2} (hj : j < i) (hi : V[i]? = some x) (h2 : V[j]? = some y) (he : y.n = x.n) : okV V = false := by
  have : ¬ V.Pairwise fun a b => a.n ≠ b.n := by
    rw [List.pairwise_iff_getElem]
    intro h
    have hi' := List.getElem?_eq_some_iff.1 hi
    have hj' := List.getElem?_eq_some_iff.1 h2
    have := h j i hj'.1 hi'.1 hj
    rw [hi'.2, hj'.2] at this
    exact this he
  simp [okV, this]

end Go.Proofs.Ytfkmodmgihadkaa.V
