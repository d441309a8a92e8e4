/-
  The sorted list behind an Add and a Remove: plain mathematics. Condition: the identifiers fit.
-/
import Derived.Test.YtehkofeokccdeaaKpd
import Derived.Test.YtehkofeokccdeaaAll
import Derived.Test.YtehkofeokccdeaaFnd
namespace Go.Proofs.Ytehkofeokccdeaa
set_option linter.unusedSimpArgs false
set_option linter.unusedVariables false
open Go.RowKit Go.Maps Go.Sort Go.Shelf

/-- put in where it stands in order; taken out from there. -/
def ins (X : List I10) (x : I10) : List I10 := X.take (fnd X x) ++ x :: X.drop (fnd X x)
def rmv (X : List I10) (x : I10) : List I10 := X.take (fnd X x) ++ X.drop (fnd X x + 1)

theorem fnd_pos {a x : I10} {X : List I10} (h : a.cmp x < 0) : fnd (a :: X) x = fnd X x + 1 := by simp [fnd, h]
theorem fnd_zero {a x : I10} {X : List I10} (h : ¬ a.cmp x < 0) : fnd (a :: X) x = 0 := by simp [fnd, h]

theorem isAt_iff (x : I10) (hx : x.Fit) : ∀ (X : List I10), (∀ y ∈ X, y.Fit) → Ord X → (isAt X x = true ↔ x ∈ X)
  | [], _, _ => by simp [isAt]
  | a :: X, hF, hO => by
    have ha := hF a (List.mem_cons_self ..)
    have hF' := fun y hy => hF y (List.mem_cons_of_mem a hy)
    obtain ⟨h1, h2⟩ := List.pairwise_cons.1 hO
    by_cases h : a.cmp x < 0
    · have ih := isAt_iff x hx X hF' h2
      have e : isAt (a :: X) x = isAt X x := by
        unfold isAt
        rw [fnd_pos h, List.getElem?_cons_succ]
      have hne : x ≠ a := by
        rintro rfl
        have := (cmp_zero hx hx).2 rfl
        omega
      rw [e, ih, List.mem_cons]
      exact ⟨.inr, fun k => k.resolve_left hne⟩
    · have e : isAt (a :: X) x = eqI a x := by
        unfold isAt
        rw [fnd_zero h]
        rfl
      rw [e, eqI_iff, List.mem_cons]
      constructor
      · exact fun k => .inl k.symm
      · rintro (k | k)
        · exact k.symm
        · have := h1 x k
          exact (cmp_zero ha hx).1 (by omega)

theorem mem_ins {X : List I10} {x y : I10} : y ∈ ins X x ↔ y = x ∨ y ∈ X := by
  have := List.take_append_drop (fnd X x) X
  constructor
  · intro h
    rcases List.mem_append.1 h with h | h
    · exact .inr (List.mem_of_mem_take h)
    · rcases List.mem_cons.1 h with h | h
      · exact .inl h
      · exact .inr (List.mem_of_mem_drop h)
  · rintro (rfl | h)
    · exact List.mem_append.2 (.inr (List.mem_cons_self ..))
    · rw [← this] at h
      rcases List.mem_append.1 h with h | h
      · exact List.mem_append.2 (.inl h)
      · exact List.mem_append.2 (.inr (List.mem_cons_of_mem _ h))

theorem perm_ins (X : List I10) (x : I10) : (ins X x).Perm (x :: X) := by
  have h : (ins X x).Perm (x :: (X.take (fnd X x) ++ X.drop (fnd X x))) := List.perm_middle
  rwa [List.take_append_drop] at h

theorem ord_ins (x : I10) (hx : x.Fit) : ∀ (X : List I10), (∀ y ∈ X, y.Fit) → Ord X → Ord (ins X x)
  | [], _, _ => by simp [ins, Ord]
  | a :: X, hF, hO => by
    have ha := hF a (List.mem_cons_self ..)
    have hF' := fun y hy => hF y (List.mem_cons_of_mem a hy)
    obtain ⟨h1, h2⟩ := List.pairwise_cons.1 hO
    by_cases h : a.cmp x < 0
    · have e : ins (a :: X) x = a :: ins X x := by
        unfold ins
        rw [fnd_pos h]
        rfl
      rw [e]
      refine List.pairwise_cons.2 ⟨fun y hy => ?_, ord_ins x hx X hF' h2⟩
      rcases mem_ins.1 hy with rfl | hm
      · omega
      · exact h1 y hm
    · have e : ins (a :: X) x = x :: a :: X := by
        unfold ins
        rw [fnd_zero h]
        rfl
      rw [e]
      have hxa : x.cmp a ≤ 0 := by
        have := cmp_anti ha hx
        omega
      refine List.pairwise_cons.2 ⟨fun y hy => ?_, hO⟩
      rcases List.mem_cons.1 hy with rfl | hm
      · exact hxa
      · exact cmp_trans hx ha (hF' y hm) hxa (h1 y hm)

theorem rmv_eq (X : List I10) (x : I10) : rmv X x = X.eraseIdx (fnd X x) := (List.eraseIdx_eq_take_drop_succ X _).symm
theorem ord_rmv {X : List I10} (x : I10) (h : Ord X) : Ord (rmv X x) := by
  rw [rmv_eq]
  exact h.sublist (List.eraseIdx_sublist ..)
theorem perm_rmv {X : List I10} {x : I10} (h : isAt X x = true) : X.Perm (x :: rmv X x) := by
  unfold isAt at h
  split at h
  · rename_i y hy
    obtain rfl := eqI_iff.1 h
    obtain ⟨hlt, e⟩ := List.getElem?_eq_some_iff.1 hy
    have h1 : X = X.take (fnd X y) ++ y :: X.drop (fnd X y + 1) := by
      conv => lhs; rw [← List.take_append_drop (fnd X y) X, List.drop_eq_getElem_cons hlt, e]
    have h2 : (X.take (fnd X y) ++ y :: X.drop (fnd X y + 1)).Perm (y :: rmv X y) := List.perm_middle
    rwa [← h1] at h2
  · cases h

end Go.Proofs.Ytehkofeokccdeaa
