/-
  What ViewMeets asks, as lists. No condition.
-/
import Derived.Test.YtgmjhloednmfnaaDoorVw1
namespace Go.Proofs.YtgmjhloednmfnaaDoor
set_option linter.unusedSimpArgs false
set_option linter.unusedVariables false


/-- some process among the first k of the view is in both lists. -/
def met (V A B : List P2) (k : Nat) : Bool := (V.take k).any fun x => decide (x ∈ A) && decide (x ∈ B)
theorem met_zero (V A B : List P2) : met V A B 0 = false := by simp [met]
theorem met_next {V A B : List P2} {k : Nat} {x : P2} (h : V[k]? = some x) : met V A B (k + 1) = (met V A B k || (decide (x ∈ A) && decide (x ∈ B))) := by
  unfold met
  rw [List.take_add_one, h]
  simp
theorem met_all {V A B : List P2} (ha : quo V A = true) (hb : quo V B = true) : met V A B V.length = true := by
  obtain ⟨x, h1, h2, h3⟩ := quo_meet ha hb
  unfold met
  rw [List.take_length, List.any_eq_true]
  exact ⟨x, h1, by simp [h2, h3]⟩
theorem addOne_mem {W : List P2} {p x : P2} (h : x ∈ addOne W p) : x ∈ W ∨ x = p := by
  unfold addOne at h
  split at h
  · split at h
    · rcases List.mem_or_eq_of_mem_set h with h | h
      · exact .inl h
      · exact .inr h
    · simpa using h
  · exact .inl h
theorem addAll_mem : ∀ (add W : List P2) (x : P2), x ∈ addAll W add → x ∈ W ∨ x ∈ add := by
  intro add
  induction add with
  | nil => intro W x h; exact .inl h
  | cons p add ih =>
    intro W x h
    rcases ih (addOne W p) x h with h | h
    · rcases addOne_mem h with h | h
      · exact .inl h
      · exact .inr (by simp [h])
    · exact .inr (List.mem_cons_of_mem _ h)
theorem nxM_mem {V drop add : List P2} {x : P2} (h : x ∈ nxM V drop add) : x ∈ V ∨ x ∈ add := by
  rcases addAll_mem _ _ _ h with h | h
  · unfold kept at h
    rw [List.take_length] at h
    exact .inl (List.mem_filter.1 h).1
  · exact .inr h
theorem nxM_rng {V drop add : List P2} (hV : ∀ p ∈ V, p.Rng) (hA : ∀ p ∈ add, p.Rng) : ∀ p ∈ nxM V drop add, p.Rng := by
  intro p hp
  rcases nxM_mem hp with h | h
  · exact hV p h
  · exact hA p h
/-- a next view that is given: what it holds. -/
theorem nx_good {g N : Int} {V drop add : List P2} (h : nxC g N V drop add = 0) : vR g N V = true ∧ N ≠ 4294967295 ∧ V.length < 2 * cnt V (nxM V drop add) V.length ∧ (nxM V drop add).length ≤ 8 ∧ vR g (N + 1) (nxM V drop add) = true := by
  unfold nxC at h
  by_cases hv : vR g N V = true
  · rw [if_pos hv] at h
    by_cases hN : N = 4294967295
    · rw [if_pos hN] at h; omega
    · rw [if_neg hN] at h
      by_cases hq : quo V (nxM V drop add) = true
      · rw [if_pos hq] at h
        by_cases h8 : 8 < (nxM V drop add).length
        · rw [if_pos h8] at h; omega
        · refine ⟨hv, hN, ?_, by omega, ?_⟩
          · rw [cnt_all]
            unfold quo at hq
            simp only [decide_eq_true_eq] at hq
            omega
          · obtain ⟨x, -, -, hx⟩ := quo_meet hq hq
            have h1 : 1 ≤ (nxM V drop add).length := List.length_pos_of_mem hx
            unfold vR at hv ⊢
            simp only [Bool.and_eq_true, decide_eq_true_eq] at hv ⊢
            exact ⟨⟨⟨⟨hv.1.1.1.1, by omega⟩, h1⟩, by omega⟩, nxM_ok hv.2 drop add⟩
      · rw [if_neg hq] at h; omega
  · rw [if_neg hv] at h; omega
end Go.Proofs.YtgmjhloednmfnaaDoor
