/-
  The walk of the law LinkPlays. Condition: the acts lie in memory.
-/
import Derived.Test.YtnagbiicpecamaaJpj
namespace Go.Proofs.Ytnagbiicpecamaa
set_option linter.unusedSimpArgs false
set_option linter.unusedVariables false
open Go.RowKit Go.Maps Go.Sort

theorem comeP_len : ∀ (f : Nat) (K : List KPu) (w : Nat), (comeP f K w).2.2.length ≤ f
  | 0, K, w => Nat.le_refl _
  | f + 1, K, w => by
    unfold comeP
    split
    · exact Nat.zero_le _
    · have := comeP_len f (outP K w) (inc w)
      simp only [List.length_cons]
      omega
theorem hear_len {α : Type} (s : Sc) (L : List α) (K : List KPu) (p : Hp) : (hearP s L K p).2.2.2.length ≤ K.length + 1 := by
  unfold hearP
  split
  · split
    · refine Nat.le_trans (comeP_len _ _ _) ?_
      unfold keepP
      split
      · exact Nat.le_succ _
      · simp
    · exact Nat.zero_le _
  · exact Nat.zero_le _
theorem PL.nf {base : Nat} {W : World} {b m : Nat} {v : Value} {c : Nat} {s : Sc} {L : List Ls} {K : List Kr} (h : PL base W b m v c s L K) {g : Nat} {cu : Array Value} {t : TypeId} (hg : W.heap[g]? = some (.cells cu t (0, 0))) (h1 : t ≠ 64) (h2 : t ≠ 60) : ¬ FP b m v g := by
  obtain ⟨es', cl', hmm'⟩ := h.ml
  rintro (e | e | e)
  · exact apart_of hg h.lnk h1 e
  · rw [e, hmm'] at hg
    cases hg
  · obtain ⟨c2, hc⟩ := h.row.block g e
    exact apart_of hg hc h2 rfl
theorem sSend_want (s : Sc) (n : Nat) : (sSend s n).want = s.want := by
  unfold sSend
  split <;> rfl
end Go.Proofs.Ytnagbiicpecamaa
