/-
  A view's next members, by plain functions. No condition.
-/
import Derived.Test.YtfkmodmgihadkaaVsam
import Derived.Test.YtfkmodmgihadkaaVquo
namespace Go.Proofs.Ytfkmodmgihadkaa.V
set_option linter.unusedSimpArgs false
set_option linter.unusedVariables false
open Go.RowKit

/-- who of the first k stays. -/
def kept (V drop : List P2) (k : Nat) : List P2 := (V.take k).filter fun p => !decide (p ∈ drop)
theorem kept_in {V drop : List P2} {k : Nat} {x : P2} (h : V[k]? = some x) (hx : x ∈ drop) : kept V drop (k + 1) = kept V drop k := by
  unfold kept
  rw [List.take_add_one, h]
  simp [hx]
theorem kept_out {V drop : List P2} {k : Nat} {x : P2} (h : V[k]? = some x) (hx : x ∉ drop) : kept V drop (k + 1) = kept V drop k ++ [x] := by
  unfold kept
  rw [List.take_add_one, h]
  simp [hx]
theorem kept_len (V drop : List P2) (k : Nat) : (kept V drop k).length ≤ k := by
  unfold kept
  exact Nat.le_trans (List.length_filter_le _ _) (by simp; omega)
/-- the last place, among the first k, of a node; -1, if there is none. -/
def la (W : List P2) (n : Int) : Nat → Int
  | 0 => -1
  | k + 1 => match W[k]? with
    | some y => if y.n = n then k else la W n k
    | none => la W n k
theorem la_lt (W : List P2) (n : Int) : ∀ k, -1 ≤ la W n k ∧ la W n k < k
  | 0 => by simp [la]
  | k + 1 => by
    have ih := la_lt W n k
    unfold la
    split
    · split <;> omega
    · omega
theorem la_hit {W : List P2} {n : Int} {k : Nat} {y : P2} (h : W[k]? = some y) (he : y.n = n) : la W n (k + 1) = k := by
  simp [la, h, he]
theorem la_miss {W : List P2} {n : Int} {k : Nat} {y : P2} (h : W[k]? = some y) (he : ¬ y.n = n) : la W n (k + 1) = la W n k := by
  simp [la, h, he]
/-- one process that is added. -/
def addOne (W : List P2) (p : P2) : List P2 :=
  if p.r = true then (if 0 ≤ la W p.n W.length then W.set (la W p.n W.length).toNat p else W ++ [p]) else W
/-- all that are added. -/
def addAll (W add : List P2) : List P2 := add.foldl addOne W
theorem addAll_snoc (W add : List P2) (p : P2) : addAll W (add ++ [p]) = addOne (addAll W add) p := by simp [addAll]
theorem addAll_take {W add : List P2} {k : Nat} {x : P2} (h : add[k]? = some x) : addAll W (add.take (k + 1)) = addOne (addAll W (add.take k)) x := by
  rw [List.take_add_one, h]
  exact addAll_snoc _ _ _
theorem addOne_len (W : List P2) (p : P2) : (addOne W p).length ≤ W.length + 1 := by
  unfold addOne
  split
  · split <;> simp
  · omega
theorem addAll_len (W : List P2) : ∀ add : List P2, (addAll W add).length ≤ W.length + add.length := by
  intro add
  induction add generalizing W with
  | nil => simp [addAll]
  | cons p add ih =>
    show (addAll (addOne W p) add).length ≤ _
    have := ih (addOne W p)
    have := addOne_len W p
    simp
    omega
/-- a view's next members. -/
def nxM (V drop add : List P2) : List P2 := addAll (kept V drop V.length) add
/-- what Next answers beside the view. -/
def nxC (g N : Int) (V drop add : List P2) : Int :=
  if vR g N V = true then (if N = 4294967295 then 2 else if quo V (nxM V drop add) = true then (if 8 < (nxM V drop add).length then 11 else 0) else 17) else 1
/-- the members, the number and the group that Next answers. -/
def nxV (g N : Int) (V drop add : List P2) : List P2 := if nxC g N V drop add = 0 then nxM V drop add else []
def nxN (g N : Int) (V drop add : List P2) : Int := if nxC g N V drop add = 0 then N + 1 else 0
def nxG (g N : Int) (V drop add : List P2) : Int := if nxC g N V drop add = 0 then g else 0

/-! ### what it is good for -/

theorem okV_iff (V : List P2) : okV V = true ↔ (∀ x ∈ V, x.r = true) ∧ V.Pairwise fun a b => a.n ≠ b.n := by
  simp [okV]
theorem kept_ok {V drop : List P2} (h : okV V = true) (k : Nat) : okV (kept V drop k) = true := by
  rw [okV_iff] at h ⊢
  have hs : (kept V drop k).Sublist V := (List.filter_sublist).trans (List.take_sublist _ _)
  exact ⟨fun x hx => h.1 x (hs.subset hx), h.2.sublist hs⟩
theorem la_none {W : List P2} {n : Int} : ∀ k, la W n k < 0 → ∀ (j : Nat) (y : P2), j < k → W[j]? = some y → y.n ≠ n
  | 0, _, j, y, hj, _ => absurd hj (by omega)
  | k + 1, h, j, y, hj, hy => by
    unfold la at h
    split at h
    · rename_i z hz
      split at h
      · omega
      · rename_i hne
        by_cases e : j = k
        · subst e
          rw [hz] at hy
          cases hy
          exact hne
        · exact la_none k h j y (by omega) hy
    · by_cases e : j = k
      · subst e
        rename_i hz
        rw [hz] at hy
        cases hy
      · exact la_none k h j y (by omega) hy
theorem la_some {W : List P2} {n : Int} : ∀ k, 0 ≤ la W n k → ∃ y, W[(la W n k).toNat]? = some y ∧ y.n = n
  | 0, h => by simp [la] at h
  | k + 1, h => by
    unfold la at h ⊢
    split at h
    · rename_i z hz
      split at h
      · rename_i he
        rw [if_pos he]
        exact ⟨z, by simpa using hz, he⟩
      · rename_i he
        rw [if_neg he]
        exact la_some k h
    · exact la_some k h
theorem addOne_ok {W : List P2} {p : P2} (h : okV W = true) : okV (addOne W p) = true := by
  unfold addOne
  split
  · rename_i hp
    rw [okV_iff] at h
    split
    · rename_i h0
      obtain ⟨y, hy, hn⟩ := la_some W.length h0
      have hi := (List.getElem?_eq_some_iff.1 hy)
      generalize (la W p.n W.length).toNat = i at *
      rw [okV_iff]
      refine ⟨fun x hx => ?_, ?_⟩
      · rcases List.mem_or_eq_of_mem_set hx with h1 | rfl
        · exact h.1 x h1
        · exact hp
      · rw [List.pairwise_iff_getElem] at h ⊢
        have h2 := h.2
        intro a b ha hb hab
        simp only [List.length_set] at ha hb
        rw [List.getElem_set, List.getElem_set]
        obtain ⟨hil, hie⟩ := hi
        split
        · split
          · omega
          · have := h2 i b hil hb (by omega)
            rw [hie, hn] at this
            exact this
        · split
          · have := h2 a i ha hil (by omega)
            rw [hie, hn] at this
            exact this
          · exact h2 a b ha hb hab
    · rename_i h0
      have hno := la_none (W := W) (n := p.n) W.length (by omega)
      rw [okV_iff]
      refine ⟨fun x hx => ?_, ?_⟩
      · rcases List.mem_append.1 hx with h1 | h1
        · exact h.1 x h1
        · have : x = p := by simpa using h1
          rw [this]
          exact hp
      · rw [List.pairwise_append]
        refine ⟨h.2, by simp, fun a ha b hb => ?_⟩
        have : b = p := by simpa using hb
        rw [this]
        obtain ⟨j, hj⟩ := List.getElem?_of_mem ha
        exact hno j a (List.getElem?_eq_some_iff.1 hj).1 hj
  · exact h
theorem addAll_ok {W : List P2} (h : okV W = true) : ∀ add : List P2, okV (addAll W add) = true := by
  intro add
  induction add generalizing W with
  | nil => exact h
  | cons p add ih => exact ih (addOne_ok h)
theorem nxM_ok {V : List P2} (h : okV V = true) (drop add : List P2) : okV (nxM V drop add) = true := addAll_ok (kept_ok h _) add
/-- two quorums share a member. -/
theorem quo_meet {V A B : List P2} (ha : quo V A = true) (hb : quo V B = true) : ∃ x ∈ V, x ∈ A ∧ x ∈ B := by
  unfold quo at ha hb
  simp only [decide_eq_true_eq] at ha hb
  rcases Classical.em (∃ x ∈ V, x ∈ A ∧ x ∈ B) with h | h
  · exact h
  · exfalso
    have : ∀ L : List P2, (∀ x ∈ L, ¬ (x ∈ A ∧ x ∈ B)) → (L.filter fun p => decide (p ∈ A)).length + (L.filter fun p => decide (p ∈ B)).length ≤ L.length := by
      intro L
      induction L with
      | nil => intro _; simp
      | cons x L ih =>
        intro hL
        have h1 := ih fun y hy => hL y (List.mem_cons_of_mem _ hy)
        have h2 := hL x List.mem_cons_self
        by_cases hxa : x ∈ A <;> by_cases hxb : x ∈ B
        · exact absurd ⟨hxa, hxb⟩ h2
        all_goals simp [hxa, hxb]; omega
    have := this V fun x hx hh => h ⟨x, hx, hh⟩
    omega

end Go.Proofs.Ytfkmodmgihadkaa.V
