/-
  The list behind a write, in the document's store and in the program's: the same writes, by rising keys: plain mathematics. Condition: the list stands by rising keys.
-/
import Derived.Test.YthmdnbgfnaokkaaDoorQrap
import Derived.Test.YthmdnbgfnaokkaaDoorQall
import Derived.Test.YthmdnbgfnaokkaaDoorQapp
namespace Go.Proofs.YthmdnbgfnaokkaaDoor
set_option linter.unusedSimpArgs false
set_option linter.unusedVariables false
open Go.RowKit Go.Lib

theorem less_cmpW (x : W3) (k : ByteArray) : Op.bytesLess x.key.toList k.toList = decide (compareBytes x.key.data.toList k.data.toList < 0) := by
  rw [less_cmp, ByteArray.toList_eq, ByteArray.toList_eq]
/-- a key's place parts a list by rising keys: below it, at it, above it. -/
theorem fndW_below {L : List W3} {k : ByteArray} : ∀ y ∈ L.take (fndW L k), compareBytes y.key.data.toList k.data.toList < 0 := by
  induction L with
  | nil => intro y hy; simp at hy
  | cons a L ih =>
    intro y hy
    unfold fndW at hy
    split at hy
    · rename_i h
      rw [less_cmpW] at h
      rw [List.take_succ_cons] at hy
      rcases List.mem_cons.1 hy with rfl | hy
      · simpa using h
      · exact ih y hy
    · simp at hy
theorem fndW_above {L : List W3} {k : ByteArray} (hO : OrdW L) : ∀ y ∈ L.drop (fndW L k), 0 ≤ compareBytes y.key.data.toList k.data.toList := by
  induction L with
  | nil => intro y hy; simp at hy
  | cons a L ih =>
    intro y hy
    obtain ⟨h1, h2⟩ := List.pairwise_cons.1 hO
    unfold fndW at hy
    split at hy
    · rw [List.drop_succ_cons] at hy
      exact ih h2 y hy
    · rename_i h
      rw [less_cmpW] at h
      have ha : 0 ≤ compareBytes a.key.data.toList k.data.toList := by simpa using h
      rw [List.drop_zero] at hy
      rcases List.mem_cons.1 hy with rfl | hy
      · exact ha
      · have hlt := h1 y hy
        have e : compareBytes k.data.toList a.key.data.toList ≤ 0 := by
          have := cb_anti a.key.data.toList k.data.toList
          omega
        have e2 : compareBytes k.data.toList y.key.data.toList ≤ 0 := cb_trans _ _ _ e (by unfold W3.cmp at hlt; omega)
        have := cb_anti k.data.toList y.key.data.toList
        omega
theorem atW_iff {L : List W3} {k : ByteArray} (hO : OrdW L) : atW L k = true ↔ ∃ y ∈ L, y.key = k := by
  constructor
  · intro h
    unfold atW at h
    split at h
    · rename_i y hy
      exact ⟨y, List.mem_of_getElem? hy, by simpa using h⟩
    · cases h
  · rintro ⟨y, hy, rfl⟩
    have hd : y ∈ L.drop (fndW L y.key) := by
      have := List.take_append_drop (fndW L y.key) L
      rw [← this] at hy
      rcases List.mem_append.1 hy with h | h
      · have := fndW_below y h
        have := (cb_zero y.key.data.toList y.key.data.toList).2 rfl
        omega
      · exact h
    unfold atW
    cases hg : L[fndW L y.key]? with
    | none =>
      have := List.getElem?_eq_none_iff.1 hg
      rw [List.drop_eq_nil_of_le this] at hd
      cases hd
    | some z =>
      simp only [decide_eq_true_eq]
      obtain ⟨hlt, ez⟩ := List.getElem?_eq_some_iff.1 hg
      rw [List.drop_eq_getElem_cons hlt, ez] at hd
      rcases List.mem_cons.1 hd with h | h
      · rw [h]
      · exfalso
        have hz : 0 ≤ compareBytes z.key.data.toList y.key.data.toList := fndW_above hO z (by rw [List.drop_eq_getElem_cons hlt, ez]; exact List.mem_cons_self ..)
        have hp : (z :: L.drop (fndW L y.key + 1)).Pairwise fun a b => a.cmp b < 0 := by
          have : (L.drop (fndW L y.key)).Pairwise fun a b => a.cmp b < 0 := hO.sublist (List.drop_sublist ..)
          rwa [List.drop_eq_getElem_cons hlt, ez] at this
        have := (List.pairwise_cons.1 hp).1 y h
        unfold W3.cmp at this
        omega
theorem split_at {L : List W3} {k : ByteArray} (h : atW L k = true) : ∃ y, y.key = k ∧ L = L.take (fndW L k) ++ y :: L.drop (fndW L k + 1) := by
  unfold atW at h
  split at h
  · rename_i y hy
    obtain ⟨hlt, e⟩ := List.getElem?_eq_some_iff.1 hy
    refine ⟨y, by simpa using h, ?_⟩
    conv => lhs; rw [← List.take_append_drop (fndW L k) L, List.drop_eq_getElem_cons hlt, e]
  · cases h
theorem ord_mid {A B : List W3} {x : W3} (hA : OrdW A) (hB : OrdW B) (hAB : ∀ a ∈ A, ∀ b ∈ B, a.cmp b < 0) (h1 : ∀ a ∈ A, a.cmp x < 0) (h2 : ∀ b ∈ B, x.cmp b < 0) : OrdW (A ++ ([x] ++ B)) := by
  refine List.pairwise_append.2 ⟨hA, List.pairwise_append.2 ⟨List.pairwise_singleton _ _, hB, fun a ha b hb => ?_⟩, fun a ha b hb => ?_⟩
  · simp at ha
    subst ha
    exact h2 b hb
  · rcases List.mem_append.1 hb with hb | hb
    · simp at hb
      subst hb
      exact h1 a ha
    · exact hAB a ha b hb
theorem ord_apR {L : List W3} (hO : OrdW L) (x : W3) : OrdW (apR L x) := by
  have hT : OrdW (L.take (fndW L x.key)) := hO.sublist (List.take_sublist ..)
  have hD : OrdW (L.drop (fndW L x.key + if atW L x.key then 1 else 0)) := hO.sublist (List.drop_sublist ..)
  have hsub : ∀ b ∈ L.drop (fndW L x.key + if atW L x.key then 1 else 0), b ∈ L.drop (fndW L x.key) := fun b hb => by
    rw [← List.drop_drop] at hb
    exact List.mem_of_mem_drop hb
  have hAB : ∀ a ∈ L.take (fndW L x.key), ∀ b ∈ L.drop (fndW L x.key + if atW L x.key then 1 else 0), a.cmp b < 0 := fun a ha b hb => by
    have := List.pairwise_append.1 (show (L.take (fndW L x.key) ++ L.drop (fndW L x.key)).Pairwise fun a b => a.cmp b < 0 by rw [List.take_append_drop]; exact hO)
    exact this.2.2 a ha b (hsub b hb)
  unfold apR
  cases x.has with
  | false =>
    simp only [Bool.false_eq_true, if_false, List.nil_append]
    exact List.pairwise_append.2 ⟨hT, hD, hAB⟩
  | true =>
    refine ord_mid hT hD hAB (fun a ha => fndW_below a ha) fun b hb => ?_
    have h0 := fndW_above hO b (hsub b hb)
    have ha := cb_anti b.key.data.toList x.key.data.toList
    have hne : compareBytes b.key.data.toList x.key.data.toList ≠ 0 := fun e => by
      have ek : b.key = x.key := by
        have := (cb_zero _ _).1 e
        exact ByteArray.ext (Array.ext' this)
      have hat : atW L x.key = true := (atW_iff hO).2 ⟨b, List.mem_of_mem_drop hb, ek⟩
      obtain ⟨y, hy, e2⟩ := split_at hat
      rw [hat, if_pos rfl] at hb
      have hp := List.pairwise_append.1 (show (L.take (fndW L x.key) ++ y :: L.drop (fndW L x.key + 1)).Pairwise fun a b => a.cmp b < 0 by rw [← e2]; exact hO)
      have hlt := (List.pairwise_cons.1 hp.2.1).1 b hb
      have := (cmpW_zero y b).2 (by rw [hy, ek])
      omega
    unfold W3.cmp
    omega
theorem wout_split {A B : List W3} {k : ByteArray} (hA : ∀ a ∈ A, a.key ≠ k) (hB : ∀ b ∈ B, b.key ≠ k) : wout (A ++ B) k = A ++ B := wout_none fun y hy => by
  rcases List.mem_append.1 hy with h | h
  · exact hA y h
  · exact hB y h
theorem perm_apR {L : List W3} (hO : OrdW L) (x : W3) : (apR L x).Perm (appW L x) := by
  have hA : ∀ a ∈ L.take (fndW L x.key), a.key ≠ x.key := fun a ha e => by
    have h1 := fndW_below a ha
    have h2 := (cb_zero a.key.data.toList x.key.data.toList).2 (by rw [e])
    omega
  have hw : wout L x.key = L.take (fndW L x.key) ++ L.drop (fndW L x.key + if atW L x.key then 1 else 0) := by
    cases hat : atW L x.key with
    | true =>
      obtain ⟨y, hy, e2⟩ := split_at hat
      have hp := List.pairwise_append.1 (show (L.take (fndW L x.key) ++ y :: L.drop (fndW L x.key + 1)).Pairwise fun a b => a.cmp b < 0 by rw [← e2]; exact hO)
      have hB : ∀ b ∈ L.drop (fndW L x.key + 1), b.key ≠ x.key := fun b hb e => by
        have hlt := (List.pairwise_cons.1 hp.2.1).1 b hb
        have := (cmpW_zero y b).2 (by rw [hy, e])
        omega
      conv => lhs; rw [e2]
      unfold wout
      rw [List.filter_append, List.filter_cons]
      simp only [hy, ne_eq, not_true_eq_false, decide_false, Bool.false_eq_true, if_false, if_true]
      rw [List.filter_eq_self.2 fun a ha => by simpa using hA a ha, List.filter_eq_self.2 fun b hb => by simpa using hB b hb]
    | false =>
      have hn : ∀ y ∈ L, y.key ≠ x.key := fun y hy e => by
        have := (atW_iff hO).2 ⟨y, hy, e⟩
        rw [hat] at this
        cases this
      rw [wout_none hn]
      simp
  unfold apR appW
  rw [hw]
  cases x.has with
  | false => simp
  | true =>
    simp only [if_true]
    exact List.perm_middle
theorem apR_len (L : List W3) (x : W3) : (apR L x).length ≤ L.length + 1 := by
  unfold apR
  have : (if x.has then [x] else []).length ≤ 1 := by split <;> simp
  rw [List.length_append, List.length_append, List.length_take, List.length_drop]
  split at this <;> split <;> simp_all <;> omega
theorem mem_apR {L : List W3} {x y : W3} (h : y ∈ apR L x) : y = x ∨ y ∈ L := by
  unfold apR at h
  rcases List.mem_append.1 h with h | h
  · exact .inr (List.mem_of_mem_take h)
  · rcases List.mem_append.1 h with h | h
    · split at h
      · exact .inl (by simpa using h)
      · cases h
    · exact .inr (List.mem_of_mem_drop h)

end Go.Proofs.YthmdnbgfnaokkaaDoor
