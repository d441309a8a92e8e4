/-
  light: are acts few and short? Condition: the acts lie in memory.
-/
import Derived.Test.YtnagbiicpecamaaJaa
namespace Go.Proofs.Ytnagbiicpecamaa
set_option linter.unusedSimpArgs false
set_option linter.unusedVariables false
open Go.RowKit Go.Maps Go.Sort

/-- acts side by side in memory. -/
def RowsB (W : World) (b o : Nat) (L : List Ac) : Prop := b < W.heap.size ∧ ∀ i a, L[i]? = some a → (∀ j u, a.cs[j]? = some u → W.cell? ⟨b, o + i * 11 + j, none⟩ = some u) ∧ a.ok ∧ a.In W
theorem rowsB_of {W : World} {A : Option Addr} {L : List Ac} (h : arg_actsR W A L) : L = [] ∨ ∃ b o, A = some ⟨b, o, none⟩ ∧ RowsB W b o L := by
  cases L with
  | nil => exact .inl rfl
  | cons a L =>
    obtain ⟨⟨b, o, e, hl, _⟩, _⟩ := h 0 a rfl
    refine .inr ⟨b, o, e, hl, fun i c hc => ?_⟩
    obtain ⟨⟨b', o', e', _, hc'⟩, h2, h3⟩ := h i c hc
    rw [e] at e'
    cases e'
    exact ⟨hc', h2, h3⟩
theorem RowsB.below {W W' : World} {b o : Nat} {L : List Ac} (h : RowsB W b o L) (hb : Below W.heap.size W W') : RowsB W' b o L :=
  ⟨Nat.lt_of_lt_of_le h.1 hb.size, fun i a ha => ⟨fun j u hu => (hb.cell (p := ⟨b, _, none⟩) h.1).trans ((h.2 i a ha).1 j u hu), (h.2 i a ha).2.1, (h.2 i a ha).2.2.below hb⟩⟩
/-- the bytes that are spent. -/
def spent : List Ac → Nat
  | [] => 0
  | a :: L => min a.B.length 6000 + min a.p.B.length 6000 + spent L
theorem spent_snoc (L : List Ac) (a : Ac) : spent (L ++ [a]) = spent L + min a.B.length 6000 + min a.p.B.length 6000 := by
  induction L with
  | nil => simp [spent]
  | cons c L ih =>
    show min c.B.length 6000 + min c.p.B.length 6000 + spent (L ++ [a]) = _
    rw [ih]
    simp only [spent]
    omega
theorem spent_le (L : List Ac) : spent L ≤ L.length * 12000 := by
  induction L with
  | nil => simp [spent]
  | cons c L ih =>
    simp only [spent, List.length_cons]
    omega
theorem spent_mem {L : List Ac} {a : Ac} (h : a ∈ L) : min a.B.length 6000 + min a.p.B.length 6000 ≤ spent L := by
  induction L with
  | nil => cases h
  | cons c L ih =>
    simp only [spent]
    rcases List.mem_cons.1 h with rfl | h
    · omega
    · have := ih h
      omega
def lightB (L : List Ac) : Bool := decide (L.length ≤ 120) && decide (spent (L.take 200) ≤ 5000)
theorem lightB_each {L : List Ac} (h : lightB L = true) : L.length ≤ 120 ∧ ∀ a ∈ L, a.B.length ≤ 5000 ∧ a.p.B.length ≤ 5000 := by
  unfold lightB at h
  simp only [Bool.and_eq_true, decide_eq_true_eq] at h
  refine ⟨h.1, fun a ha => ?_⟩
  rw [List.take_of_length_le (by omega)] at h
  have := spent_mem ha
  omega

end Go.Proofs.Ytnagbiicpecamaa
