/-
  Where a process stands in a list: the document's Rank, by an exact answer; two processes held against each other. Condition: the list lies in memory.
-/
import Derived.Test.YtfkmodmgihadkaaVrow
import Derived.Laws.StructEq
import Derived.Deep.QuietTactic
import Derived.BigQuiet
import Derived.IntWalk
namespace Go.Proofs.Ytfkmodmgihadkaa.V
set_option linter.unusedSimpArgs false
set_option linter.unusedVariables false
open Go.RowKit

theorem Below.drewsN {B n : Nat} {a w : World} (h : Below B a w) : Below B a (w.drewN n) := h.trans ⟨rfl, rfl, rfl, Nat.le_refl _, fun _ _ => rfl⟩
theorem eqOP (x y : P2) (w : World) : Sem.run Try.prog (binOp .eql 54 (.agg #[.int .u8 x.n, .int .u16 x.l]) (.agg #[.int .u8 y.n, .int .u16 y.l])) w = .ok (.bool (decide (x = y))) w := by
  have hS : Try.prog.underlying 54 = some (.struct (Try.prog.fieldsOf 54)) := by kernel_rfl
  have hp : Try.prog.stoodInHeld 54 = false := by kernel_rfl
  have u0 := Try.underlying5
  have a0 := Try.isAgg5
  have z0 := Try.sizeOf5
  have u1 := Try.underlying52
  have a1 := Try.isAgg52
  have z1 := Try.sizeOf52
  rw [run_eql_struct, show (10000 : Nat) = 9999 + 1 from rfl, run_equalIn_agg w 9999 54 _ _ hS hp]
  simp only [Program.fieldsOf, Try.underlying54]
  go_simp
  obtain ⟨xn, xl⟩ := x
  obtain ⟨yn, yl⟩ := y
  by_cases h0 : xn = yn <;> by_cases h1 : xl = yl <;> simp [h0, h1]

/-- where a process stands. -/
def rk (X : List P2) (p : P2) : Int := match X.findIdx? (fun q => decide (q = p)) with
  | some i => i
  | none => -1
theorem rk_none {X : List P2} {p : P2} (h : ∀ (j : Nat) (x : P2), X[j]? = some x → x ≠ p) : rk X p = -1 := by
  have : X.findIdx? (fun q => decide (q = p)) = none := by
    rw [List.findIdx?_eq_none_iff]
    intro x hx
    obtain ⟨j, hj⟩ := List.getElem?_of_mem hx
    simpa using h j x hj
  simp [rk, this]
theorem rk_some {X : List P2} {p : P2} {k : Nat} (hk : X[k]? = some p) (h : ∀ (j : Nat) (x : P2), j < k → X[j]? = some x → x ≠ p) : rk X p = k := by
  have hl : k < X.length := (List.getElem?_eq_some_iff.1 hk).1
  have : X.findIdx? (fun q => decide (q = p)) = some k := by
    rw [List.findIdx?_eq_some_iff_getElem]
    refine ⟨hl, ?_, ?_⟩
    · have := (List.getElem?_eq_some_iff.1 hk).2
      simpa using this
    · intro j hj
      have hjl : j < X.length := by omega
      have := h j X[j] hj (List.getElem?_eq_getElem hjl)
      simpa using this
  simp [rk, this]
theorem rk_mem (X : List P2) (p : P2) : 0 ≤ rk X p ↔ p ∈ X := by
  unfold rk
  cases h : X.findIdx? (fun q => decide (q = p)) with
  | none =>
    rw [List.findIdx?_eq_none_iff] at h
    simp
    intro hm
    have := h p hm
    simp at this
  | some i =>
    rw [List.findIdx?_eq_some_iff_getElem] at h
    obtain ⟨hl, he, _⟩ := h
    simp at he
    simp
    rw [← he]
    exact List.getElem_mem hl
theorem rk_neg (X : List P2) (p : P2) : rk X p < 0 ↔ p ∉ X := by
  have := rk_mem X p
  constructor
  · intro h hm
    have := this.2 hm
    omega
  · intro h
    rcases Int.lt_or_le (rk X p) 0 with h2 | h2
    · exact h2
    · exact absurd (this.1 h2) h
theorem rk_lt (X : List P2) (p : P2) : rk X p < X.length + 1 := by
  unfold rk
  cases h : X.findIdx? (fun q => decide (q = p)) with
  | none => simp; omega
  | some i =>
    rw [List.findIdx?_eq_some_iff_getElem] at h
    have := h.1
    simp
    omega

end Go.Proofs.Ytfkmodmgihadkaa.V
