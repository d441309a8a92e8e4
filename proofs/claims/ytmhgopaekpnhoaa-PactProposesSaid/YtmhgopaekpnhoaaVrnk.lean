/-
  Where a process stands in a list: the document's Rank, by an exact answer; two processes held against each other. Condition: the list lies in memory.
-/
import Derived.Test.YtmhgopaekpnhoaaVrow
import Derived.Laws.StructEq
import Derived.Deep.QuietTactic
import Derived.BigQuiet
import Derived.IntWalk
namespace Go.Proofs.Ytmhgopaekpnhoaa.V
set_option linter.unusedSimpArgs false
set_option linter.unusedVariables false
open Go.RowKit

theorem Below.drewsN {B n : Nat} {a w : World} (h : Below B a w) : Below B a (w.drewN n) := h.trans ⟨rfl, rfl, rfl, Nat.le_refl _, fun _ _ => rfl⟩
theorem eqRP (x y : P2) (w : World) : Sem.run Try.prog (binOp .eql 38 (.agg #[.int .u8 x.n, .int .u16 x.l]) (.agg #[.int .u8 y.n, .int .u16 y.l])) w = .ok (.bool (decide (x = y))) w := by
  have hS : Try.prog.underlying 38 = some (.struct (Try.prog.fieldsOf 38)) := by kernel_rfl
  have hp : Try.prog.stoodInHeld 38 = false := by kernel_rfl
  have u0 := Try.underlying5
  have a0 := Try.isAgg5
  have z0 := Try.sizeOf5
  have u1 := Try.underlying36
  have a1 := Try.isAgg36
  have z1 := Try.sizeOf36
  rw [run_eql_struct, show (10000 : Nat) = 9999 + 1 from rfl, run_equalIn_agg w 9999 38 _ _ hS hp]
  simp only [Program.fieldsOf, Try.underlying38]
  go_simp
  obtain ⟨xn, xl⟩ := x
  obtain ⟨yn, yl⟩ := y
  by_cases h0 : xn = yn <;> by_cases h1 : xl = yl <;> simp [h0, h1]
theorem neRP (x y : P2) (w : World) : Sem.run Try.prog (binOp .neq 38 (.agg #[.int .u8 x.n, .int .u16 x.l]) (.agg #[.int .u8 y.n, .int .u16 y.l])) w = .ok (.bool (!decide (x = y))) w := by
  have hS : Try.prog.underlying 38 = some (.struct (Try.prog.fieldsOf 38)) := by kernel_rfl
  have hp : Try.prog.stoodInHeld 38 = false := by kernel_rfl
  have u0 := Try.underlying5
  have a0 := Try.isAgg5
  have z0 := Try.sizeOf5
  have u1 := Try.underlying36
  have a1 := Try.isAgg36
  have z1 := Try.sizeOf36
  rw [run_neq_struct, show (10000 : Nat) = 9999 + 1 from rfl, run_equalIn_agg w 9999 38 _ _ hS hp]
  simp only [Program.fieldsOf, Try.underlying38]
  go_simp
  obtain ⟨xn, xl⟩ := x
  obtain ⟨yn, yl⟩ := y
  by_cases h0 : xn = yn <;> by_cases h1 : xl = yl <;> simp [h0, h1]
theorem eqOP (x y : P2) (w : World) : Sem.run Try.prog (binOp .eql 67 (.agg #[.int .u8 x.n, .int .u16 x.l]) (.agg #[.int .u8 y.n, .int .u16 y.l])) w = .ok (.bool (decide (x = y))) w := by
  have hS : Try.prog.underlying 67 = some (.struct (Try.prog.fieldsOf 67)) := by kernel_rfl
  have hp : Try.prog.stoodInHeld 67 = false := by kernel_rfl
  have u0 := Try.underlying5
  have a0 := Try.isAgg5
  have z0 := Try.sizeOf5
  have u1 := Try.underlying36
  have a1 := Try.isAgg36
  have z1 := Try.sizeOf36
  rw [run_eql_struct, show (10000 : Nat) = 9999 + 1 from rfl, run_equalIn_agg w 9999 67 _ _ hS hp]
  simp only [Program.fieldsOf, Try.underlying67]
  go_simp
  obtain ⟨xn, xl⟩ := x
  obtain ⟨yn, yl⟩ := y
  by_cases h0 : xn = yn <;> by_cases h1 : xl = yl <;> simp [h0, h1]

/-- where a process stands. -/
def rk (X : List P2) (p : P2) : Int := match X.findIdx? (fun q => decide (q = p)) with
  | some i => i
  | none => -1
theorem rk_none {X : List P2} {p : P2} (h : ∀ (j : Nat) (x : P2), X[j]? = some x → x ≠ p) : rk X p = -1 := by
  have : X.findIdx? (fun q => decide (q = p)) = none := by
    rw [List.findIdx?_eq_none_iff]
    intro x hx
    obtain ⟨j, hj⟩ := List.getElem?_of_mem hx
    simpa using h j x hj
  simp [rk, this]
theorem rk_some {X : List P2} {p : P2} {k : Nat} (hk : X[k]? = some p) (h : ∀ (j : Nat) (x : P2), j < k → X[j]? = some x → x ≠ p) : rk X p = k := by
  have hl : k < X.length := (List.getElem?_eq_some_iff.1 hk).1
  have : X.findIdx? (fun q => decide (q = p)) = some k := by
    rw [List.findIdx?_eq_some_iff_getElem]
    refine ⟨hl, ?_, ?_⟩
    · have := (List.getElem?_eq_some_iff.1 hk).2
      simpa using this
    · intro j hj
      have hjl : j < X.length := by omega
      have := h j X[j] hj (List.getElem?_eq_getElem hjl)
      simpa using this
  simp [rk, this]
theorem rk_mem (X : List P2) (p : P2) : 0 ≤ rk X p ↔ p ∈ X := by
  unfold rk
  cases h : X.findIdx? (fun q => decide (q = p)) with
  | none =>
    rw [List.findIdx?_eq_none_iff] at h
    simp
    intro hm
    have := h p hm
    simp at this
  | some i =>
    rw [List.findIdx?_eq_some_iff_getElem] at h
    obtain ⟨hl, he, _⟩ := h
    simp at he
    simp
    rw [← he]
    exact List.getElem_mem hl
theorem rk_neg (X : List P2) (p : P2) : rk X p < 0 ↔ p ∉ X := by
  have := rk_mem X p
  constructor
  · intro h hm
    have := this.2 hm
    omega
  · intro h
    rcases Int.lt_or_le (rk X p) 0 with h2 | h2
    · exact h2
    · exact absurd (this.1 h2) h
theorem rk_lt (X : List P2) (p : P2) : rk X p < X.length + 1 := by
  unfold rk
  cases h : X.findIdx? (fun q => decide (q = p)) with
  | none => simp; omega
  | some i =>
    rw [List.findIdx?_eq_some_iff_getElem] at h
    have := h.1
    simp
    omega

set_option maxRecDepth 100000 in
set_option maxHeartbeats 1000000 in
theorem rank (A : Option Addr) (X : List P2) (p : P2) (c : Nat) (w : World) (hr : RowsV w w.heap.size A X) (hc : X.length ≤ c) (hm : c ≤ maxLen) :
    Calls Try.prog 64 #[.slice A X.length c, .agg #[.int .u8 p.n, .int .u16 p.l]] w fun e w' => e = .returned (.int .i64 (rk X p)) ∧ Below w.heap.size w w' := by
  unfold maxLen at hm
  have b0 : Hid (Below w.heap.size w (w.alloc (.cells #[.int .u8 p.n, .int .u16 p.l] 38))) := Lib.hid ((Below.refl _ _).alloc (Nat.le_refl _) _)
  have r0 : Hid ((w.alloc (.cells #[.int .u8 p.n, .int .u16 p.l] 38)).heap[w.heap.size]? = some (.cells #[.int .u8 p.n, .int .u16 p.l] 38 (0, 0))) := Lib.hid (heap_alloc_new w _)
  go_enter Try.func64, Try.ntmps64
  go_wp2
  go_loopw [5] (fun i wx => ∃ k : Nat, k ≤ X.length ∧ i = .int .i64 k ∧ Hid (∀ (j : Nat) (x : P2), j < k → X[j]? = some x → x ≠ p) ∧ Hid (Below w.heap.size w wx) ∧ Hid (wx.heap[w.heap.size]? = some (.cells #[.int .u8 p.n, .int .u16 p.l] 38 (0, 0)))) (fun i _ => X.length - (intOf i).toNat)
  case atStart => exact ⟨0, by omega, rfl, Lib.hid (fun j x hj => absurd hj (by omega)), b0, r0⟩
  case round =>
    clear b0 r0
    obtain ⟨k, hk, rfl, T, B, R⟩ := hrel
    by_cases hlt : k < X.length
    · obtain ⟨b, o, rfl, hb, C⟩ := hr.at_ hlt
      obtain ⟨c0, c1⟩ := C.below B.out hb
      have hx : X[k]? = some X[k] := List.getElem?_eq_getElem hlt
      have HX := Lib.hid hx
      generalize X[k] = x at *
      clear hr C hx
      have hji : (k : Int) < (X.length : Int) := by omega
      have hj0 : (0 : Int) ≤ (k : Int) := by omega
      have hci : (X.length : Int) ≤ (c : Int) := by omega
      have d0 : wr.cell? ⟨w.heap.size, 0, none⟩ = some (.int .u8 p.n) := (cell_of_row _ _ 0 _ _ _ R.out).trans rfl
      have d1 : wr.cell? ⟨w.heap.size, 1, none⟩ = some (.int .u16 p.l) := (cell_of_row _ _ 1 _ _ _ R.out).trans rfl
      have hne := eqRP x p
      by_cases he : x = p
      · rw [decide_eq_true he] at hne
        have HE := Lib.hid he
        clear he
        go_wp2
        go_quiet (fail)
        clear hne
        go_wp2
        go_ret
        exact ⟨by rw [rk_some (HE.out ▸ HX.out) T.out]; rfl, (by repeat (first | (with_reducible exact B.out) | (with_reducible exact Below.refl _ _) | (with_reducible refine Below.setCell ?_ (by first | omega | (simp; done) | (simp; omega)) _) | (with_reducible refine Below.drew ?_) | (with_reducible refine Below.drewsN ?_) | (with_reducible refine Below.alloc ?_ (by first | omega | (simp; done) | (simp; omega)) _)))⟩
      · rw [decide_eq_false he] at hne
        have HE := Lib.hid he
        clear he
        go_wp2
        go_quiet (fail)
        clear hne
        go_wp2
        go_roundw
        case rel => exact ⟨k + 1, by omega, by go_num, Lib.hid (fun j y (hj : j < k + 1) hy => by
          by_cases e : j = k
          · subst e
            rw [HX.out] at hy
            cases hy
            exact HE.out
          · exact T.out j y (by omega) hy), Lib.hid (by repeat (first | (with_reducible exact B.out) | (with_reducible exact Below.refl _ _) | (with_reducible refine Below.setCell ?_ (by first | omega | (simp; done) | (simp; omega)) _) | (with_reducible refine Below.drew ?_) | (with_reducible refine Below.drewsN ?_) | (with_reducible refine Below.alloc ?_ (by first | omega | (simp; done) | (simp; omega)) _))), Lib.hid (by simpa using R.out)⟩
        case measure => simp [intOf]; omega
    · have hkk : k = X.length := by omega
      subst hkk
      have HA := Lib.hid (rk_none (X := X) (p := p) fun j x hj => T.out j x (List.getElem?_eq_some_iff.1 hj).1 hj)
      go_wp2
      go_ret
      exact ⟨by rw [HA.out]; rfl, (by repeat (first | (with_reducible exact B.out) | (with_reducible exact Below.refl _ _) | (with_reducible refine Below.setCell ?_ (by first | omega | (simp; done) | (simp; omega)) _) | (with_reducible refine Below.drew ?_) | (with_reducible refine Below.drewsN ?_) | (with_reducible refine Below.alloc ?_ (by first | omega | (simp; done) | (simp; omega)) _)))⟩

end Go.Proofs.Ytmhgopaekpnhoaa.V
