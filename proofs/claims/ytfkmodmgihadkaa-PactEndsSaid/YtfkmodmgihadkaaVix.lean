/-
  Where a process stands in a list and in a view: slices.Index at processes, the program's Rank and Majority, by exact answers. Condition: the list lies in memory.
-/
import Derived.Test.YtfkmodmgihadkaaVquo
namespace Go.Proofs.Ytfkmodmgihadkaa.V
set_option linter.unusedSimpArgs false
set_option linter.unusedVariables false
open Go.RowKit

set_option maxRecDepth 100000 in
set_option maxHeartbeats 1000000 in
theorem idxO (A : Option Addr) (X : List P2) (p : P2) (c : Nat) (w : World) (hr : RowsV w w.heap.size A X) (hc : X.length ≤ c) (hm : c ≤ maxLen) :
    Calls Try.prog 48 #[.slice A X.length c, .agg #[.int .u8 p.n, .int .u16 p.l]] w fun e w' => e = .returned (.int .i64 (rk X p)) ∧ Below w.heap.size w w' := by
  unfold maxLen at hm
  have b0 : Hid (Below w.heap.size w (w.alloc (.cells #[.int .u8 p.n, .int .u16 p.l] 54))) := Lib.hid ((Below.refl _ _).alloc (Nat.le_refl _) _)
  have r0 : Hid ((w.alloc (.cells #[.int .u8 p.n, .int .u16 p.l] 54)).heap[w.heap.size]? = some (.cells #[.int .u8 p.n, .int .u16 p.l] 54 (0, 0))) := Lib.hid (heap_alloc_new w _)
  go_enter Try.func48, Try.ntmps48
  go_wp2
  go_loopw [8] (fun i wx => ∃ k : Nat, k ≤ X.length ∧ i = .int .i64 k ∧ Hid (∀ (j : Nat) (x : P2), j < k → X[j]? = some x → x ≠ p) ∧ Hid (Below w.heap.size w wx) ∧ Hid (wx.heap[w.heap.size]? = some (.cells #[.int .u8 p.n, .int .u16 p.l] 54 (0, 0)))) (fun i _ => X.length - (intOf i).toNat)
  case atStart => exact ⟨0, by omega, rfl, Lib.hid (fun j x hj => absurd hj (by omega)), b0, r0⟩
  case round =>
    clear b0 r0
    obtain ⟨k, hk, rfl, T, B, R⟩ := hrel
    by_cases hlt : k < X.length
    · obtain ⟨b, o, rfl, hb, C⟩ := hr.at_ hlt
      obtain ⟨c0, c1⟩ := C.below B.out hb
      have hx : X[k]? = some X[k] := List.getElem?_eq_getElem hlt
      have HX := Lib.hid hx
      generalize X[k] = x at *
      clear hr C hx
      have hji : (k : Int) < (X.length : Int) := by omega
      have hj0 : (0 : Int) ≤ (k : Int) := by omega
      have hci : (X.length : Int) ≤ (c : Int) := by omega
      have d0 : wr.cell? ⟨w.heap.size, 0, none⟩ = some (.int .u8 p.n) := (cell_of_row _ _ 0 _ _ _ R.out).trans rfl
      have d1 : wr.cell? ⟨w.heap.size, 1, none⟩ = some (.int .u16 p.l) := (cell_of_row _ _ 1 _ _ _ R.out).trans rfl
      have hne := eqOP p x
      by_cases he : p = x
      · rw [decide_eq_true he] at hne
        have HE := Lib.hid he
        clear he
        go_wp2
        go_quiet (fail)
        clear hne
        go_wp2
        go_ret
        exact ⟨by rw [rk_some (HE.out ▸ HX.out) T.out]; rfl, (by repeat (first | (with_reducible exact B.out) | (with_reducible exact Below.refl _ _) | (with_reducible refine Below.setCell ?_ (by first | omega | (simp; done) | (simp; omega)) _) | (with_reducible refine Below.drew ?_) | (with_reducible refine Below.drewsN ?_) | (with_reducible refine Below.alloc ?_ (by first | omega | (simp; done) | (simp; omega)) _)))⟩
      · rw [decide_eq_false he] at hne
        have HE := Lib.hid he
        clear he
        go_wp2
        go_quiet (fail)
        clear hne
        go_wp2
        go_roundw
        case rel => exact ⟨k + 1, by omega, by go_num, Lib.hid (fun j y (hj : j < k + 1) hy => by
          by_cases e : j = k
          · subst e
            rw [HX.out] at hy
            cases hy
            exact fun e => HE.out e.symm
          · exact T.out j y (by omega) hy), Lib.hid (by repeat (first | (with_reducible exact B.out) | (with_reducible exact Below.refl _ _) | (with_reducible refine Below.setCell ?_ (by first | omega | (simp; done) | (simp; omega)) _) | (with_reducible refine Below.drew ?_) | (with_reducible refine Below.drewsN ?_) | (with_reducible refine Below.alloc ?_ (by first | omega | (simp; done) | (simp; omega)) _))), Lib.hid (by simpa using R.out)⟩
        case measure => simp [intOf]; omega
    · have hkk : k = X.length := by omega
      subst hkk
      have HA := Lib.hid (rk_none (X := X) (p := p) fun j x hj => T.out j x (List.getElem?_eq_some_iff.1 hj).1 hj)
      go_wp2
      go_ret
      exact ⟨by rw [HA.out]; rfl, (by repeat (first | (with_reducible exact B.out) | (with_reducible exact Below.refl _ _) | (with_reducible refine Below.setCell ?_ (by first | omega | (simp; done) | (simp; omega)) _) | (with_reducible refine Below.drew ?_) | (with_reducible refine Below.drewsN ?_) | (with_reducible refine Below.alloc ?_ (by first | omega | (simp; done) | (simp; omega)) _)))⟩

set_option maxRecDepth 100000 in
set_option maxHeartbeats 1000000 in
theorem rankO' (g N : Int) (A : Option Addr) (V : List P2) (c : Nat) (p : P2) (w : World) (hr : RowsV w w.heap.size A V) (hc : V.length ≤ c) (hm : c ≤ maxLen) :
    Calls Try.prog 40 #[.agg #[.int .u8 g, .int .u32 N, .slice A V.length c], .agg #[.int .u8 p.n, .int .u16 p.l]] w fun e w' => e = .returned (.int .i64 (rk V p)) ∧ Below w.heap.size w w' := by
  have b0 : Below w.heap.size w ((w.alloc (.cells #[.int .u8 g, .int .u32 N, .slice A V.length c] 57)).alloc (.cells #[.int .u8 p.n, .int .u16 p.l] 54)) := ((Below.refl _ _).alloc (Nat.le_refl _) _).alloc (by simp) _
  have K := Lib.hid (idxO A V p c _ (hr.below b0 (Nat.le_refl _) b0.size) hc hm)
  have B0 := Lib.hid b0
  clear hr b0
  unfold maxLen at hm
  go_enter Try.func40, Try.ntmps40
  go_wp2_with (go_at_call 48; refine K.out.mono ?_; rintro e w1 ⟨rfl, b1⟩
               have B1 := Lib.hid (B0.out.trans (b1.mono B0.out.size)))
  go_ret
  exact ⟨rfl, B1.out⟩

set_option maxHeartbeats 400000 in
theorem majO (g N : Int) (A : Option Addr) (n c : Nat) (w : World) (hc : n ≤ c) (hm : c ≤ maxLen) :
    Calls Try.prog 43 #[.agg #[.int .u8 g, .int .u32 N, .slice A n c]] w fun e w' => e = .returned (.int .i64 ((n / 2 + 1 : Nat) : Int)) ∧ Below w.heap.size w w' := by
  unfold maxLen at hm
  have hz : ((n : Int).tdiv 2) = ((n / 2 : Nat) : Int) := by rw [Int.tdiv_eq_ediv_of_nonneg (by omega)]; omega
  have hz1 : IntKind.i64.wrap ((n / 2 : Nat) : Int) = ((n / 2 : Nat) : Int) := IntWalk.i64_in _ (by omega)
  have hz2 : IntKind.i64.wrap (((n / 2 : Nat) : Int) + 1) = ((n / 2 : Nat) : Int) + 1 := IntWalk.i64_in _ (by omega)
  go_enter Try.func43, Try.ntmps43
  go_wp2
  go_ret
  exact ⟨rfl, (Below.refl _ _).alloc (Nat.le_refl _) _⟩

end Go.Proofs.Ytfkmodmgihadkaa.V
