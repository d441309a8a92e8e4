/-
  A Reader's cursor: one byte; a number's end: by exact answers. Condition: the Reader lies in memory, without an error.
-/
import Derived.Test.YtkmbgehknpefiaaGreatDoorOrf
namespace Go.Proofs.YtkmbgehknpefiaaGreatDoor
set_option linter.unusedSimpArgs false
set_option linter.unusedVariables false
open Go.RowKit

set_option maxRecDepth 100000 in
set_option maxHeartbeats 1000000 in
theorem endedO (v most : Nat) (n : Bool) (w : World) :
    Calls Tryz.prog 185 #[.int .u64 v, .int .u64 most, .bool n] w fun e w' => e = .returned (.tuple #[.int .u64 (if n then 0 else if most < v then 0 else v : Nat), .int .i64 (if n then 6 else if most < v then 5 else 0 : Nat)]) ∧ w' = w := by
  cases n with
  | true =>
    go_enter Tryz.func185, Tryz.ntmps185
    go_wp2
    go_ret2
    exact ⟨rfl, rfl⟩
  | false =>
    by_cases h : most < v
    · have h' : (most : Int) < (v : Int) := by omega
      rw [if_neg (by simp), if_pos h, if_neg (by simp), if_pos h]
      go_enter Tryz.func185, Tryz.ntmps185
      go_wp2
      go_ret2
      exact ⟨rfl, rfl⟩
    · have h' : ¬ (most : Int) < (v : Int) := by omega
      rw [if_neg (by simp), if_neg h, if_neg (by simp), if_neg h]
      go_enter Tryz.func185, Tryz.ntmps185
      go_wp2
      go_ret2
      exact ⟨rfl, rfl⟩

set_option maxRecDepth 100000 in
set_option maxHeartbeats 1000000 in
theorem octO0 (top b : Nat) (W : World) (h : RdAt top b W ⟨[], 0⟩) :
    Calls Tryz.prog 156 #[.pointer (some ⟨b, 0, none⟩)] W fun e W' => e = .returned (.tuple #[.int .u8 0, .int .i64 6]) ∧ W' = W := by
  obtain ⟨h1, h2, A, c, h3, h4, h5, h6⟩ := h
  have c0 : W.cell? ⟨b, 0, none⟩ = some (.slice A 0 c) := (cell_of_row _ _ 0 _ _ _ h3).trans rfl
  clear h3 h6
  go_enter Tryz.func156, Tryz.ntmps156
  go_wp2
  go_ret2
  exact ⟨rfl, rfl⟩

set_option maxRecDepth 100000 in
set_option maxHeartbeats 1000000 in
theorem octO1 (top b : Nat) (x : UInt8) (L : List UInt8) (W : World) (h : RdAt top b W ⟨x :: L, 0⟩) :
    Calls Tryz.prog 156 #[.pointer (some ⟨b, 0, none⟩)] W fun e W' => e = .returned (.tuple #[.int .u8 x.toNat, .int .i64 0]) ∧ RdAt top b W' ⟨L, 0⟩ ∧ W.grownBy W' (some b) := by
  have H := Lib.hid h
  obtain ⟨h1, h2, A, c, h3, h4, h5, h6⟩ := h
  obtain ⟨g, o, rfl, hg, hne, hc⟩ := h6 (by simp)
  have R := Lib.hid h3
  have hx : W.cell? ⟨g, o, none⟩ = some (.int .u8 x.toNat) := hc 0 x rfl
  have HC := Lib.hid hc
  have c0 : W.cell? ⟨b, 0, none⟩ = some (.slice (some ⟨g, o, none⟩) (L.length + 1) c) := (cell_of_row _ _ 0 _ _ _ h3).trans rfl
  have f0 := frz_row 0 h3
  have h4' : L.length + 1 ≤ c := h4
  have hl0 : ¬ ((L.length : Int) + 1 = 0) := by omega
  clear h3 h6 hc h4
  go_enter Tryz.func156, Tryz.ntmps156
  go_wp2
  · go_ret2
    have hL : L = [] := List.eq_nil_of_length_eq_zero (by omega)
    refine ⟨rfl, H.out.keep (grownSet _ _ _ _) (A := some ⟨g, o, none⟩) (c := 0) ?_ (by subst hL; exact Nat.le_refl _) (by unfold maxLen; omega) (fun hx => absurd hL hx), grownSet _ _ _ _⟩
    rw [heap_setCell_same _ _ _ _ _ _ R.out]
    rfl
  · go_ret2
    refine ⟨rfl, H.out.keep (grownSet _ _ _ _) (A := some ⟨g, o + 1, none⟩) (c := c - 1) ?_ (by show L.length ≤ c - 1; omega) (by omega) (fun _ => ⟨g, o + 1, rfl, hg, hne, fun j y hj => ?_⟩), grownSet _ _ _ _⟩
    · rw [heap_setCell_same _ _ _ _ _ _ R.out]
      rfl
    · have := HC.out (j + 1) y hj
      rw [show o + 1 + j = o + (j + 1) by omega]
      exact this

end Go.Proofs.YtkmbgehknpefiaaGreatDoor
