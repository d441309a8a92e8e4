/-
  knows: what must come: a first view of two members: its text, its majority, that it may be. No condition.
-/
import Derived.Test.YtgmjhloednmfnaaDoorVsh
import Derived.Test.YtgmjhloednmfnaaDoorVfi
import Derived.Test.YtgmjhloednmfnaaDoorVix
import Derived.Test.YtgmjhloednmfnaaDoorTie
import Derived.Test.YtgmjhloednmfnaaDoorCards
import Derived.SevenTiedAt
import Derived.MakeChecks
import Derived.LaidHandle
import Derived.LaidMore
namespace Go.Proofs.YtgmjhloednmfnaaDoor
set_option linter.unusedSimpArgs false
set_option linter.unusedVariables false
open Go.RowKit

/-- the two members. -/
def twoV : List P2 := [⟨0, 1⟩, ⟨2, 1⟩]
theorem twoV_ok : vR 1 1 twoV = true := by decide
theorem twoV_text : (⟨(shL 1 1 twoV twoV.length).toArray⟩ : ByteArray) = ⟨#[103, 49, 32, 118, 49, 58, 32, 48, 46, 49, 32, 50, 46, 49]⟩ := by
  have d0 : Lib.decDigits 0 = [48] := by unfold Lib.decDigits; rfl
  have d1 : Lib.decDigits 1 = [49] := by unfold Lib.decDigits; rfl
  have d2 : Lib.decDigits 2 = [50] := by unfold Lib.decDigits; rfl
  unfold shL shH shP txt twoV
  simp [d0, d1, d2]
theorem twoV_small : ∀ p ∈ twoV, (0 ≤ p.n ∧ p.n < 100) ∧ (0 ≤ p.l ∧ p.l < 100) := by decide

set_option maxHeartbeats 400000 in
theorem numO (n : Int) (w : World) : Calls Tryd.prog 13 #[.int .i64 n] w fun e w' => e = .returned (.int .i64 n) ∧ w = w' := by
  go_enter Tryd.func13, Tryd.ntmps13
  go_wp2
  go_ret
  exact ⟨rfl, rfl⟩

set_option maxRecDepth 100000 in
set_option maxHeartbeats 2000000 in
theorem knows0 (w : World) : Calls Tryd.prog 6 #[] w fun e w' => e = .returned (.bool true) ∧ Below w.heap.size w w' := by
  obtain ⟨W0, hW0⟩ : ∃ W0, w.alloc (.cells #[.int .u8 0, .int .u16 1, .int .u8 2, .int .u16 1] 48) = W0 := ⟨_, rfl⟩
  have b0 : Below w.heap.size w W0 := by rw [← hW0]; exact (Below.refl _ _).alloc (Nat.le_refl _) _
  have r0 : RowsV W0 W0.heap.size (some ⟨w.heap.size, 0, none⟩) twoV := by
    have s0 : W0.heap.size = w.heap.size + 1 := by rw [← hW0]; simp
    refine rowsV_of_cells (by omega) (fun j u hu => ?_)
    have := cells_new w #[.int .u8 0, .int .u16 1, .int .u8 2, .int .u16 1] 48 j u hu
    rw [hW0] at this
    rw [Nat.zero_add]
    unfold Addr.add at this
    by_cases hj : j = 0
    · subst hj; exact this
    · simpa [hj] using this
  have K0 : Calls Tryd.prog 18 #[.int .u8 1, .slice (some ⟨w.heap.size, 0, none⟩) 2 2] W0 fun e w' => ∃ (A2 : Option Addr) (c2 : Nat), e = .returned (.tuple #[.agg #[.int .u8 1, .int .u32 1, .slice A2 2 c2], .int .i64 0]) ∧ w'.ownsRow W0.heap.size 48 2 (.slice A2 2 c2) 2 (cellsV twoV) ∧ Below W0.heap.size W0 w' :=
    firstO 1 (some ⟨w.heap.size, 0, none⟩) twoV 2 W0 r0 (by decide) (by unfold maxLen; omega) twoV_ok
  have K := Lib.hid K0
  clear K0
  have B0 := Lib.hid b0
  have HW0 := Lib.hid hW0
  clear b0 r0 hW0
  go_enter Tryd.func6, Tryd.ntmps6
  go_wp2_with fail
  rw [HW0.out]
  refine K.out.mono ?_
  rintro e w1 ⟨A2, c2, rfl, hown, b1⟩
  obtain ⟨A3, c3, ev, RM, lm, cm⟩ := rowsV_of_own (X := twoV) hown
  obtain ⟨rfl, -, rfl⟩ := Value.slice.inj ev
  have B1 := Lib.hid (B0.out.trans (b1.mono B0.out.size))
  have KS : Hid (∀ W, Below w1.heap.size w1 W → Calls Tryd.prog 19 #[.agg #[.int .u8 1, .int .u32 1, .slice A2 2 c2]] W fun e w' => e = .returned (.string ⟨#[103, 49, 32, 118, 49, 58, 32, 48, 46, 49, 32, 50, 46, 49]⟩) ∧ Below W.heap.size W w') := Lib.hid (fun W hw => by
    have := showO 1 1 A2 twoV c2 W (RM.below (C := w1.heap.size) hw (Nat.le_refl _) hw.size) lm cm (by decide) (by decide) (by decide) twoV_small
    rw [twoV_text] at this
    exact this)
  have KR : Hid (∀ W, Below w1.heap.size w1 W → Calls Tryd.prog 14 #[.agg #[.int .u8 1, .int .u32 1, .slice A2 2 c2]] W fun e w' => e = .returned (.bool true) ∧ Below W.heap.size W w') := Lib.hid (fun W hw => by
    have := rightO1 1 1 A2 twoV c2 W (RM.below (C := w1.heap.size) hw (Nat.le_refl _) hw.size) lm cm
    rw [twoV_ok] at this
    exact this)
  have KM : Hid (∀ W, Calls Tryd.prog 20 #[.agg #[.int .u8 1, .int .u32 1, .slice A2 2 c2]] W fun e w' => e = .returned (.int .i64 2) ∧ Below W.heap.size W w') := Lib.hid (fun W => majO 1 1 A2 2 c2 W lm cm)
  obtain ⟨w2, hw2⟩ : ∃ w2, w1.alloc (.cells #[.int .u8 1, .int .u32 1, .slice A2 2 c2] 30) = w2 := ⟨_, rfl⟩
  have b2 : Below w1.heap.size w1 w2 := by rw [← hw2]; exact (Below.refl _ _).alloc (Nat.le_refl _) _
  have r2 : w2.heap[w1.heap.size]? = some (.cells #[.int .u8 1, .int .u32 1, .slice A2 2 c2] 30 (0, 0)) := by rw [← hw2]; exact heap_alloc_new w1 _
  have s2 : w1.heap.size < w2.heap.size := by rw [← hw2]; simp
  have B2 := Lib.hid b2
  have R2 := Lib.hid r2
  have S2 := Lib.hid s2
  have HW2 := Lib.hid hw2
  clear K hown RM lm cm b1 b2 r2 s2 hw2 HW0
  go_wp2_with (first
    | (go_at_call 13; refine (numO 0 _).mono ?_; rintro e3 w3 ⟨rfl, rfl⟩; rw [HW2.out]
       have e0 : w2.cell? ⟨w1.heap.size, 0, none⟩ = some (.int .u8 1) := (cell_of_row _ _ 0 _ _ _ R2.out).trans rfl
       have e1 : w2.cell? ⟨w1.heap.size, 1, none⟩ = some (.int .u32 1) := (cell_of_row _ _ 1 _ _ _ R2.out).trans rfl
       have e2 : w2.cell? ⟨w1.heap.size, 2, none⟩ = some (.slice A2 2 c2) := (cell_of_row _ _ 2 _ _ _ R2.out).trans rfl)
    | (go_at_call 19; refine (KS.out w2 B2.out).mono ?_; rintro e3 w3 ⟨rfl, b3⟩
       have B3 := Lib.hid (B2.out.trans (b3.mono B2.out.size))
       have R3 := Lib.hid ((b3.block _ S2.out).trans R2.out)
       have S3 : Hid (w1.heap.size < w3.heap.size) := Lib.hid (Nat.lt_of_lt_of_le S2.out b3.size)
       clear b3 e0 e1 e2
       have e0 : w3.cell? ⟨w1.heap.size, 0, none⟩ = some (.int .u8 1) := (cell_of_row _ _ 0 _ _ _ R3.out).trans rfl
       have e1 : w3.cell? ⟨w1.heap.size, 1, none⟩ = some (.int .u32 1) := (cell_of_row _ _ 1 _ _ _ R3.out).trans rfl
       have e2 : w3.cell? ⟨w1.heap.size, 2, none⟩ = some (.slice A2 2 c2) := (cell_of_row _ _ 2 _ _ _ R3.out).trans rfl)
    | (go_at_call 20; refine (KM.out w3).mono ?_; rintro e4 w4 ⟨rfl, b4⟩
       have B4 := Lib.hid (B3.out.trans (b4.mono B3.out.size))
       have R4 := Lib.hid ((b4.block _ S3.out).trans R3.out)
       clear b4 e0 e1 e2
       have e0 : w4.cell? ⟨w1.heap.size, 0, none⟩ = some (.int .u8 1) := (cell_of_row _ _ 0 _ _ _ R4.out).trans rfl
       have e1 : w4.cell? ⟨w1.heap.size, 1, none⟩ = some (.int .u32 1) := (cell_of_row _ _ 1 _ _ _ R4.out).trans rfl
       have e2 : w4.cell? ⟨w1.heap.size, 2, none⟩ = some (.slice A2 2 c2) := (cell_of_row _ _ 2 _ _ _ R4.out).trans rfl)
    | (go_at_call 14; refine (KR.out w4 B4.out).mono ?_; rintro e5 w5 ⟨rfl, b5⟩
       have B5 := Lib.hid (B1.out.trans ((B4.out.trans (b5.mono B4.out.size)).mono B1.out.size))
       clear b5 e0 e1 e2))
  go_ret
  exact ⟨rfl, B5.out⟩

theorem knowsV (w : World) (hL : laidMetH Tryd.prog [("math/bits.deBruijn32tab", Rows.laid_math_bits_deBruijn32tab), ("math/bits.deBruijn64tab", Rows.laid_math_bits_deBruijn64tab), ("internal/strconv.uint64pow10", Rows.laid_internal_strconv_uint64pow10)] w) : ∀ W, Below w.heap.size w W → Calls Tryd.prog 6 #[] W fun e w' => e = .returned (.bool true) ∧ Below W.heap.size W w' :=
  fun W _ => knows0 W
end Go.Proofs.YtgmjhloednmfnaaDoor
