/-
  An Accept is the same as it is; it may be: by exact answers. No condition.
-/
import Derived.Test.YtkmbgehknpefiaaGreatDoorWk1
import Derived.Test.YtkmbgehknpefiaaGreatDoorIHlp
namespace Go.Proofs.YtkmbgehknpefiaaGreatDoor
set_option linter.unusedSimpArgs false
set_option linter.unusedVariables false
open Go.RowKit Go.Sort

set_option maxRecDepth 100000 in
theorem eq0ID (w : World) : Sem.run Tryz.prog (binOp .eql 51 (.agg #[.int .u8 0, .int .u16 0, .int .u32 0, .int .u8 0, .int .u8 0, .int .u8 0, .int .u8 0, .int .u8 0, .int .u8 0, .int .u8 0]) (.agg #[.int .u8 0, .int .u16 0, .int .u32 0, .int .u8 0, .int .u8 0, .int .u8 0, .int .u8 0, .int .u8 0, .int .u8 0, .int .u8 0])) w = .ok (.bool true) w := by
  have hE := I.eqArrID
  have hS : Tryz.prog.underlying 51 = some (.struct (Tryz.prog.fieldsOf 51)) := by kernel_rfl
  have hp : Tryz.prog.stoodInHeld 51 = false := by kernel_rfl
  rw [run_eql_struct, show (10000 : Nat) = 9999 + 1 from rfl]
  simp [go_sem, hE]
theorem eq0Res (w : World) : Sem.run Tryz.prog (binOp .eql 53 (.agg #[.int .u8 0, .string ByteArray.empty]) (.agg #[.int .u8 0, .string ByteArray.empty])) w = .ok (.bool true) w := by
  have hS : Tryz.prog.underlying 53 = some (.struct (Tryz.prog.fieldsOf 53)) := by kernel_rfl
  have hp : Tryz.prog.stoodInHeld 53 = false := by kernel_rfl
  have u0 := Tryz.underlying5
  have a0 := Tryz.isAgg5
  have z0 := Tryz.sizeOf5
  have u1 := Tryz.underlying9
  have a1 := Tryz.isAgg9
  have z1 := Tryz.sizeOf9
  rw [run_eql_struct, show (10000 : Nat) = 9999 + 1 from rfl, run_equalIn_agg w 9999 53 _ _ hS hp]
  simp only [Program.fieldsOf, Tryz.underlying53]
  go_simp
theorem eq0Pr (w : World) : Sem.run Tryz.prog (binOp .eql 47 (.agg #[.int .u8 0, .int .u16 0]) (.agg #[.int .u8 0, .int .u16 0])) w = .ok (.bool true) w := by
  have hS : Tryz.prog.underlying 47 = some (.struct (Tryz.prog.fieldsOf 47)) := by kernel_rfl
  have hp : Tryz.prog.stoodInHeld 47 = false := by kernel_rfl
  have u0 := Tryz.underlying5
  have a0 := Tryz.isAgg5
  have z0 := Tryz.sizeOf5
  have u1 := Tryz.underlying24
  have a1 := Tryz.isAgg24
  have z1 := Tryz.sizeOf24
  rw [run_eql_struct, show (10000 : Nat) = 9999 + 1 from rfl, run_equalIn_agg w 9999 47 _ _ hS hp]
  simp only [Program.fieldsOf, Tryz.underlying47]
  go_simp

set_option maxRecDepth 100000 in
set_option maxHeartbeats 4000000 in
theorem accSame (A : Array Value) (hA : A = aMsg) (W : World) : Calls Tryz.prog 16 #[.agg A, .agg A] W fun e W' => e = .returned (.bool true) ∧ Below W.heap.size W W' := by
  obtain ⟨W1, hW1⟩ : ∃ W1, W.alloc (.cells A 59) = W1 := ⟨_, rfl⟩
  obtain ⟨W2, hW2⟩ : ∃ W2, W1.alloc (.cells A 59) = W2 := ⟨_, rfl⟩
  have s1 : W1.heap.size = W.heap.size + 1 := by rw [← hW1]; simp
  have s2 : W2.heap.size = W.heap.size + 2 := by rw [← hW2]; simp [s1]
  have rA1 : W1.heap[W.heap.size]? = some (.cells A 59 (0, 0)) := by rw [← hW1]; exact heap_alloc_new _ _
  have RA2 : Hid (W2.heap[W.heap.size]? = some (.cells A 59 (0, 0))) := Lib.hid (by rw [← hW2, Below.heap_alloc _ _ _ (by omega)]; exact rA1)
  have RB2 : Hid (W2.heap[W.heap.size + 1]? = some (.cells A 59 (0, 0))) := Lib.hid (by rw [← hW2, ← s1]; exact heap_alloc_new _ _)
  have B2 : Hid (Below W.heap.size W W2) := Lib.hid (by rw [← hW2, ← hW1]; exact ((Below.refl _ _).alloc (Nat.le_refl _) _).alloc (by simp) _)
  have L2 : Hid (W.heap.size + 1 < W2.heap.size) := Lib.hid (by omega)
  have HW1 := Lib.hid hW1
  have HW2 := Lib.hid hW2
  have S1 := Lib.hid s1
  have HA := Lib.hid hA
  clear hA hW1 hW2 s1 s2 rA1
  have c0 : W2.cell? ⟨W.heap.size, 0, none⟩ = some (.int .u8 6) := (cell_of_row _ _ 0 _ _ _ RA2.out).trans (by rw [HA.out]; rfl)
  have c1 : W2.cell? ⟨W.heap.size, 1, none⟩ = some (.int .u8 1) := (cell_of_row _ _ 1 _ _ _ RA2.out).trans (by rw [HA.out]; rfl)
  have c2 : W2.cell? ⟨W.heap.size, 2, none⟩ = some (.int .u8 0) := (cell_of_row _ _ 2 _ _ _ RA2.out).trans (by rw [HA.out]; rfl)
  have c3 : W2.cell? ⟨W.heap.size, 3, none⟩ = some (.int .u32 2) := (cell_of_row _ _ 3 _ _ _ RA2.out).trans (by rw [HA.out]; rfl)
  have c4 : W2.cell? ⟨W.heap.size, 4, none⟩ = some (.int .u32 0) := (cell_of_row _ _ 4 _ _ _ RA2.out).trans (by rw [HA.out]; rfl)
  have c5 : W2.cell? ⟨W.heap.size, 5, none⟩ = some (.int .u32 0) := (cell_of_row _ _ 5 _ _ _ RA2.out).trans (by rw [HA.out]; rfl)
  have c6 : W2.cell? ⟨W.heap.size, 6, none⟩ = some (.int .u32 0) := (cell_of_row _ _ 6 _ _ _ RA2.out).trans (by rw [HA.out]; rfl)
  have c7 : W2.cell? ⟨W.heap.size, 7, none⟩ = some (.int .u64 300) := (cell_of_row _ _ 7 _ _ _ RA2.out).trans (by rw [HA.out]; rfl)
  have c8 : W2.cell? ⟨W.heap.size, 8, none⟩ = some (.int .u64 0) := (cell_of_row _ _ 8 _ _ _ RA2.out).trans (by rw [HA.out]; rfl)
  have c9 : W2.cell? ⟨W.heap.size, 9, none⟩ = some (.int .u8 0) := (cell_of_row _ _ 9 _ _ _ RA2.out).trans (by rw [HA.out]; rfl)
  have c10 : W2.cell? ⟨W.heap.size, 10, none⟩ = some (.int .u16 0) := (cell_of_row _ _ 10 _ _ _ RA2.out).trans (by rw [HA.out]; rfl)
  have c11 : W2.cell? ⟨W.heap.size, 11, none⟩ = some (.int .u32 0) := (cell_of_row _ _ 11 _ _ _ RA2.out).trans (by rw [HA.out]; rfl)
  have c12 : W2.cell? ⟨W.heap.size, 12, none⟩ = some (.int .u8 0) := (cell_of_row _ _ 12 _ _ _ RA2.out).trans (by rw [HA.out]; rfl)
  have c13 : W2.cell? ⟨W.heap.size, 13, none⟩ = some (.int .u8 0) := (cell_of_row _ _ 13 _ _ _ RA2.out).trans (by rw [HA.out]; rfl)
  have c14 : W2.cell? ⟨W.heap.size, 14, none⟩ = some (.int .u8 0) := (cell_of_row _ _ 14 _ _ _ RA2.out).trans (by rw [HA.out]; rfl)
  have c15 : W2.cell? ⟨W.heap.size, 15, none⟩ = some (.int .u8 0) := (cell_of_row _ _ 15 _ _ _ RA2.out).trans (by rw [HA.out]; rfl)
  have c16 : W2.cell? ⟨W.heap.size, 16, none⟩ = some (.int .u8 0) := (cell_of_row _ _ 16 _ _ _ RA2.out).trans (by rw [HA.out]; rfl)
  have c17 : W2.cell? ⟨W.heap.size, 17, none⟩ = some (.int .u8 0) := (cell_of_row _ _ 17 _ _ _ RA2.out).trans (by rw [HA.out]; rfl)
  have c18 : W2.cell? ⟨W.heap.size, 18, none⟩ = some (.int .u8 0) := (cell_of_row _ _ 18 _ _ _ RA2.out).trans (by rw [HA.out]; rfl)
  have c19 : W2.cell? ⟨W.heap.size, 19, none⟩ = some (.slice none 0 0) := (cell_of_row _ _ 19 _ _ _ RA2.out).trans (by rw [HA.out]; rfl)
  have d0 : W2.cell? ⟨W.heap.size + 1, 0, none⟩ = some (.int .u8 6) := (cell_of_row _ _ 0 _ _ _ RB2.out).trans (by rw [HA.out]; rfl)
  have d1 : W2.cell? ⟨W.heap.size + 1, 1, none⟩ = some (.int .u8 1) := (cell_of_row _ _ 1 _ _ _ RB2.out).trans (by rw [HA.out]; rfl)
  have d2 : W2.cell? ⟨W.heap.size + 1, 2, none⟩ = some (.int .u8 0) := (cell_of_row _ _ 2 _ _ _ RB2.out).trans (by rw [HA.out]; rfl)
  have d3 : W2.cell? ⟨W.heap.size + 1, 3, none⟩ = some (.int .u32 2) := (cell_of_row _ _ 3 _ _ _ RB2.out).trans (by rw [HA.out]; rfl)
  have d4 : W2.cell? ⟨W.heap.size + 1, 4, none⟩ = some (.int .u32 0) := (cell_of_row _ _ 4 _ _ _ RB2.out).trans (by rw [HA.out]; rfl)
  have d5 : W2.cell? ⟨W.heap.size + 1, 5, none⟩ = some (.int .u32 0) := (cell_of_row _ _ 5 _ _ _ RB2.out).trans (by rw [HA.out]; rfl)
  have d6 : W2.cell? ⟨W.heap.size + 1, 6, none⟩ = some (.int .u32 0) := (cell_of_row _ _ 6 _ _ _ RB2.out).trans (by rw [HA.out]; rfl)
  have d7 : W2.cell? ⟨W.heap.size + 1, 7, none⟩ = some (.int .u64 300) := (cell_of_row _ _ 7 _ _ _ RB2.out).trans (by rw [HA.out]; rfl)
  have d8 : W2.cell? ⟨W.heap.size + 1, 8, none⟩ = some (.int .u64 0) := (cell_of_row _ _ 8 _ _ _ RB2.out).trans (by rw [HA.out]; rfl)
  have d9 : W2.cell? ⟨W.heap.size + 1, 9, none⟩ = some (.int .u8 0) := (cell_of_row _ _ 9 _ _ _ RB2.out).trans (by rw [HA.out]; rfl)
  have d10 : W2.cell? ⟨W.heap.size + 1, 10, none⟩ = some (.int .u16 0) := (cell_of_row _ _ 10 _ _ _ RB2.out).trans (by rw [HA.out]; rfl)
  have d11 : W2.cell? ⟨W.heap.size + 1, 11, none⟩ = some (.int .u32 0) := (cell_of_row _ _ 11 _ _ _ RB2.out).trans (by rw [HA.out]; rfl)
  have d12 : W2.cell? ⟨W.heap.size + 1, 12, none⟩ = some (.int .u8 0) := (cell_of_row _ _ 12 _ _ _ RB2.out).trans (by rw [HA.out]; rfl)
  have d13 : W2.cell? ⟨W.heap.size + 1, 13, none⟩ = some (.int .u8 0) := (cell_of_row _ _ 13 _ _ _ RB2.out).trans (by rw [HA.out]; rfl)
  have d14 : W2.cell? ⟨W.heap.size + 1, 14, none⟩ = some (.int .u8 0) := (cell_of_row _ _ 14 _ _ _ RB2.out).trans (by rw [HA.out]; rfl)
  have d15 : W2.cell? ⟨W.heap.size + 1, 15, none⟩ = some (.int .u8 0) := (cell_of_row _ _ 15 _ _ _ RB2.out).trans (by rw [HA.out]; rfl)
  have d16 : W2.cell? ⟨W.heap.size + 1, 16, none⟩ = some (.int .u8 0) := (cell_of_row _ _ 16 _ _ _ RB2.out).trans (by rw [HA.out]; rfl)
  have d17 : W2.cell? ⟨W.heap.size + 1, 17, none⟩ = some (.int .u8 0) := (cell_of_row _ _ 17 _ _ _ RB2.out).trans (by rw [HA.out]; rfl)
  have d18 : W2.cell? ⟨W.heap.size + 1, 18, none⟩ = some (.int .u8 0) := (cell_of_row _ _ 18 _ _ _ RB2.out).trans (by rw [HA.out]; rfl)
  have d19 : W2.cell? ⟨W.heap.size + 1, 19, none⟩ = some (.slice none 0 0) := (cell_of_row _ _ 19 _ _ _ RB2.out).trans (by rw [HA.out]; rfl)
  have q1 := eq0ID
  go_enter Tryz.func16, Tryz.ntmps16
  go_wp2_with (first
    | (refine wpList_bx rfl 59 (.tmp 0) rfl 2 rfl A rfl ?_; rw [HW1.out])
    | (refine wpList_bx rfl 59 (.tmp 1) rfl 3 rfl A rfl ?_; rw [HW2.out, S1.out]))
  refine (nilParts _).mono ?_
  rintro e w3 ⟨rfl, b3⟩
  have RA3 := Lib.hid ((b3.block _ (Nat.lt_of_succ_lt L2.out)).trans RA2.out)
  have RB3 := Lib.hid ((b3.block _ L2.out).trans RB2.out)
  have B3 := Lib.hid (B2.out.trans (b3.mono B2.out.size))
  have L3 := Lib.hid (Nat.lt_of_lt_of_le L2.out b3.size)
  clear b3 q1
  clear c0 c1 c2 c3 c4 c5 c6 c7 c8 c9 c10 c11 c12 c13 c14 c15 c16 c17 c18 c19 d0 d1 d2 d3 d4 d5 d6 d7 d8 d9 d10 d11 d12 d13 d14 d15 d16 d17 d18 d19
  have c20 : w3.cell? ⟨W.heap.size, 20, none⟩ = some (.int .u8 0) := (cell_of_row _ _ 20 _ _ _ RA3.out).trans (by rw [HA.out]; rfl)
  have c21 : w3.cell? ⟨W.heap.size, 21, none⟩ = some (.string ByteArray.empty) := (cell_of_row _ _ 21 _ _ _ RA3.out).trans (by rw [HA.out]; rfl)
  have c22 : w3.cell? ⟨W.heap.size, 22, none⟩ = some (.int .u8 0) := (cell_of_row _ _ 22 _ _ _ RA3.out).trans (by rw [HA.out]; rfl)
  have c23 : w3.cell? ⟨W.heap.size, 23, none⟩ = some (.int .u32 0) := (cell_of_row _ _ 23 _ _ _ RA3.out).trans (by rw [HA.out]; rfl)
  have c24 : w3.cell? ⟨W.heap.size, 24, none⟩ = some (.slice none 0 0) := (cell_of_row _ _ 24 _ _ _ RA3.out).trans (by rw [HA.out]; rfl)
  have d20 : w3.cell? ⟨W.heap.size + 1, 20, none⟩ = some (.int .u8 0) := (cell_of_row _ _ 20 _ _ _ RB3.out).trans (by rw [HA.out]; rfl)
  have d21 : w3.cell? ⟨W.heap.size + 1, 21, none⟩ = some (.string ByteArray.empty) := (cell_of_row _ _ 21 _ _ _ RB3.out).trans (by rw [HA.out]; rfl)
  have d22 : w3.cell? ⟨W.heap.size + 1, 22, none⟩ = some (.int .u8 0) := (cell_of_row _ _ 22 _ _ _ RB3.out).trans (by rw [HA.out]; rfl)
  have d23 : w3.cell? ⟨W.heap.size + 1, 23, none⟩ = some (.int .u32 0) := (cell_of_row _ _ 23 _ _ _ RB3.out).trans (by rw [HA.out]; rfl)
  have d24 : w3.cell? ⟨W.heap.size + 1, 24, none⟩ = some (.slice none 0 0) := (cell_of_row _ _ 24 _ _ _ RB3.out).trans (by rw [HA.out]; rfl)
  have q2 := eq0Res
  go_wp2_with fail
  refine (nilView _).mono ?_
  rintro e w4 ⟨rfl, b4⟩
  have RA4 := Lib.hid ((b4.block _ (Nat.lt_of_succ_lt L3.out)).trans RA3.out)
  have RB4 := Lib.hid ((b4.block _ L3.out).trans RB3.out)
  have B4 := Lib.hid (B3.out.trans (b4.mono B3.out.size))
  have L4 := Lib.hid (Nat.lt_of_lt_of_le L3.out b4.size)
  clear b4 q2
  clear c20 c21 c22 c23 c24 d20 d21 d22 d23 d24
  have c25 : w4.cell? ⟨W.heap.size, 25, none⟩ = some (.int .u8 0) := (cell_of_row _ _ 25 _ _ _ RA4.out).trans (by rw [HA.out]; rfl)
  have c26 : w4.cell? ⟨W.heap.size, 26, none⟩ = some (.int .u16 0) := (cell_of_row _ _ 26 _ _ _ RA4.out).trans (by rw [HA.out]; rfl)
  have c27 : w4.cell? ⟨W.heap.size, 27, none⟩ = some (.bool false) := (cell_of_row _ _ 27 _ _ _ RA4.out).trans (by rw [HA.out]; rfl)
  have c28 : w4.cell? ⟨W.heap.size, 28, none⟩ = some (.slice none 0 0) := (cell_of_row _ _ 28 _ _ _ RA4.out).trans (by rw [HA.out]; rfl)
  have d25 : w4.cell? ⟨W.heap.size + 1, 25, none⟩ = some (.int .u8 0) := (cell_of_row _ _ 25 _ _ _ RB4.out).trans (by rw [HA.out]; rfl)
  have d26 : w4.cell? ⟨W.heap.size + 1, 26, none⟩ = some (.int .u16 0) := (cell_of_row _ _ 26 _ _ _ RB4.out).trans (by rw [HA.out]; rfl)
  have d27 : w4.cell? ⟨W.heap.size + 1, 27, none⟩ = some (.bool false) := (cell_of_row _ _ 27 _ _ _ RB4.out).trans (by rw [HA.out]; rfl)
  have d28 : w4.cell? ⟨W.heap.size + 1, 28, none⟩ = some (.slice none 0 0) := (cell_of_row _ _ 28 _ _ _ RB4.out).trans (by rw [HA.out]; rfl)
  have q3 := eq0Pr
  go_wp2_with fail
  refine (nilEqP _).mono ?_
  rintro e w5 ⟨rfl, b5⟩
  have RA5 := Lib.hid ((b5.block _ (Nat.lt_of_succ_lt L4.out)).trans RA4.out)
  have RB5 := Lib.hid ((b5.block _ L4.out).trans RB4.out)
  have B5 := Lib.hid (B4.out.trans (b5.mono B4.out.size))
  have L5 := Lib.hid (Nat.lt_of_lt_of_le L4.out b5.size)
  clear b5 q3
  clear c25 c26 c27 c28 d25 d26 d27 d28
  have c29 : w5.cell? ⟨W.heap.size, 29, none⟩ = some (.slice none 0 0) := (cell_of_row _ _ 29 _ _ _ RA5.out).trans (by rw [HA.out]; rfl)
  have d29 : w5.cell? ⟨W.heap.size + 1, 29, none⟩ = some (.slice none 0 0) := (cell_of_row _ _ 29 _ _ _ RB5.out).trans (by rw [HA.out]; rfl)
  go_wp2_with fail
  refine (nilEntries _).mono ?_
  rintro e w6 ⟨rfl, b6⟩
  have RA6 := Lib.hid ((b6.block _ (Nat.lt_of_succ_lt L5.out)).trans RA5.out)
  have RB6 := Lib.hid ((b6.block _ L5.out).trans RB5.out)
  have B6 := Lib.hid (B5.out.trans (b6.mono B5.out.size))
  clear b6
  clear c29 d29
  have c30 : w6.cell? ⟨W.heap.size, 30, none⟩ = some (.slice none 0 0) := (cell_of_row _ _ 30 _ _ _ RA6.out).trans (by rw [HA.out]; rfl)
  have d30 : w6.cell? ⟨W.heap.size + 1, 30, none⟩ = some (.slice none 0 0) := (cell_of_row _ _ 30 _ _ _ RB6.out).trans (by rw [HA.out]; rfl)
  go_wp2_with fail
  refine (nilEntries _).mono ?_
  rintro e w7 ⟨rfl, b7⟩
  have B7 := Lib.hid (B6.out.trans (b7.mono B6.out.size))
  clear b7
  clear c30 d30
  go_wp2
  go_ret
  exact ⟨rfl, B7.out⟩

end Go.Proofs.YtkmbgehknpefiaaGreatDoor
