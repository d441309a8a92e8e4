/-
  What the laws begin with: a part is shown, is right, results are joined. Condition: the table of the powers of ten is as its text lays it.
-/
import Derived.Test.YtggaakjimkfliaaDoorPrsh
import Derived.Test.YtggaakjimkfliaaDoorPjoin
namespace Go.Proofs.YtggaakjimkfliaaDoor
set_option linter.unusedSimpArgs false
set_option linter.unusedVariables false
open Go.RowKit Go.Sort

theorem showB_knows : showB 1 3 5 { data := #[97] } { data := #[] } = { data := #[49, 58, 84, 97, 107, 101, 40, 97, 45, 53, 41] } := by
  unfold showB deedB
  rw [digB_small 1 (by omega) (by omega), digB_small 5 (by omega) (by omega)]
  rfl
theorem field_val (c : Int) (v : ByteArray) (w : World) : Sem.run Tryd.prog (Instr.field 35 (.agg #[.int .u8 c, .string v]) 1) w = .ok (.string v) w := by kernel_rfl
def knP : P5 := ⟨1, 3, { data := #[97] }, { data := #[] }, 5⟩
theorem knP_rng : knP.Rng := ⟨by decide, by decide, by decide, by decide, by decide⟩
theorem knP_all : rAll [knP] = true := by decide

set_option maxRecDepth 100000 in
set_option maxHeartbeats 4000000 in
theorem knows_any (w : World) (B : Nat) (ht : Okw B w) :
    Calls Tryd.prog 7 #[] w fun e w' => e = .returned (.bool true) ∧ Below w.heap.size w w' := by
  have HK := Lib.hid (ht.alloc (.cells #[.int .u8 1, .int .u8 3, .string { data := #[97] }, .string { data := #[] }, .int .i64 5] 28))
  have S1 : Hid (∀ W : World, Okw B W → Calls Tryd.prog 17 #[.agg #[.int .u8 1, .int .u8 3, .string { data := #[97] }, .string { data := #[] }, .int .i64 5]] W fun e w' => e = .returned (.string { data := #[49, 58, 84, 97, 107, 101, 40, 97, 45, 53, 41] }) ∧ Below W.heap.size W w') :=
    Lib.hid (fun W hW => by rw [← showB_knows]; exact show_any 1 3 5 _ _ W B (by omega) (by omega) (by omega) (by omega) (by omega) (by decide) hW)
  have S2 : Hid (∀ W : World, Calls Tryd.prog 9 #[.agg #[.int .u8 1, .int .u8 3, .string { data := #[97] }, .string { data := #[] }, .int .i64 5]] W fun e w' => e = .returned (.bool true) ∧ Below W.heap.size W w') :=
    Lib.hid (fun W => by
      have := rightPart 1 3 5 { data := #[97] } { data := #[] } W (by omega)
      rw [show rP 1 3 5 { data := #[97] } { data := #[] } = true by decide] at this
      exact this)
  have S3 : Hid (∀ W : World, Calls Tryd.prog 11 #[.slice (some ⟨W.heap.size, 0, none⟩) 1 1] (W.alloc (.cells #[.int .u8 1, .int .u8 3, .string { data := #[97] }, .string { data := #[] }, .int .i64 5] 28)) fun e w' => e = .returned (.bool true) ∧ Below (W.alloc (.cells #[.int .u8 1, .int .u8 3, .string { data := #[97] }, .string { data := #[] }, .int .i64 5] 28)).heap.size (W.alloc (.cells #[.int .u8 1, .int .u8 3, .string { data := #[97] }, .string { data := #[] }, .int .i64 5] 28)) w') :=
    Lib.hid (fun W => by
      have h := rightAll (some ⟨W.heap.size, 0, none⟩) [knP] 1 (W.alloc (.cells #[.int .u8 1, .int .u8 3, .string { data := #[97] }, .string { data := #[] }, .int .i64 5] 28)) (rowsP_of_cells (by simp) fun j u hu => by
        have := cells_new W #[.int .u8 1, .int .u8 3, .string { data := #[97] }, .string { data := #[] }, .int .i64 5] 28 j u (by simpa [cellsP, P5.cells, knP] using hu)
        rw [Nat.zero_add]
        by_cases hj : j = 0
        · subst hj; exact this
        · simpa [Addr.add, hj] using this) (fun x hx => by
          have : x = knP := by simpa using hx
          subst this
          exact knP_rng) (Nat.le_refl _) (by unfold maxLen; omega)
      rw [knP_all] at h
      exact h)
  have S4 : Hid (∀ W : World, Calls Tryd.prog 20 #[.agg #[.int .u8 0, .string { data := #[120] }], .agg #[.int .u8 0, .string { data := #[121] }]] W fun e w' => e = .returned (.agg #[.int .u8 0, .string { data := #[120, 44, 121] }]) ∧ Below W.heap.size W w') :=
    Lib.hid (fun W => join 0 0 { data := #[120] } { data := #[121] } W (by decide))
  clear ht
  go_enter Tryd.func7, Tryd.ntmps7
  go_wp2_with fail
  refine (S1.out _ HK.out).mono ?_
  rintro e w2 ⟨rfl, b1⟩
  have a0 := (b1.cell (p := ⟨w.heap.size, 0, none⟩) (by simp)).trans (show (w.alloc (.cells #[.int .u8 1, .int .u8 3, .string { data := #[97] }, .string { data := #[] }, .int .i64 5] 28)).cell? ⟨w.heap.size, 0, none⟩ = some (.int .u8 1) by simp)
  have a1 := (b1.cell (p := ⟨w.heap.size, 1, none⟩) (by simp)).trans (show (w.alloc (.cells #[.int .u8 1, .int .u8 3, .string { data := #[97] }, .string { data := #[] }, .int .i64 5] 28)).cell? ⟨w.heap.size, 1, none⟩ = some (.int .u8 3) by simp)
  have a2 := (b1.cell (p := ⟨w.heap.size, 2, none⟩) (by simp)).trans (show (w.alloc (.cells #[.int .u8 1, .int .u8 3, .string { data := #[97] }, .string { data := #[] }, .int .i64 5] 28)).cell? ⟨w.heap.size, 2, none⟩ = some (.string { data := #[97] }) by simp)
  have a3 := (b1.cell (p := ⟨w.heap.size, 3, none⟩) (by simp)).trans (show (w.alloc (.cells #[.int .u8 1, .int .u8 3, .string { data := #[97] }, .string { data := #[] }, .int .i64 5] 28)).cell? ⟨w.heap.size, 3, none⟩ = some (.string { data := #[] }) by simp)
  have a4 := (b1.cell (p := ⟨w.heap.size, 4, none⟩) (by simp)).trans (show (w.alloc (.cells #[.int .u8 1, .int .u8 3, .string { data := #[97] }, .string { data := #[] }, .int .i64 5] 28)).cell? ⟨w.heap.size, 4, none⟩ = some (.int .i64 5) by simp)
  have hsz1 : w.heap.size < w2.heap.size := by have := b1.size; simp at this; omega
  have B1 := Lib.hid (((Below.refl _ _).alloc (Nat.le_refl _) _).trans (b1.mono (by simp)))
  clear b1
  go_wp2_with fail
  refine (S2.out _).mono ?_
  rintro e w3 ⟨rfl, b2⟩
  have d0 := (b2.cell (p := ⟨w.heap.size, 0, none⟩) (by show w.heap.size < _; omega)).trans a0
  have d1 := (b2.cell (p := ⟨w.heap.size, 1, none⟩) (by show w.heap.size < _; omega)).trans a1
  have d2 := (b2.cell (p := ⟨w.heap.size, 2, none⟩) (by show w.heap.size < _; omega)).trans a2
  have d3 := (b2.cell (p := ⟨w.heap.size, 3, none⟩) (by show w.heap.size < _; omega)).trans a3
  have d4 := (b2.cell (p := ⟨w.heap.size, 4, none⟩) (by show w.heap.size < _; omega)).trans a4
  have hsz2 : w.heap.size < w3.heap.size := by have := b2.size; omega
  have B2 := Lib.hid (B1.out.trans (b2.mono (by omega)))
  clear b2 a0 a1 a2 a3 a4
  go_wp2_with fail
  refine (S3.out _).mono ?_
  rintro e w4 ⟨rfl, b3⟩
  have B3 := Lib.hid ((B2.out.alloc (by omega) _).trans (b3.mono (by simp; omega)))
  clear b3 d0 d1 d2 d3 d4
  go_wp2_with fail
  refine (S4.out _).mono ?_
  rintro e w5 ⟨rfl, b4⟩
  have B4 := Lib.hid (B3.out.trans (b4.mono B3.out.size))
  clear b4
  have F5 := field_val 0 { data := #[120, 44, 121] } w5
  go_wp2
  go_ret
  exact ⟨rfl, B4.out⟩

end Go.Proofs.YtggaakjimkfliaaDoor
