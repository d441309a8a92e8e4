/-
  A view from the document's to the program's and back; few; num: by contracts. Condition: the lists lie in memory and take at most 2^47 bytes.
-/
import Derived.Test.YtgmjhloednmfnaaDoorVnxi
namespace Go.Proofs.YtgmjhloednmfnaaDoor
set_option linter.unusedSimpArgs false
set_option linter.unusedVariables false
open Go.RowKit

set_option maxHeartbeats 400000 in
theorem numV (n : Int) (w : World) : Calls Tryd.prog 13 #[.int .i64 n] w fun e w' => e = .returned (.int .i64 n) ∧ w' = w := by
  go_enter Tryd.func13, Tryd.ntmps13
  go_wp2
  go_ret
  exact ⟨rfl, rfl⟩
set_option maxHeartbeats 400000 in
theorem fewV (g N : Int) (A B : Option Addr) (n m c d : Nat) (w : World) (hc : n ≤ c) (hd : m ≤ d) (hm : c ≤ maxLen) (hn : d ≤ maxLen) : Calls Tryd.prog 5 #[.agg #[.int .u8 g, .int .u32 N, .slice A n c], .slice B m d] w fun e w' => e = .returned (.bool (decide (n ≤ 40) && decide (m ≤ 40))) ∧ Below w.heap.size w w' := by
  unfold maxLen at hm hn
  by_cases h1 : n ≤ 40 <;> by_cases h2 : m ≤ 40
  all_goals
    have h1i : ((n : Int) ≤ 40) = decide (n ≤ 40) := by rw [eq_iff_iff, decide_eq_true_eq]; omega
    have h2i : ((m : Int) ≤ 40) = decide (m ≤ 40) := by rw [eq_iff_iff, decide_eq_true_eq]; omega
    go_enter Tryd.func5, Tryd.ntmps5
    go_wp2
    go_ret
    exact ⟨ret_bool (by simp [h1, h2]; try omega), (Below.refl _ _).alloc (Nat.le_refl _) _⟩

set_option maxRecDepth 100000 in
set_option maxHeartbeats 1000000 in
theorem ownV (g N : Int) (A : Option Addr) (V : List P2) (c : Nat) (w : World) (hr : RowsV w w.heap.size A V) (hV : V.length * 4 ≤ 140737488355328) (hc : V.length ≤ c) (hm : c ≤ maxLen) :
    Calls Tryd.prog 7 #[.agg #[.int .u8 g, .int .u32 N, .slice A V.length c]] w fun x w' => ∃ A' c', x = .returned (.agg #[.int .u8 g, .int .u32 N, .slice A' V.length c']) ∧ w'.ownsRow w.heap.size 48 2 (.slice A' V.length c') V.length (cellsV V) ∧ Below w.heap.size w w' := by
  have K1 : Hid (∀ W, Below w.heap.size w W → Calls Tryd.prog 9 #[.slice A V.length c] W fun e w' => ∃ v, e = .returned v ∧ w'.ownsRow W.heap.size 48 2 v V.length (cellsV V) ∧ Below W.heap.size W w') := Lib.hid (fun W hw => procs A V c W (hr.below (C := w.heap.size) hw (Nat.le_refl _) hw.size) hV hc hm)
  have b0 : Hid (Below w.heap.size w ((w.alloc (.cells #[.int .u8 g, .int .u32 N, .slice A V.length c] 25)).alloc (.cells #[.int .u8 0, .int .u32 0, .slice none 0 0] 30)).drew) := Lib.hid (two_below _ _ _ _ _).drew
  have r0 : Hid (((w.alloc (.cells #[.int .u8 g, .int .u32 N, .slice A V.length c] 25)).alloc (.cells #[.int .u8 0, .int .u32 0, .slice none 0 0] 30)).drew.heap[w.heap.size]? = some (.cells #[.int .u8 g, .int .u32 N, .slice A V.length c] 25 (0, 0))) := Lib.hid (rowA _ _ _ _ _)
  have r1 : Hid (((w.alloc (.cells #[.int .u8 g, .int .u32 N, .slice A V.length c] 25)).alloc (.cells #[.int .u8 0, .int .u32 0, .slice none 0 0] 30)).drew.heap[w.heap.size + 1]? = some (.cells #[.int .u8 0, .int .u32 0, .slice none 0 0] 30 (0, 0))) := Lib.hid (rowB _ _ _ _ _)
  have l1 : Hid (w.heap.size + 1 < ((w.alloc (.cells #[.int .u8 g, .int .u32 N, .slice A V.length c] 25)).alloc (.cells #[.int .u8 0, .int .u32 0, .slice none 0 0] 30)).drew.heap.size) := Lib.hid (by simp)
  clear hr hV hc hm
  go_enter Tryd.func7, Tryd.ntmps7
  go_wp2
  refine region_heldT (S := fun W => W.heap[w.heap.size]? = some (.cells #[.int .u8 g, .int .u32 N, .slice A V.length c] 25 (0, 0))) 8 (by kernel_rfl) (by decide) (fun inv => ?_)
  change FirstH _ _ _ _ _ _ _ _ _ _ ((w.alloc (.cells #[.int .u8 g, .int .u32 N, .slice A V.length c] 25)).alloc (.cells #[.int .u8 0, .int .u32 0, .slice none 0 0] 30)).drew
  generalize ((w.alloc (.cells #[.int .u8 g, .int .u32 N, .slice A V.length c] 25)).alloc (.cells #[.int .u8 0, .int .u32 0, .slice none 0 0] 30)).drew = wd at *
  have HS := r0.out
  refine FirstH.go (i := 0) (v := .pointer (some ⟨w.heap.size, 0, none⟩)) rfl rfl 3 rfl (Op.fieldAddr 25 (.tmp 1) 0) rfl (by kernel_rfl) (fun _ _ _ h => h) inv (fun W hS => by have k0 := (cell_of_row _ _ 0 _ _ _ hS); have k1 := (cell_of_row _ _ 1 _ _ _ hS); have k2 := (cell_of_row _ _ 2 _ _ _ hS); unfold bareO; go_simp) HS (fun inv => ?_)
  try simp only [Act.put, List.setIfInBounds_toArray, List.set_cons_zero, List.set_cons_succ]
  refine FirstH.go (i := 1) (v := .int .u8 g) rfl rfl 4 rfl (Op.load 5 (.tmp 3)) rfl (by kernel_rfl) (fun _ _ _ h => h) inv (fun W hS => by have k0 := (cell_of_row _ _ 0 _ _ _ hS); have k1 := (cell_of_row _ _ 1 _ _ _ hS); have k2 := (cell_of_row _ _ 2 _ _ _ hS); unfold bareO; go_simp) HS (fun inv => ?_)
  try simp only [Act.put, List.setIfInBounds_toArray, List.set_cons_zero, List.set_cons_succ]
  refine FirstH.go (i := 2) (v := .pointer (some ⟨w.heap.size, 1, none⟩)) rfl rfl 5 rfl (Op.fieldAddr 25 (.tmp 1) 1) rfl (by kernel_rfl) (fun _ _ _ h => h) inv (fun W hS => by have k0 := (cell_of_row _ _ 0 _ _ _ hS); have k1 := (cell_of_row _ _ 1 _ _ _ hS); have k2 := (cell_of_row _ _ 2 _ _ _ hS); unfold bareO; go_simp) HS (fun inv => ?_)
  try simp only [Act.put, List.setIfInBounds_toArray, List.set_cons_zero, List.set_cons_succ]
  refine FirstH.go (i := 3) (v := .int .u32 N) rfl rfl 6 rfl (Op.load 22 (.tmp 5)) rfl (by kernel_rfl) (fun _ _ _ h => h) inv (fun W hS => by have k0 := (cell_of_row _ _ 0 _ _ _ hS); have k1 := (cell_of_row _ _ 1 _ _ _ hS); have k2 := (cell_of_row _ _ 2 _ _ _ hS); unfold bareO; go_simp) HS (fun inv => ?_)
  try simp only [Act.put, List.setIfInBounds_toArray, List.set_cons_zero, List.set_cons_succ]
  refine FirstH.go (i := 4) (v := .pointer (some ⟨w.heap.size, 2, none⟩)) rfl rfl 7 rfl (Op.fieldAddr 25 (.tmp 1) 2) rfl (by kernel_rfl) (fun _ _ _ h => h) inv (fun W hS => by have k0 := (cell_of_row _ _ 0 _ _ _ hS); have k1 := (cell_of_row _ _ 1 _ _ _ hS); have k2 := (cell_of_row _ _ 2 _ _ _ hS); unfold bareO; go_simp) HS (fun inv => ?_)
  try simp only [Act.put, List.setIfInBounds_toArray, List.set_cons_zero, List.set_cons_succ]
  refine FirstH.go (i := 5) (v := .slice A V.length c) rfl rfl 8 rfl (Op.load 23 (.tmp 7)) rfl (by kernel_rfl) (fun _ _ _ h => h) inv (fun W hS => by have k0 := (cell_of_row _ _ 0 _ _ _ hS); have k1 := (cell_of_row _ _ 1 _ _ _ hS); have k2 := (cell_of_row _ _ 2 _ _ _ hS); unfold bareO; go_simp) HS (fun inv => ?_)
  try simp only [Act.put, List.setIfInBounds_toArray, List.set_cons_zero, List.set_cons_succ]
  clear HS
  refine FirstH.only (i := 6) (by kernel_rfl) (by decide) inv (fun inv => wpOp_call (i := 6) rfl rfl 9 rfl (Op.call { callee := .value (.func 9), args := #[.tmp 8], argTypes := #[23] }) rfl 9 #[.slice A V.length c] (by unfold bareO; go_simp) (K1.out wd b0.out) ?_)
  rintro e w2 ⟨v, rfl, O, b2⟩
  obtain ⟨A', c', rfl, -, -, -⟩ := rowsV_of_own O
  have B2 := Lib.hid (b0.out.trans (b2.mono b0.out.size))
  have HS := (b2.block _ (Nat.lt_of_succ_lt l1.out)).trans r0.out
  have R1 := (b2.block _ l1.out).trans r1.out
  have O2 := Lib.hid O
  have q0 : w2.cell? ⟨w.heap.size + 1, 0, none⟩ = some (.int .u8 0) := (cell_of_row _ _ 0 _ _ _ R1).trans rfl
  have q1 : w2.cell? ⟨w.heap.size + 1, 1, none⟩ = some (.int .u32 0) := (cell_of_row _ _ 1 _ _ _ R1).trans rfl
  have q2 : w2.cell? ⟨w.heap.size + 1, 2, none⟩ = some (.slice none 0 0) := (cell_of_row _ _ 2 _ _ _ R1).trans rfl
  have p0 := frz_row 0 R1
  have p1 := frz_row 1 R1
  have p2 := frz_row 2 R1
  have l2 : w.heap.size + 1 < w2.heap.size := Nat.lt_of_lt_of_le l1.out b2.size
  have hbase : Hid (w.heap.size + 1 < wd.heap.size) := l1
  clear b2 O R1
  refine ⟨_, rfl, HS, ?_⟩
  try simp only [Act.put, List.setIfInBounds_toArray, List.set_cons_zero, List.set_cons_succ]
  refine FirstH.go (i := 7) (v := .agg #[.int .u8 g, .int .u32 N, .slice A' V.length c']) rfl rfl 10 rfl (Op.build 30 #[(0, .tmp 4), (1, .tmp 6), (2, .tmp 9)]) rfl (by kernel_rfl) (fun _ _ _ h => h) inv (fun W hS => by unfold bareO; go_simp) HS (fun inv => ?_)
  try simp only [Act.put, List.setIfInBounds_toArray, List.set_cons_zero, List.set_cons_succ]
  clear HS
  refine ⟨by kernel_rfl, ?_⟩
  simp only [List.drop_succ_cons, List.drop_zero]
  go_wp2
  refine bodyPost_ret (v := .agg #[.int .u8 g, .int .u32 N, .slice A' V.length c']) (by simp [results, Tryd.results7, go_sem]; try go_simp) rfl ⟨A', c', rfl, ?_, ?_⟩
  · have hb := hbase.out
    exact own_mono (ownsRow_setCell_below (ownsRow_setCell_below (ownsRow_setCell_below O2.out (by show w.heap.size + 1 < wd.heap.size; exact hb) _) (by show w.heap.size + 1 < wd.heap.size; exact hb) _) (by show w.heap.size + 1 < wd.heap.size; exact hb) _) (by omega)
  · exact ((B2.out.setCell (by simp) _).setCell (by simp) _).setCell (by simp) _

set_option maxRecDepth 100000 in
set_option maxHeartbeats 1000000 in
theorem refV (g N : Int) (A : Option Addr) (V : List P2) (c : Nat) (w : World) (hr : RowsV w w.heap.size A V) (hV : V.length * 4 ≤ 140737488355328) (hc : V.length ≤ c) (hm : c ≤ maxLen) :
    Calls Tryd.prog 12 #[.agg #[.int .u8 g, .int .u32 N, .slice A V.length c]] w fun x w' => ∃ A' c', x = .returned (.agg #[.int .u8 g, .int .u32 N, .slice A' V.length c']) ∧ w'.ownsRow w.heap.size 46 2 (.slice A' V.length c') V.length (cellsV V) ∧ Below w.heap.size w w' := by
  have K1 : Hid (∀ W, Below w.heap.size w W → Calls Tryd.prog 28 #[.slice A V.length c] W fun e w' => ∃ v, e = .returned v ∧ w'.ownsRow W.heap.size 46 2 v V.length (cellsV V) ∧ Below W.heap.size W w') := Lib.hid (fun W hw => refProcs A V c W (hr.below (C := w.heap.size) hw (Nat.le_refl _) hw.size) hV hc hm)
  have b0 : Hid (Below w.heap.size w ((w.alloc (.cells #[.int .u8 g, .int .u32 N, .slice A V.length c] 30)).alloc (.cells #[.int .u8 0, .int .u32 0, .slice none 0 0] 25)).drew) := Lib.hid (two_below _ _ _ _ _).drew
  have r0 : Hid (((w.alloc (.cells #[.int .u8 g, .int .u32 N, .slice A V.length c] 30)).alloc (.cells #[.int .u8 0, .int .u32 0, .slice none 0 0] 25)).drew.heap[w.heap.size]? = some (.cells #[.int .u8 g, .int .u32 N, .slice A V.length c] 30 (0, 0))) := Lib.hid (rowA _ _ _ _ _)
  have r1 : Hid (((w.alloc (.cells #[.int .u8 g, .int .u32 N, .slice A V.length c] 30)).alloc (.cells #[.int .u8 0, .int .u32 0, .slice none 0 0] 25)).drew.heap[w.heap.size + 1]? = some (.cells #[.int .u8 0, .int .u32 0, .slice none 0 0] 25 (0, 0))) := Lib.hid (rowB _ _ _ _ _)
  have l1 : Hid (w.heap.size + 1 < ((w.alloc (.cells #[.int .u8 g, .int .u32 N, .slice A V.length c] 30)).alloc (.cells #[.int .u8 0, .int .u32 0, .slice none 0 0] 25)).drew.heap.size) := Lib.hid (by simp)
  clear hr hV hc hm
  go_enter Tryd.func12, Tryd.ntmps12
  go_wp2
  refine region_heldT (S := fun W => W.heap[w.heap.size]? = some (.cells #[.int .u8 g, .int .u32 N, .slice A V.length c] 30 (0, 0))) 8 (by kernel_rfl) (by decide) (fun inv => ?_)
  change FirstH _ _ _ _ _ _ _ _ _ _ ((w.alloc (.cells #[.int .u8 g, .int .u32 N, .slice A V.length c] 30)).alloc (.cells #[.int .u8 0, .int .u32 0, .slice none 0 0] 25)).drew
  generalize ((w.alloc (.cells #[.int .u8 g, .int .u32 N, .slice A V.length c] 30)).alloc (.cells #[.int .u8 0, .int .u32 0, .slice none 0 0] 25)).drew = wd at *
  have HS := r0.out
  refine FirstH.go (i := 0) (v := .pointer (some ⟨w.heap.size, 0, none⟩)) rfl rfl 3 rfl (Op.fieldAddr 30 (.tmp 1) 0) rfl (by kernel_rfl) (fun _ _ _ h => h) inv (fun W hS => by have k0 := (cell_of_row _ _ 0 _ _ _ hS); have k1 := (cell_of_row _ _ 1 _ _ _ hS); have k2 := (cell_of_row _ _ 2 _ _ _ hS); unfold bareO; go_simp) HS (fun inv => ?_)
  try simp only [Act.put, List.setIfInBounds_toArray, List.set_cons_zero, List.set_cons_succ]
  refine FirstH.go (i := 1) (v := .int .u8 g) rfl rfl 4 rfl (Op.load 5 (.tmp 3)) rfl (by kernel_rfl) (fun _ _ _ h => h) inv (fun W hS => by have k0 := (cell_of_row _ _ 0 _ _ _ hS); have k1 := (cell_of_row _ _ 1 _ _ _ hS); have k2 := (cell_of_row _ _ 2 _ _ _ hS); unfold bareO; go_simp) HS (fun inv => ?_)
  try simp only [Act.put, List.setIfInBounds_toArray, List.set_cons_zero, List.set_cons_succ]
  refine FirstH.go (i := 2) (v := .pointer (some ⟨w.heap.size, 1, none⟩)) rfl rfl 5 rfl (Op.fieldAddr 30 (.tmp 1) 1) rfl (by kernel_rfl) (fun _ _ _ h => h) inv (fun W hS => by have k0 := (cell_of_row _ _ 0 _ _ _ hS); have k1 := (cell_of_row _ _ 1 _ _ _ hS); have k2 := (cell_of_row _ _ 2 _ _ _ hS); unfold bareO; go_simp) HS (fun inv => ?_)
  try simp only [Act.put, List.setIfInBounds_toArray, List.set_cons_zero, List.set_cons_succ]
  refine FirstH.go (i := 3) (v := .int .u32 N) rfl rfl 6 rfl (Op.load 22 (.tmp 5)) rfl (by kernel_rfl) (fun _ _ _ h => h) inv (fun W hS => by have k0 := (cell_of_row _ _ 0 _ _ _ hS); have k1 := (cell_of_row _ _ 1 _ _ _ hS); have k2 := (cell_of_row _ _ 2 _ _ _ hS); unfold bareO; go_simp) HS (fun inv => ?_)
  try simp only [Act.put, List.setIfInBounds_toArray, List.set_cons_zero, List.set_cons_succ]
  refine FirstH.go (i := 4) (v := .pointer (some ⟨w.heap.size, 2, none⟩)) rfl rfl 7 rfl (Op.fieldAddr 30 (.tmp 1) 2) rfl (by kernel_rfl) (fun _ _ _ h => h) inv (fun W hS => by have k0 := (cell_of_row _ _ 0 _ _ _ hS); have k1 := (cell_of_row _ _ 1 _ _ _ hS); have k2 := (cell_of_row _ _ 2 _ _ _ hS); unfold bareO; go_simp) HS (fun inv => ?_)
  try simp only [Act.put, List.setIfInBounds_toArray, List.set_cons_zero, List.set_cons_succ]
  refine FirstH.go (i := 5) (v := .slice A V.length c) rfl rfl 8 rfl (Op.load 28 (.tmp 7)) rfl (by kernel_rfl) (fun _ _ _ h => h) inv (fun W hS => by have k0 := (cell_of_row _ _ 0 _ _ _ hS); have k1 := (cell_of_row _ _ 1 _ _ _ hS); have k2 := (cell_of_row _ _ 2 _ _ _ hS); unfold bareO; go_simp) HS (fun inv => ?_)
  try simp only [Act.put, List.setIfInBounds_toArray, List.set_cons_zero, List.set_cons_succ]
  clear HS
  refine FirstH.only (i := 6) (by kernel_rfl) (by decide) inv (fun inv => wpOp_call (i := 6) rfl rfl 9 rfl (Op.call { callee := .value (.func 28), args := #[.tmp 8], argTypes := #[28] }) rfl 28 #[.slice A V.length c] (by unfold bareO; go_simp) (K1.out wd b0.out) ?_)
  rintro e w2 ⟨v, rfl, O, b2⟩
  obtain ⟨A', c', rfl, -, -, -⟩ := rowsV_of_own O
  have B2 := Lib.hid (b0.out.trans (b2.mono b0.out.size))
  have HS := (b2.block _ (Nat.lt_of_succ_lt l1.out)).trans r0.out
  have R1 := (b2.block _ l1.out).trans r1.out
  have O2 := Lib.hid O
  have q0 : w2.cell? ⟨w.heap.size + 1, 0, none⟩ = some (.int .u8 0) := (cell_of_row _ _ 0 _ _ _ R1).trans rfl
  have q1 : w2.cell? ⟨w.heap.size + 1, 1, none⟩ = some (.int .u32 0) := (cell_of_row _ _ 1 _ _ _ R1).trans rfl
  have q2 : w2.cell? ⟨w.heap.size + 1, 2, none⟩ = some (.slice none 0 0) := (cell_of_row _ _ 2 _ _ _ R1).trans rfl
  have p0 := frz_row 0 R1
  have p1 := frz_row 1 R1
  have p2 := frz_row 2 R1
  have l2 : w.heap.size + 1 < w2.heap.size := Nat.lt_of_lt_of_le l1.out b2.size
  have hbase : Hid (w.heap.size + 1 < wd.heap.size) := l1
  clear b2 O R1
  refine ⟨_, rfl, HS, ?_⟩
  try simp only [Act.put, List.setIfInBounds_toArray, List.set_cons_zero, List.set_cons_succ]
  refine FirstH.go (i := 7) (v := .agg #[.int .u8 g, .int .u32 N, .slice A' V.length c']) rfl rfl 10 rfl (Op.build 25 #[(0, .tmp 4), (1, .tmp 6), (2, .tmp 9)]) rfl (by kernel_rfl) (fun _ _ _ h => h) inv (fun W hS => by unfold bareO; go_simp) HS (fun inv => ?_)
  try simp only [Act.put, List.setIfInBounds_toArray, List.set_cons_zero, List.set_cons_succ]
  clear HS
  refine ⟨by kernel_rfl, ?_⟩
  simp only [List.drop_succ_cons, List.drop_zero]
  go_wp2
  refine bodyPost_ret (v := .agg #[.int .u8 g, .int .u32 N, .slice A' V.length c']) (by simp [results, Tryd.results12, go_sem]; try go_simp) rfl ⟨A', c', rfl, ?_, ?_⟩
  · have hb := hbase.out
    exact own_mono (ownsRow_setCell_below (ownsRow_setCell_below (ownsRow_setCell_below O2.out (by show w.heap.size + 1 < wd.heap.size; exact hb) _) (by show w.heap.size + 1 < wd.heap.size; exact hb) _) (by show w.heap.size + 1 < wd.heap.size; exact hb) _) (by omega)
  · exact ((B2.out.setCell (by simp) _).setCell (by simp) _).setCell (by simp) _

end Go.Proofs.YtgmjhloednmfnaaDoor
