/-
  The law's Packet at a packet without a body. No condition.
-/
import Derived.Test.YtkmbgehknpefiaaGreatDoorWpc
namespace Go.Proofs.YtkmbgehknpefiaaGreatDoor
set_option linter.unusedSimpArgs false
set_option linter.unusedVariables false
open Go.RowKit Go.Sort

set_option maxRecDepth 100000 in
set_option maxHeartbeats 4000000 in
theorem packO0 (fn fl tn tl seq ack : Nat) (has : Bool) (W : World) :
    Calls Tryz.prog 18 #[.agg #[.int .u8 fn, .int .u16 fl, .int .u8 tn, .int .u16 tl, .int .u64 seq, .int .u64 ack, .bool has, .slice none 0 0]] W fun e W' => ∃ A2 c2, e = .returned (.agg #[.int .u8 fn, .int .u16 fl, .int .u8 tn, .int .u16 tl, .int .u64 seq, .int .u64 ack, .bool has, .slice A2 0 c2]) ∧ BytesAt W' W'.heap.size A2 [] ∧ c2 ≤ maxLen ∧ Below W.heap.size W W' := by
  obtain ⟨cs, hcs⟩ : ∃ cs : Array Value, #[.int .u8 fn, .int .u16 fl, .int .u8 tn, .int .u16 tl, .int .u64 seq, .int .u64 ack, .bool has, .slice none 0 0] = cs := ⟨_, rfl⟩
  have KP := Lib.hid (fun a b w => I.toProc a b w)
  obtain ⟨W1, hW1⟩ : ∃ W1, W.alloc (.cells #[.int .u8 fn, .int .u16 fl, .int .u8 tn, .int .u16 tl, .int .u64 seq, .int .u64 ack, .bool has, .slice none 0 0] 73) = W1 := ⟨_, rfl⟩
  obtain ⟨W2, hW2⟩ : ∃ W2, W1.alloc (.cells #[.int .u8 0, .int .u16 0, .int .u8 0, .int .u16 0, .int .u64 0, .int .u64 0, .bool false, .slice none 0 0] 76) = W2 := ⟨_, rfl⟩
  have s1 : W1.heap.size = W.heap.size + 1 := by rw [← hW1]; simp
  have s2 : W2.heap.size = W.heap.size + 2 := by rw [← hW2]; simp [s1]
  have rA1 : W1.heap[W.heap.size]? = some (.cells cs 73 (0, 0)) := by rw [← hW1, ← hcs]; exact heap_alloc_new _ _
  have G2 : Going W cs W2 := ⟨by rw [← hW2, ← hW1]; exact two_up _ _ _ _ _, by rw [← hW2, Below.heap_alloc _ _ _ (by omega)]; exact rA1, by rw [← hW2, ← s1]; exact heap_alloc_new _ _, by omega⟩
  obtain ⟨W3, hW3⟩ : ∃ W3, W2.drew = W3 := ⟨_, rfl⟩
  have G3 : Hid (Going W cs W3) := Lib.hid (by rw [← hW3]; exact G2.on (Below.refl _ _).drew)
  have HW1 := Lib.hid hW1
  have HW2 := Lib.hid hW2
  have HW3 := Lib.hid hW3
  have S1 := Lib.hid s1
  have S2 := Lib.hid s2
  have HCS := Lib.hid hcs
  clear hW1 hW2 hW3 s1 s2 rA1 G2 hcs
  go_enter Tryz.func18, Tryz.ntmps18
  go_wp2
  refine region_heldT (S := fun X => X.cell? ⟨W.heap.size, 0, none⟩ = some (.int .u8 fn) ∧ X.cell? ⟨W.heap.size, 1, none⟩ = some (.int .u16 fl) ∧ X.cell? ⟨W.heap.size, 2, none⟩ = some (.int .u8 tn) ∧ X.cell? ⟨W.heap.size, 3, none⟩ = some (.int .u16 tl) ∧ X.cell? ⟨W.heap.size, 4, none⟩ = some (.int .u64 seq) ∧ X.cell? ⟨W.heap.size, 5, none⟩ = some (.int .u64 ack) ∧ X.cell? ⟨W.heap.size, 6, none⟩ = some (.bool has) ∧ X.cell? ⟨W.heap.size, 7, none⟩ = some (.slice none 0 0)) 16 (by kernel_rfl) (by decide) (fun inv => ?_)
  change FirstH _ _ _ _ _ _ _ _ _ _ ((W.alloc (.cells #[.int .u8 fn, .int .u16 fl, .int .u8 tn, .int .u16 tl, .int .u64 seq, .int .u64 ack, .bool has, .slice none 0 0] 73)).alloc (.cells #[.int .u8 0, .int .u16 0, .int .u8 0, .int .u16 0, .int .u64 0, .int .u64 0, .bool false, .slice none 0 0] 76)).drew
  rw [HW1.out, HW2.out, HW3.out]
  have HS : W3.cell? ⟨W.heap.size, 0, none⟩ = some (.int .u8 fn) ∧ W3.cell? ⟨W.heap.size, 1, none⟩ = some (.int .u16 fl) ∧ W3.cell? ⟨W.heap.size, 2, none⟩ = some (.int .u8 tn) ∧ W3.cell? ⟨W.heap.size, 3, none⟩ = some (.int .u16 tl) ∧ W3.cell? ⟨W.heap.size, 4, none⟩ = some (.int .u64 seq) ∧ W3.cell? ⟨W.heap.size, 5, none⟩ = some (.int .u64 ack) ∧ W3.cell? ⟨W.heap.size, 6, none⟩ = some (.bool has) ∧ W3.cell? ⟨W.heap.size, 7, none⟩ = some (.slice none 0 0) := ⟨(cell_of_row _ _ 0 _ _ _ G3.out.arg).trans (by rw [← HCS.out]; rfl), (cell_of_row _ _ 1 _ _ _ G3.out.arg).trans (by rw [← HCS.out]; rfl), (cell_of_row _ _ 2 _ _ _ G3.out.arg).trans (by rw [← HCS.out]; rfl), (cell_of_row _ _ 3 _ _ _ G3.out.arg).trans (by rw [← HCS.out]; rfl), (cell_of_row _ _ 4 _ _ _ G3.out.arg).trans (by rw [← HCS.out]; rfl), (cell_of_row _ _ 5 _ _ _ G3.out.arg).trans (by rw [← HCS.out]; rfl), (cell_of_row _ _ 6 _ _ _ G3.out.arg).trans (by rw [← HCS.out]; rfl), (cell_of_row _ _ 7 _ _ _ G3.out.arg).trans (by rw [← HCS.out]; rfl)⟩
  refine FirstH.go (i := 0) (v := .pointer (some ⟨W.heap.size, 0, none⟩)) rfl rfl _ rfl _ rfl (by kernel_rfl) (fun _ _ _ h => h) inv (fun X _ => by unfold bareO; go_simp) HS (fun inv => ?_)
  try simp only [Act.put, List.setIfInBounds_toArray, List.set_cons_zero, List.set_cons_succ]
  refine FirstH.go (i := 1) (v := .agg #[.int .u8 fn, .int .u16 fl]) rfl rfl _ rfl _ rfl (by kernel_rfl) (fun _ _ _ h => h) inv (fun X hS => by obtain ⟨l0, l1, l2, l3, l4, l5, l6, l7⟩ := hS; unfold bareO; go_simp) HS (fun inv => ?_)
  try simp only [Act.put, List.setIfInBounds_toArray, List.set_cons_zero, List.set_cons_succ]
  refine FirstH.go (i := 3) (v := .pointer (some ⟨W.heap.size, 2, none⟩)) rfl rfl _ rfl _ rfl (by kernel_rfl) (fun _ _ _ h => h) inv (fun X _ => by unfold bareO; go_simp) HS (fun inv => ?_)
  try simp only [Act.put, List.setIfInBounds_toArray, List.set_cons_zero, List.set_cons_succ]
  refine FirstH.go (i := 4) (v := .agg #[.int .u8 tn, .int .u16 tl]) rfl rfl _ rfl _ rfl (by kernel_rfl) (fun _ _ _ h => h) inv (fun X hS => by obtain ⟨l0, l1, l2, l3, l4, l5, l6, l7⟩ := hS; unfold bareO; go_simp) HS (fun inv => ?_)
  try simp only [Act.put, List.setIfInBounds_toArray, List.set_cons_zero, List.set_cons_succ]
  refine FirstH.go (i := 6) (v := .pointer (some ⟨W.heap.size, 4, none⟩)) rfl rfl _ rfl _ rfl (by kernel_rfl) (fun _ _ _ h => h) inv (fun X _ => by unfold bareO; go_simp) HS (fun inv => ?_)
  try simp only [Act.put, List.setIfInBounds_toArray, List.set_cons_zero, List.set_cons_succ]
  refine FirstH.go (i := 7) (v := .int .u64 seq) rfl rfl _ rfl _ rfl (by kernel_rfl) (fun _ _ _ h => h) inv (fun X hS => by obtain ⟨l0, l1, l2, l3, l4, l5, l6, l7⟩ := hS; unfold bareO; go_simp) HS (fun inv => ?_)
  try simp only [Act.put, List.setIfInBounds_toArray, List.set_cons_zero, List.set_cons_succ]
  refine FirstH.go (i := 8) (v := .pointer (some ⟨W.heap.size, 5, none⟩)) rfl rfl _ rfl _ rfl (by kernel_rfl) (fun _ _ _ h => h) inv (fun X _ => by unfold bareO; go_simp) HS (fun inv => ?_)
  try simp only [Act.put, List.setIfInBounds_toArray, List.set_cons_zero, List.set_cons_succ]
  refine FirstH.go (i := 9) (v := .int .u64 ack) rfl rfl _ rfl _ rfl (by kernel_rfl) (fun _ _ _ h => h) inv (fun X hS => by obtain ⟨l0, l1, l2, l3, l4, l5, l6, l7⟩ := hS; unfold bareO; go_simp) HS (fun inv => ?_)
  try simp only [Act.put, List.setIfInBounds_toArray, List.set_cons_zero, List.set_cons_succ]
  refine FirstH.go (i := 10) (v := .pointer (some ⟨W.heap.size, 6, none⟩)) rfl rfl _ rfl _ rfl (by kernel_rfl) (fun _ _ _ h => h) inv (fun X _ => by unfold bareO; go_simp) HS (fun inv => ?_)
  try simp only [Act.put, List.setIfInBounds_toArray, List.set_cons_zero, List.set_cons_succ]
  refine FirstH.go (i := 11) (v := .bool has) rfl rfl _ rfl _ rfl (by kernel_rfl) (fun _ _ _ h => h) inv (fun X hS => by obtain ⟨l0, l1, l2, l3, l4, l5, l6, l7⟩ := hS; unfold bareO; go_simp) HS (fun inv => ?_)
  try simp only [Act.put, List.setIfInBounds_toArray, List.set_cons_zero, List.set_cons_succ]
  refine FirstH.go (i := 13) (v := .pointer (some ⟨W.heap.size, 7, none⟩)) rfl rfl _ rfl _ rfl (by kernel_rfl) (fun _ _ _ h => h) inv (fun X _ => by unfold bareO; go_simp) HS (fun inv => ?_)
  try simp only [Act.put, List.setIfInBounds_toArray, List.set_cons_zero, List.set_cons_succ]
  refine FirstH.go (i := 14) (v := .slice none 0 0) rfl rfl _ rfl _ rfl (by kernel_rfl) (fun _ _ _ h => h) inv (fun X hS => by obtain ⟨l0, l1, l2, l3, l4, l5, l6, l7⟩ := hS; unfold bareO; go_simp) HS (fun inv => ?_)
  try simp only [Act.put, List.setIfInBounds_toArray, List.set_cons_zero, List.set_cons_succ]
  clear HS
  refine FirstH.two (i := 2) (j := 12) (by kernel_rfl) (by decide) (by decide) inv (fun inv => ?_) (fun inv => ?_)
  · refine (wpOp_call (i := 2) rfl rfl 5 rfl _ rfl 33 #[.agg #[.int .u8 fn, .int .u16 fl]] (by unfold bareO; go_simp) (KP.out _ _ _) ?_)
    rintro e W4 ⟨rfl, h4⟩
    have b4 : Below W3.heap.size W3 W4 := by rw [← h4]; exact two_up _ _ _ _ _
    have G4 := Lib.hid (G3.out.on b4)
    clear h4 b4
    have HS : W4.cell? ⟨W.heap.size, 0, none⟩ = some (.int .u8 fn) ∧ W4.cell? ⟨W.heap.size, 1, none⟩ = some (.int .u16 fl) ∧ W4.cell? ⟨W.heap.size, 2, none⟩ = some (.int .u8 tn) ∧ W4.cell? ⟨W.heap.size, 3, none⟩ = some (.int .u16 tl) ∧ W4.cell? ⟨W.heap.size, 4, none⟩ = some (.int .u64 seq) ∧ W4.cell? ⟨W.heap.size, 5, none⟩ = some (.int .u64 ack) ∧ W4.cell? ⟨W.heap.size, 6, none⟩ = some (.bool has) ∧ W4.cell? ⟨W.heap.size, 7, none⟩ = some (.slice none 0 0) := ⟨(cell_of_row _ _ 0 _ _ _ G4.out.arg).trans (by rw [← HCS.out]; rfl), (cell_of_row _ _ 1 _ _ _ G4.out.arg).trans (by rw [← HCS.out]; rfl), (cell_of_row _ _ 2 _ _ _ G4.out.arg).trans (by rw [← HCS.out]; rfl), (cell_of_row _ _ 3 _ _ _ G4.out.arg).trans (by rw [← HCS.out]; rfl), (cell_of_row _ _ 4 _ _ _ G4.out.arg).trans (by rw [← HCS.out]; rfl), (cell_of_row _ _ 5 _ _ _ G4.out.arg).trans (by rw [← HCS.out]; rfl), (cell_of_row _ _ 6 _ _ _ G4.out.arg).trans (by rw [← HCS.out]; rfl), (cell_of_row _ _ 7 _ _ _ G4.out.arg).trans (by rw [← HCS.out]; rfl)⟩
    refine ⟨_, rfl, HS, ?_⟩
    clear HS
    try simp only [Act.put, List.setIfInBounds_toArray, List.set_cons_zero, List.set_cons_succ]
    refine FirstH.two (i := 5) (j := 12) (by kernel_rfl) (by decide) (by decide) inv (fun inv => ?_) (fun inv => ?_)
    · refine (wpOp_call (i := 5) rfl rfl 8 rfl _ rfl 33 #[.agg #[.int .u8 tn, .int .u16 tl]] (by unfold bareO; go_simp) (KP.out _ _ _) ?_)
      rintro e W5 ⟨rfl, h5⟩
      have b5 : Below W4.heap.size W4 W5 := by rw [← h5]; exact two_up _ _ _ _ _
      have G5 := Lib.hid (G4.out.on b5)
      clear h5 b5
      have HS : W5.cell? ⟨W.heap.size, 0, none⟩ = some (.int .u8 fn) ∧ W5.cell? ⟨W.heap.size, 1, none⟩ = some (.int .u16 fl) ∧ W5.cell? ⟨W.heap.size, 2, none⟩ = some (.int .u8 tn) ∧ W5.cell? ⟨W.heap.size, 3, none⟩ = some (.int .u16 tl) ∧ W5.cell? ⟨W.heap.size, 4, none⟩ = some (.int .u64 seq) ∧ W5.cell? ⟨W.heap.size, 5, none⟩ = some (.int .u64 ack) ∧ W5.cell? ⟨W.heap.size, 6, none⟩ = some (.bool has) ∧ W5.cell? ⟨W.heap.size, 7, none⟩ = some (.slice none 0 0) := ⟨(cell_of_row _ _ 0 _ _ _ G5.out.arg).trans (by rw [← HCS.out]; rfl), (cell_of_row _ _ 1 _ _ _ G5.out.arg).trans (by rw [← HCS.out]; rfl), (cell_of_row _ _ 2 _ _ _ G5.out.arg).trans (by rw [← HCS.out]; rfl), (cell_of_row _ _ 3 _ _ _ G5.out.arg).trans (by rw [← HCS.out]; rfl), (cell_of_row _ _ 4 _ _ _ G5.out.arg).trans (by rw [← HCS.out]; rfl), (cell_of_row _ _ 5 _ _ _ G5.out.arg).trans (by rw [← HCS.out]; rfl), (cell_of_row _ _ 6 _ _ _ G5.out.arg).trans (by rw [← HCS.out]; rfl), (cell_of_row _ _ 7 _ _ _ G5.out.arg).trans (by rw [← HCS.out]; rfl)⟩
      refine ⟨_, rfl, HS, ?_⟩
      clear HS
      try simp only [Act.put, List.setIfInBounds_toArray, List.set_cons_zero, List.set_cons_succ]
      refine FirstH.only (i := 12) (by kernel_rfl) (by decide) inv (fun inv => wpOp_vl (i := 12) (v := .slice (some ⟨W5.heap.size, 0, none⟩) 0 0) (w' := W5.alloc (.cells #[] 5)) rfl rfl 15 rfl _ rfl (by unfold bareO; go_simp) ?_)
      obtain ⟨W6, hW6⟩ : ∃ x, W5.alloc (.cells #[] 5) = x := ⟨_, rfl⟩
      have O6 : Hid (W6.ownsRow W5.heap.size 5 1 (.slice (some ⟨W5.heap.size, 0, none⟩) 0 0) 0 []) := Lib.hid (by rw [← hW6]; exact ⟨rfl, .inr ⟨W5.heap.size, 0, #[], rfl, Nat.le_refl _, heap_alloc_new _ _, Nat.le_refl _, by unfold maxLen; omega, rfl, rfl⟩⟩)
      have G6 : Hid (Going W cs W6) := Lib.hid (by rw [← hW6]; exact G5.out.on ((Below.refl _ _).alloc (Nat.le_refl _) _))
      have T6 := Lib.hid (G5.out.lt)
      rw [hW6]
      clear hW6
      have HS : W6.cell? ⟨W.heap.size, 0, none⟩ = some (.int .u8 fn) ∧ W6.cell? ⟨W.heap.size, 1, none⟩ = some (.int .u16 fl) ∧ W6.cell? ⟨W.heap.size, 2, none⟩ = some (.int .u8 tn) ∧ W6.cell? ⟨W.heap.size, 3, none⟩ = some (.int .u16 tl) ∧ W6.cell? ⟨W.heap.size, 4, none⟩ = some (.int .u64 seq) ∧ W6.cell? ⟨W.heap.size, 5, none⟩ = some (.int .u64 ack) ∧ W6.cell? ⟨W.heap.size, 6, none⟩ = some (.bool has) ∧ W6.cell? ⟨W.heap.size, 7, none⟩ = some (.slice none 0 0) := ⟨(cell_of_row _ _ 0 _ _ _ G6.out.arg).trans (by rw [← HCS.out]; rfl), (cell_of_row _ _ 1 _ _ _ G6.out.arg).trans (by rw [← HCS.out]; rfl), (cell_of_row _ _ 2 _ _ _ G6.out.arg).trans (by rw [← HCS.out]; rfl), (cell_of_row _ _ 3 _ _ _ G6.out.arg).trans (by rw [← HCS.out]; rfl), (cell_of_row _ _ 4 _ _ _ G6.out.arg).trans (by rw [← HCS.out]; rfl), (cell_of_row _ _ 5 _ _ _ G6.out.arg).trans (by rw [← HCS.out]; rfl), (cell_of_row _ _ 6 _ _ _ G6.out.arg).trans (by rw [← HCS.out]; rfl), (cell_of_row _ _ 7 _ _ _ G6.out.arg).trans (by rw [← HCS.out]; rfl)⟩
      refine ⟨HS, ?_⟩
      clear HS
      try simp only [Act.put, List.setIfInBounds_toArray, List.set_cons_zero, List.set_cons_succ]
      refine FirstH.only (i := 15) (by kernel_rfl) (by decide) inv (fun inv => wpOp_vl (i := 15) (v := .slice (some ⟨W5.heap.size, 0, none⟩) 0 0) (w' := W6) rfl rfl 18 rfl _ rfl (by unfold bareO; go_simp) ?_)
      have G9 := G6
      obtain ⟨W9, hW9⟩ : ∃ x, W6 = x := ⟨_, rfl⟩
      rw [hW9] at G9 ⊢
      have HS : W9.cell? ⟨W.heap.size, 0, none⟩ = some (.int .u8 fn) ∧ W9.cell? ⟨W.heap.size, 1, none⟩ = some (.int .u16 fl) ∧ W9.cell? ⟨W.heap.size, 2, none⟩ = some (.int .u8 tn) ∧ W9.cell? ⟨W.heap.size, 3, none⟩ = some (.int .u16 tl) ∧ W9.cell? ⟨W.heap.size, 4, none⟩ = some (.int .u64 seq) ∧ W9.cell? ⟨W.heap.size, 5, none⟩ = some (.int .u64 ack) ∧ W9.cell? ⟨W.heap.size, 6, none⟩ = some (.bool has) ∧ W9.cell? ⟨W.heap.size, 7, none⟩ = some (.slice none 0 0) := ⟨(cell_of_row _ _ 0 _ _ _ G9.out.arg).trans (by rw [← HCS.out]; rfl), (cell_of_row _ _ 1 _ _ _ G9.out.arg).trans (by rw [← HCS.out]; rfl), (cell_of_row _ _ 2 _ _ _ G9.out.arg).trans (by rw [← HCS.out]; rfl), (cell_of_row _ _ 3 _ _ _ G9.out.arg).trans (by rw [← HCS.out]; rfl), (cell_of_row _ _ 4 _ _ _ G9.out.arg).trans (by rw [← HCS.out]; rfl), (cell_of_row _ _ 5 _ _ _ G9.out.arg).trans (by rw [← HCS.out]; rfl), (cell_of_row _ _ 6 _ _ _ G9.out.arg).trans (by rw [← HCS.out]; rfl), (cell_of_row _ _ 7 _ _ _ G9.out.arg).trans (by rw [← HCS.out]; rfl)⟩
      refine ⟨HS, ?_⟩
      clear HS
      try simp only [Act.put, List.setIfInBounds_toArray, List.set_cons_zero, List.set_cons_succ]
      refine ⟨by kernel_rfl, ?_⟩
      simp only [List.drop_succ_cons, List.drop_zero]
      refine wpList_bd rfl 76 _ rfl #[.int .u8 fn, .int .u16 fl, .int .u8 tn, .int .u16 tl, .int .u64 seq, .int .u64 ack, .bool has, .slice (some ⟨W5.heap.size, 0, none⟩) 0 0] (by kernel_rfl) ?_
      refine wpList_store_row rfl 76 (.tmp 2) (.tmp 19) rfl (W.heap.size + 1) #[.int .u8 fn, .int .u16 fl, .int .u8 tn, .int .u16 tl, .int .u64 seq, .int .u64 ack, .bool has, .slice (some ⟨W5.heap.size, 0, none⟩) 0 0] (by rfl) (by rfl) 76 #[.int .u8 0, .int .u16 0, .int .u8 0, .int .u16 0, .int .u64 0, .int .u64 0, .bool false, .slice none 0 0] G9.out.res (by kernel_rfl) rfl (by simp [Value.oneCell']) ?_
      have ER := Lib.hid (setRow_heap W9 (W.heap.size + 1) _ #[.int .u8 fn, .int .u16 fl, .int .u8 tn, .int .u16 tl, .int .u64 seq, .int .u64 ack, .bool has, .slice (some ⟨W5.heap.size, 0, none⟩) 0 0] _ _ G9.out.res)
      go_wp2
      exact bodyPost_ret (v := .agg #[.int .u8 fn, .int .u16 fl, .int .u8 tn, .int .u16 tl, .int .u64 seq, .int .u64 ack, .bool has, .slice (some ⟨W5.heap.size, 0, none⟩) 0 0]) (results_cell_row (p := 2) (ty := 76) rfl _ _ (W.heap.size + 1) 76 #[.int .u8 fn, .int .u16 fl, .int .u8 tn, .int .u16 tl, .int .u64 seq, .int .u64 ack, .bool has, .slice (some ⟨W5.heap.size, 0, none⟩) 0 0] (0, 0) _ (by rfl) ER.out Tryz.underlying76 rfl (by kernel_rfl)) rfl ⟨_, 0, rfl, (fun h => absurd rfl h), (by unfold maxLen; omega), below_setRow G9.out.below (Nat.le_succ _) _⟩
    · refine (wpOp_vl (i := 12) (v := .slice (some ⟨W4.heap.size, 0, none⟩) 0 0) (w' := W4.alloc (.cells #[] 5)) rfl rfl 15 rfl _ rfl (by unfold bareO; go_simp) ?_)
      obtain ⟨W5, hW5⟩ : ∃ x, W4.alloc (.cells #[] 5) = x := ⟨_, rfl⟩
      have O5 : Hid (W5.ownsRow W4.heap.size 5 1 (.slice (some ⟨W4.heap.size, 0, none⟩) 0 0) 0 []) := Lib.hid (by rw [← hW5]; exact ⟨rfl, .inr ⟨W4.heap.size, 0, #[], rfl, Nat.le_refl _, heap_alloc_new _ _, Nat.le_refl _, by unfold maxLen; omega, rfl, rfl⟩⟩)
      have G5 : Hid (Going W cs W5) := Lib.hid (by rw [← hW5]; exact G4.out.on ((Below.refl _ _).alloc (Nat.le_refl _) _))
      have T5 := Lib.hid (G4.out.lt)
      rw [hW5]
      clear hW5
      have HS : W5.cell? ⟨W.heap.size, 0, none⟩ = some (.int .u8 fn) ∧ W5.cell? ⟨W.heap.size, 1, none⟩ = some (.int .u16 fl) ∧ W5.cell? ⟨W.heap.size, 2, none⟩ = some (.int .u8 tn) ∧ W5.cell? ⟨W.heap.size, 3, none⟩ = some (.int .u16 tl) ∧ W5.cell? ⟨W.heap.size, 4, none⟩ = some (.int .u64 seq) ∧ W5.cell? ⟨W.heap.size, 5, none⟩ = some (.int .u64 ack) ∧ W5.cell? ⟨W.heap.size, 6, none⟩ = some (.bool has) ∧ W5.cell? ⟨W.heap.size, 7, none⟩ = some (.slice none 0 0) := ⟨(cell_of_row _ _ 0 _ _ _ G5.out.arg).trans (by rw [← HCS.out]; rfl), (cell_of_row _ _ 1 _ _ _ G5.out.arg).trans (by rw [← HCS.out]; rfl), (cell_of_row _ _ 2 _ _ _ G5.out.arg).trans (by rw [← HCS.out]; rfl), (cell_of_row _ _ 3 _ _ _ G5.out.arg).trans (by rw [← HCS.out]; rfl), (cell_of_row _ _ 4 _ _ _ G5.out.arg).trans (by rw [← HCS.out]; rfl), (cell_of_row _ _ 5 _ _ _ G5.out.arg).trans (by rw [← HCS.out]; rfl), (cell_of_row _ _ 6 _ _ _ G5.out.arg).trans (by rw [← HCS.out]; rfl), (cell_of_row _ _ 7 _ _ _ G5.out.arg).trans (by rw [← HCS.out]; rfl)⟩
      refine ⟨HS, ?_⟩
      clear HS
      try simp only [Act.put, List.setIfInBounds_toArray, List.set_cons_zero, List.set_cons_succ]
      refine FirstH.only (i := 5) (by kernel_rfl) (by decide) inv (fun inv => wpOp_call (i := 5) rfl rfl 8 rfl _ rfl 33 #[.agg #[.int .u8 tn, .int .u16 tl]] (by unfold bareO; go_simp) (KP.out _ _ _) ?_)
      rintro e W6 ⟨rfl, h6⟩
      have b6 : Below W5.heap.size W5 W6 := by rw [← h6]; exact two_up _ _ _ _ _
      have G6 := Lib.hid (G5.out.on b6)
      have O6 := Lib.hid (own_kept' O5.out b6)
      clear h6 b6
      have HS : W6.cell? ⟨W.heap.size, 0, none⟩ = some (.int .u8 fn) ∧ W6.cell? ⟨W.heap.size, 1, none⟩ = some (.int .u16 fl) ∧ W6.cell? ⟨W.heap.size, 2, none⟩ = some (.int .u8 tn) ∧ W6.cell? ⟨W.heap.size, 3, none⟩ = some (.int .u16 tl) ∧ W6.cell? ⟨W.heap.size, 4, none⟩ = some (.int .u64 seq) ∧ W6.cell? ⟨W.heap.size, 5, none⟩ = some (.int .u64 ack) ∧ W6.cell? ⟨W.heap.size, 6, none⟩ = some (.bool has) ∧ W6.cell? ⟨W.heap.size, 7, none⟩ = some (.slice none 0 0) := ⟨(cell_of_row _ _ 0 _ _ _ G6.out.arg).trans (by rw [← HCS.out]; rfl), (cell_of_row _ _ 1 _ _ _ G6.out.arg).trans (by rw [← HCS.out]; rfl), (cell_of_row _ _ 2 _ _ _ G6.out.arg).trans (by rw [← HCS.out]; rfl), (cell_of_row _ _ 3 _ _ _ G6.out.arg).trans (by rw [← HCS.out]; rfl), (cell_of_row _ _ 4 _ _ _ G6.out.arg).trans (by rw [← HCS.out]; rfl), (cell_of_row _ _ 5 _ _ _ G6.out.arg).trans (by rw [← HCS.out]; rfl), (cell_of_row _ _ 6 _ _ _ G6.out.arg).trans (by rw [← HCS.out]; rfl), (cell_of_row _ _ 7 _ _ _ G6.out.arg).trans (by rw [← HCS.out]; rfl)⟩
      refine ⟨_, rfl, HS, ?_⟩
      clear HS
      try simp only [Act.put, List.setIfInBounds_toArray, List.set_cons_zero, List.set_cons_succ]
      refine FirstH.only (i := 15) (by kernel_rfl) (by decide) inv (fun inv => wpOp_vl (i := 15) (v := .slice (some ⟨W4.heap.size, 0, none⟩) 0 0) (w' := W6) rfl rfl 18 rfl _ rfl (by unfold bareO; go_simp) ?_)
      have G9 := G6
      obtain ⟨W9, hW9⟩ : ∃ x, W6 = x := ⟨_, rfl⟩
      rw [hW9] at G9 ⊢
      have HS : W9.cell? ⟨W.heap.size, 0, none⟩ = some (.int .u8 fn) ∧ W9.cell? ⟨W.heap.size, 1, none⟩ = some (.int .u16 fl) ∧ W9.cell? ⟨W.heap.size, 2, none⟩ = some (.int .u8 tn) ∧ W9.cell? ⟨W.heap.size, 3, none⟩ = some (.int .u16 tl) ∧ W9.cell? ⟨W.heap.size, 4, none⟩ = some (.int .u64 seq) ∧ W9.cell? ⟨W.heap.size, 5, none⟩ = some (.int .u64 ack) ∧ W9.cell? ⟨W.heap.size, 6, none⟩ = some (.bool has) ∧ W9.cell? ⟨W.heap.size, 7, none⟩ = some (.slice none 0 0) := ⟨(cell_of_row _ _ 0 _ _ _ G9.out.arg).trans (by rw [← HCS.out]; rfl), (cell_of_row _ _ 1 _ _ _ G9.out.arg).trans (by rw [← HCS.out]; rfl), (cell_of_row _ _ 2 _ _ _ G9.out.arg).trans (by rw [← HCS.out]; rfl), (cell_of_row _ _ 3 _ _ _ G9.out.arg).trans (by rw [← HCS.out]; rfl), (cell_of_row _ _ 4 _ _ _ G9.out.arg).trans (by rw [← HCS.out]; rfl), (cell_of_row _ _ 5 _ _ _ G9.out.arg).trans (by rw [← HCS.out]; rfl), (cell_of_row _ _ 6 _ _ _ G9.out.arg).trans (by rw [← HCS.out]; rfl), (cell_of_row _ _ 7 _ _ _ G9.out.arg).trans (by rw [← HCS.out]; rfl)⟩
      refine ⟨HS, ?_⟩
      clear HS
      try simp only [Act.put, List.setIfInBounds_toArray, List.set_cons_zero, List.set_cons_succ]
      refine ⟨by kernel_rfl, ?_⟩
      simp only [List.drop_succ_cons, List.drop_zero]
      refine wpList_bd rfl 76 _ rfl #[.int .u8 fn, .int .u16 fl, .int .u8 tn, .int .u16 tl, .int .u64 seq, .int .u64 ack, .bool has, .slice (some ⟨W4.heap.size, 0, none⟩) 0 0] (by kernel_rfl) ?_
      refine wpList_store_row rfl 76 (.tmp 2) (.tmp 19) rfl (W.heap.size + 1) #[.int .u8 fn, .int .u16 fl, .int .u8 tn, .int .u16 tl, .int .u64 seq, .int .u64 ack, .bool has, .slice (some ⟨W4.heap.size, 0, none⟩) 0 0] (by rfl) (by rfl) 76 #[.int .u8 0, .int .u16 0, .int .u8 0, .int .u16 0, .int .u64 0, .int .u64 0, .bool false, .slice none 0 0] G9.out.res (by kernel_rfl) rfl (by simp [Value.oneCell']) ?_
      have ER := Lib.hid (setRow_heap W9 (W.heap.size + 1) _ #[.int .u8 fn, .int .u16 fl, .int .u8 tn, .int .u16 tl, .int .u64 seq, .int .u64 ack, .bool has, .slice (some ⟨W4.heap.size, 0, none⟩) 0 0] _ _ G9.out.res)
      go_wp2
      exact bodyPost_ret (v := .agg #[.int .u8 fn, .int .u16 fl, .int .u8 tn, .int .u16 tl, .int .u64 seq, .int .u64 ack, .bool has, .slice (some ⟨W4.heap.size, 0, none⟩) 0 0]) (results_cell_row (p := 2) (ty := 76) rfl _ _ (W.heap.size + 1) 76 #[.int .u8 fn, .int .u16 fl, .int .u8 tn, .int .u16 tl, .int .u64 seq, .int .u64 ack, .bool has, .slice (some ⟨W4.heap.size, 0, none⟩) 0 0] (0, 0) _ (by rfl) ER.out Tryz.underlying76 rfl (by kernel_rfl)) rfl ⟨_, 0, rfl, (fun h => absurd rfl h), (by unfold maxLen; omega), below_setRow G9.out.below (Nat.le_succ _) _⟩
  · refine (wpOp_vl (i := 12) (v := .slice (some ⟨W3.heap.size, 0, none⟩) 0 0) (w' := W3.alloc (.cells #[] 5)) rfl rfl 15 rfl _ rfl (by unfold bareO; go_simp) ?_)
    obtain ⟨W4, hW4⟩ : ∃ x, W3.alloc (.cells #[] 5) = x := ⟨_, rfl⟩
    have O4 : Hid (W4.ownsRow W3.heap.size 5 1 (.slice (some ⟨W3.heap.size, 0, none⟩) 0 0) 0 []) := Lib.hid (by rw [← hW4]; exact ⟨rfl, .inr ⟨W3.heap.size, 0, #[], rfl, Nat.le_refl _, heap_alloc_new _ _, Nat.le_refl _, by unfold maxLen; omega, rfl, rfl⟩⟩)
    have G4 : Hid (Going W cs W4) := Lib.hid (by rw [← hW4]; exact G3.out.on ((Below.refl _ _).alloc (Nat.le_refl _) _))
    have T4 := Lib.hid (G3.out.lt)
    rw [hW4]
    clear hW4
    have HS : W4.cell? ⟨W.heap.size, 0, none⟩ = some (.int .u8 fn) ∧ W4.cell? ⟨W.heap.size, 1, none⟩ = some (.int .u16 fl) ∧ W4.cell? ⟨W.heap.size, 2, none⟩ = some (.int .u8 tn) ∧ W4.cell? ⟨W.heap.size, 3, none⟩ = some (.int .u16 tl) ∧ W4.cell? ⟨W.heap.size, 4, none⟩ = some (.int .u64 seq) ∧ W4.cell? ⟨W.heap.size, 5, none⟩ = some (.int .u64 ack) ∧ W4.cell? ⟨W.heap.size, 6, none⟩ = some (.bool has) ∧ W4.cell? ⟨W.heap.size, 7, none⟩ = some (.slice none 0 0) := ⟨(cell_of_row _ _ 0 _ _ _ G4.out.arg).trans (by rw [← HCS.out]; rfl), (cell_of_row _ _ 1 _ _ _ G4.out.arg).trans (by rw [← HCS.out]; rfl), (cell_of_row _ _ 2 _ _ _ G4.out.arg).trans (by rw [← HCS.out]; rfl), (cell_of_row _ _ 3 _ _ _ G4.out.arg).trans (by rw [← HCS.out]; rfl), (cell_of_row _ _ 4 _ _ _ G4.out.arg).trans (by rw [← HCS.out]; rfl), (cell_of_row _ _ 5 _ _ _ G4.out.arg).trans (by rw [← HCS.out]; rfl), (cell_of_row _ _ 6 _ _ _ G4.out.arg).trans (by rw [← HCS.out]; rfl), (cell_of_row _ _ 7 _ _ _ G4.out.arg).trans (by rw [← HCS.out]; rfl)⟩
    refine ⟨HS, ?_⟩
    clear HS
    try simp only [Act.put, List.setIfInBounds_toArray, List.set_cons_zero, List.set_cons_succ]
    refine FirstH.only (i := 2) (by kernel_rfl) (by decide) inv (fun inv => wpOp_call (i := 2) rfl rfl 5 rfl _ rfl 33 #[.agg #[.int .u8 fn, .int .u16 fl]] (by unfold bareO; go_simp) (KP.out _ _ _) ?_)
    rintro e W5 ⟨rfl, h5⟩
    have b5 : Below W4.heap.size W4 W5 := by rw [← h5]; exact two_up _ _ _ _ _
    have G5 := Lib.hid (G4.out.on b5)
    have O5 := Lib.hid (own_kept' O4.out b5)
    clear h5 b5
    have HS : W5.cell? ⟨W.heap.size, 0, none⟩ = some (.int .u8 fn) ∧ W5.cell? ⟨W.heap.size, 1, none⟩ = some (.int .u16 fl) ∧ W5.cell? ⟨W.heap.size, 2, none⟩ = some (.int .u8 tn) ∧ W5.cell? ⟨W.heap.size, 3, none⟩ = some (.int .u16 tl) ∧ W5.cell? ⟨W.heap.size, 4, none⟩ = some (.int .u64 seq) ∧ W5.cell? ⟨W.heap.size, 5, none⟩ = some (.int .u64 ack) ∧ W5.cell? ⟨W.heap.size, 6, none⟩ = some (.bool has) ∧ W5.cell? ⟨W.heap.size, 7, none⟩ = some (.slice none 0 0) := ⟨(cell_of_row _ _ 0 _ _ _ G5.out.arg).trans (by rw [← HCS.out]; rfl), (cell_of_row _ _ 1 _ _ _ G5.out.arg).trans (by rw [← HCS.out]; rfl), (cell_of_row _ _ 2 _ _ _ G5.out.arg).trans (by rw [← HCS.out]; rfl), (cell_of_row _ _ 3 _ _ _ G5.out.arg).trans (by rw [← HCS.out]; rfl), (cell_of_row _ _ 4 _ _ _ G5.out.arg).trans (by rw [← HCS.out]; rfl), (cell_of_row _ _ 5 _ _ _ G5.out.arg).trans (by rw [← HCS.out]; rfl), (cell_of_row _ _ 6 _ _ _ G5.out.arg).trans (by rw [← HCS.out]; rfl), (cell_of_row _ _ 7 _ _ _ G5.out.arg).trans (by rw [← HCS.out]; rfl)⟩
    refine ⟨_, rfl, HS, ?_⟩
    clear HS
    try simp only [Act.put, List.setIfInBounds_toArray, List.set_cons_zero, List.set_cons_succ]
    refine FirstH.only (i := 5) (by kernel_rfl) (by decide) inv (fun inv => wpOp_call (i := 5) rfl rfl 8 rfl _ rfl 33 #[.agg #[.int .u8 tn, .int .u16 tl]] (by unfold bareO; go_simp) (KP.out _ _ _) ?_)
    rintro e W6 ⟨rfl, h6⟩
    have b6 : Below W5.heap.size W5 W6 := by rw [← h6]; exact two_up _ _ _ _ _
    have G6 := Lib.hid (G5.out.on b6)
    have O6 := Lib.hid (own_kept' O5.out b6)
    clear h6 b6
    have HS : W6.cell? ⟨W.heap.size, 0, none⟩ = some (.int .u8 fn) ∧ W6.cell? ⟨W.heap.size, 1, none⟩ = some (.int .u16 fl) ∧ W6.cell? ⟨W.heap.size, 2, none⟩ = some (.int .u8 tn) ∧ W6.cell? ⟨W.heap.size, 3, none⟩ = some (.int .u16 tl) ∧ W6.cell? ⟨W.heap.size, 4, none⟩ = some (.int .u64 seq) ∧ W6.cell? ⟨W.heap.size, 5, none⟩ = some (.int .u64 ack) ∧ W6.cell? ⟨W.heap.size, 6, none⟩ = some (.bool has) ∧ W6.cell? ⟨W.heap.size, 7, none⟩ = some (.slice none 0 0) := ⟨(cell_of_row _ _ 0 _ _ _ G6.out.arg).trans (by rw [← HCS.out]; rfl), (cell_of_row _ _ 1 _ _ _ G6.out.arg).trans (by rw [← HCS.out]; rfl), (cell_of_row _ _ 2 _ _ _ G6.out.arg).trans (by rw [← HCS.out]; rfl), (cell_of_row _ _ 3 _ _ _ G6.out.arg).trans (by rw [← HCS.out]; rfl), (cell_of_row _ _ 4 _ _ _ G6.out.arg).trans (by rw [← HCS.out]; rfl), (cell_of_row _ _ 5 _ _ _ G6.out.arg).trans (by rw [← HCS.out]; rfl), (cell_of_row _ _ 6 _ _ _ G6.out.arg).trans (by rw [← HCS.out]; rfl), (cell_of_row _ _ 7 _ _ _ G6.out.arg).trans (by rw [← HCS.out]; rfl)⟩
    refine ⟨_, rfl, HS, ?_⟩
    clear HS
    try simp only [Act.put, List.setIfInBounds_toArray, List.set_cons_zero, List.set_cons_succ]
    refine FirstH.only (i := 15) (by kernel_rfl) (by decide) inv (fun inv => wpOp_vl (i := 15) (v := .slice (some ⟨W3.heap.size, 0, none⟩) 0 0) (w' := W6) rfl rfl 18 rfl _ rfl (by unfold bareO; go_simp) ?_)
    have G9 := G6
    obtain ⟨W9, hW9⟩ : ∃ x, W6 = x := ⟨_, rfl⟩
    rw [hW9] at G9 ⊢
    have HS : W9.cell? ⟨W.heap.size, 0, none⟩ = some (.int .u8 fn) ∧ W9.cell? ⟨W.heap.size, 1, none⟩ = some (.int .u16 fl) ∧ W9.cell? ⟨W.heap.size, 2, none⟩ = some (.int .u8 tn) ∧ W9.cell? ⟨W.heap.size, 3, none⟩ = some (.int .u16 tl) ∧ W9.cell? ⟨W.heap.size, 4, none⟩ = some (.int .u64 seq) ∧ W9.cell? ⟨W.heap.size, 5, none⟩ = some (.int .u64 ack) ∧ W9.cell? ⟨W.heap.size, 6, none⟩ = some (.bool has) ∧ W9.cell? ⟨W.heap.size, 7, none⟩ = some (.slice none 0 0) := ⟨(cell_of_row _ _ 0 _ _ _ G9.out.arg).trans (by rw [← HCS.out]; rfl), (cell_of_row _ _ 1 _ _ _ G9.out.arg).trans (by rw [← HCS.out]; rfl), (cell_of_row _ _ 2 _ _ _ G9.out.arg).trans (by rw [← HCS.out]; rfl), (cell_of_row _ _ 3 _ _ _ G9.out.arg).trans (by rw [← HCS.out]; rfl), (cell_of_row _ _ 4 _ _ _ G9.out.arg).trans (by rw [← HCS.out]; rfl), (cell_of_row _ _ 5 _ _ _ G9.out.arg).trans (by rw [← HCS.out]; rfl), (cell_of_row _ _ 6 _ _ _ G9.out.arg).trans (by rw [← HCS.out]; rfl), (cell_of_row _ _ 7 _ _ _ G9.out.arg).trans (by rw [← HCS.out]; rfl)⟩
    refine ⟨HS, ?_⟩
    clear HS
    try simp only [Act.put, List.setIfInBounds_toArray, List.set_cons_zero, List.set_cons_succ]
    refine ⟨by kernel_rfl, ?_⟩
    simp only [List.drop_succ_cons, List.drop_zero]
    refine wpList_bd rfl 76 _ rfl #[.int .u8 fn, .int .u16 fl, .int .u8 tn, .int .u16 tl, .int .u64 seq, .int .u64 ack, .bool has, .slice (some ⟨W3.heap.size, 0, none⟩) 0 0] (by kernel_rfl) ?_
    refine wpList_store_row rfl 76 (.tmp 2) (.tmp 19) rfl (W.heap.size + 1) #[.int .u8 fn, .int .u16 fl, .int .u8 tn, .int .u16 tl, .int .u64 seq, .int .u64 ack, .bool has, .slice (some ⟨W3.heap.size, 0, none⟩) 0 0] (by rfl) (by rfl) 76 #[.int .u8 0, .int .u16 0, .int .u8 0, .int .u16 0, .int .u64 0, .int .u64 0, .bool false, .slice none 0 0] G9.out.res (by kernel_rfl) rfl (by simp [Value.oneCell']) ?_
    have ER := Lib.hid (setRow_heap W9 (W.heap.size + 1) _ #[.int .u8 fn, .int .u16 fl, .int .u8 tn, .int .u16 tl, .int .u64 seq, .int .u64 ack, .bool has, .slice (some ⟨W3.heap.size, 0, none⟩) 0 0] _ _ G9.out.res)
    go_wp2
    exact bodyPost_ret (v := .agg #[.int .u8 fn, .int .u16 fl, .int .u8 tn, .int .u16 tl, .int .u64 seq, .int .u64 ack, .bool has, .slice (some ⟨W3.heap.size, 0, none⟩) 0 0]) (results_cell_row (p := 2) (ty := 76) rfl _ _ (W.heap.size + 1) 76 #[.int .u8 fn, .int .u16 fl, .int .u8 tn, .int .u16 tl, .int .u64 seq, .int .u64 ack, .bool has, .slice (some ⟨W3.heap.size, 0, none⟩) 0 0] (0, 0) _ (by rfl) ER.out Tryz.underlying76 rfl (by kernel_rfl)) rfl ⟨_, 0, rfl, (fun h => absurd rfl h), (by unfold maxLen; omega), below_setRow G9.out.below (Nat.le_succ _) _⟩

end Go.Proofs.YtkmbgehknpefiaaGreatDoor
