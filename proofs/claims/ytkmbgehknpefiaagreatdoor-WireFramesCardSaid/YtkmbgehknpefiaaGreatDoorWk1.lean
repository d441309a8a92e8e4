/-
  What must come of an Accept: its own fields alone: by exact answers. No condition.
-/
import Derived.Test.YtkmbgehknpefiaaGreatDoorWk0
import Derived.Test.YtkmbgehknpefiaaGreatDoorEfh
import Derived.Deep.WholeRow
import Derived.Laws.Rows
import Derived.Laws.Tables
import Derived.Laws.CopyOwn
namespace Go.Proofs.YtkmbgehknpefiaaGreatDoor
set_option linter.unusedSimpArgs false
set_option linter.unusedVariables false
open Go.RowKit Go.Sort

/-- a message's cells: none set; those of the Accept; its kind alone. -/
def zMsg : Array Value := #[.int .u8 0, .int .u8 0, .int .u8 0, .int .u32 0, .int .u32 0, .int .u32 0, .int .u32 0, .int .u64 0, .int .u64 0, .int .u8 0, .int .u16 0, .int .u32 0, .int .u8 0, .int .u8 0, .int .u8 0, .int .u8 0, .int .u8 0, .int .u8 0, .int .u8 0, .slice none 0 0, .int .u8 0, .string ByteArray.empty, .int .u8 0, .int .u32 0, .slice none 0 0, .int .u8 0, .int .u16 0, .bool false, .slice none 0 0, .slice none 0 0, .slice none 0 0]
def aMsg : Array Value := #[.int .u8 6, .int .u8 1, .int .u8 0, .int .u32 2, .int .u32 0, .int .u32 0, .int .u32 0, .int .u64 300, .int .u64 0, .int .u8 0, .int .u16 0, .int .u32 0, .int .u8 0, .int .u8 0, .int .u8 0, .int .u8 0, .int .u8 0, .int .u8 0, .int .u8 0, .slice none 0 0, .int .u8 0, .string ByteArray.empty, .int .u8 0, .int .u32 0, .slice none 0 0, .int .u8 0, .int .u16 0, .bool false, .slice none 0 0, .slice none 0 0, .slice none 0 0]
def kMsg : Array Value := #[.int .u8 6, .int .u8 0, .int .u8 0, .int .u32 0, .int .u32 0, .int .u32 0, .int .u32 0, .int .u64 0, .int .u64 0, .int .u8 0, .int .u16 0, .int .u32 0, .int .u8 0, .int .u8 0, .int .u8 0, .int .u8 0, .int .u8 0, .int .u8 0, .int .u8 0, .slice none 0 0, .int .u8 0, .string ByteArray.empty, .int .u8 0, .int .u32 0, .slice none 0 0, .int .u8 0, .int .u16 0, .bool false, .slice none 0 0, .slice none 0 0, .slice none 0 0]
theorem wpList_bx {P : Program} {ops : Array Oper} {rest : List Oper} {o : Oper} {a : Act} {w : World} {Q : Exit → Act → World → Prop} (hg : o.guard = none) (t : TypeId) (x : Operand) (ho : o.op = .box t x) (d : Tmp) (hd : o.dst = some d) (cells : Array Value) (hx : a.eval x = .agg cells)
    (h : wpList P ops Q rest (a.put (some d) (.pointer (some ⟨w.heap.size, 0, none⟩))) (w.alloc (.cells cells t))) : wpList P ops Q (o :: rest) a w := by
  rw [← hd] at h
  refine wpList_plain hg fun K hK => ?_
  unfold Oper.wp execOp
  simp only [ho, hx, Value.cells, Sem.run_bind, Instr.box, newVar, newRow, run_newObj_alloc, Sem.run_pure, Result.andThen_ok]
  exact hK _ _ h
theorem msgZero : (Tryz.prog.info? 59).map (fun i => i.zero) = some (some (.agg zMsg)) := by kernel_rfl
theorem wpList_al {ops : Array Oper} {rest : List Oper} {o : Oper} {a : Act} {w : World} {Q : Exit → Act → World → Prop} (hg : o.guard = none) (ho : o.op = .alloc 59) (d : Tmp) (hd : o.dst = some d)
    (h : wpList Tryz.prog ops Q rest (a.put (some d) (.pointer (some ⟨w.heap.size, 0, none⟩))) (w.alloc (.cells zMsg 59))) : wpList Tryz.prog ops Q (o :: rest) a w := by
  rw [← hd] at h
  refine wpList_plain hg fun K hK => ?_
  have hr : (execOp a.eval (bareO (Op.alloc 59) o.type)).run Tryz.prog w = .ok (.value (.pointer (some ⟨w.heap.size, 0, none⟩))) (w.alloc (.cells zMsg 59)) := by
    unfold bareO
    go_simp
    rfl
  rw [execOp_bare ho] at hr
  unfold Oper.wp
  rw [hr, Oper.upon_value]
  exact hK _ _ h
theorem wpList_bd {P : Program} {ops : Array Oper} {rest : List Oper} {o : Oper} {a : Act} {w : World} {Q : Exit → Act → World → Prop} (hg : o.guard = none) (t : TypeId) (parts : Array (Nat × Operand)) (ho : o.op = .build t parts) (cs : Array Value)
    (hf : P.built t (parts.map fun (i, x) => (i, a.eval x)).toList = some cs)
    (h : wpList P ops Q rest (a.put o.dst (.agg cs)) w) : wpList P ops Q (o :: rest) a w := by
  refine wpList_build hg t parts ho (by rw [hf]; rfl) ?_
  rw [hf]
  exact h
/-- a store of one cell, the only operation that may come up. -/
theorem wpOp_st {P : Program} {w w' : World} {ops : Array Oper} {o : Oper} {i : Nat} {a : Act} {K : Act → World → Prop} {Q : Exit → Act → World → Prop} (hi : ops[i]? = some o) (hgd : o.guard = none) (hd : o.dst = none) (p : Op) (ho : o.op = p)
    (hr : (execOp a.eval (bareO p o.type)).run P w = .ok .skip w') (h : K a w') : wpOp P ops Q i K a w := by
  rw [execOp_bare ho] at hr
  unfold wpOp
  simp only [hi]
  rw [if_pos (by simp [Region.wanted, hgd])]
  refine .inl ?_
  unfold Oper.wp
  rw [hr, Oper.upon_skip, hd]
  exact h
theorem wpList_st' {P : Program} {w w' : World} {ops : Array Oper} {rest : List Oper} {o : Oper} {a : Act} {Q : Exit → Act → World → Prop} (hgd : o.guard = none) (hd : o.dst = none) (p : Op) (ho : o.op = p)
    (hr : (execOp a.eval (bareO p o.type)).run P w = .ok .skip w') (h : wpList P ops Q rest a w') : wpList P ops Q (o :: rest) a w :=
  wpList_plain hgd fun K hK => by
    rw [execOp_bare ho] at hr
    unfold Oper.wp
    rw [hr, Oper.upon_skip, hd]
    exact hK _ _ h

set_option maxRecDepth 100000 in
set_option maxHeartbeats 2000000 in
theorem accOwn (A : Array Value) (hA : A = aMsg) (W : World) : Calls Tryz.prog 76 #[.agg A] W fun e W' => e = .returned (.agg A) ∧ Below W.heap.size W W' := by
  obtain ⟨Zm, hZ⟩ : ∃ z, zMsg = z := ⟨_, rfl⟩
  obtain ⟨Km, hK⟩ : ∃ z, kMsg = z := ⟨_, rfl⟩
  obtain ⟨W1, hW1⟩ : ∃ W1, W.alloc (.cells A 59) = W1 := ⟨_, rfl⟩
  obtain ⟨W2, hW2⟩ : ∃ W2, W1.alloc (.cells Zm 59) = W2 := ⟨_, rfl⟩
  obtain ⟨W3, hW3⟩ : ∃ W3, W2.alloc (.cells Zm 59) = W3 := ⟨_, rfl⟩
  obtain ⟨W4, hW4⟩ : ∃ W4, W3.setRow W2.heap.size Km = W4 := ⟨_, rfl⟩
  have s1 : W1.heap.size = W.heap.size + 1 := by rw [← hW1]; simp
  have s2 : W2.heap.size = W.heap.size + 2 := by rw [← hW2]; simp [s1]
  have s3 : W3.heap.size = W.heap.size + 3 := by rw [← hW3]; simp [s2]
  have rA1 : W1.heap[W.heap.size]? = some (.cells A 59 (0, 0)) := by rw [← hW1]; exact heap_alloc_new _ _
  have rA2 : W2.heap[W.heap.size]? = some (.cells A 59 (0, 0)) := by rw [← hW2, Below.heap_alloc _ _ _ (by omega)]; exact rA1
  have rZ2 : W2.heap[W.heap.size + 1]? = some (.cells Zm 59 (0, 0)) := by rw [← hW2, ← s1]; exact heap_alloc_new _ _
  have rA3 : W3.heap[W.heap.size]? = some (.cells A 59 (0, 0)) := by rw [← hW3, Below.heap_alloc _ _ _ (by omega)]; exact rA2
  have rZ3 : W3.heap[W.heap.size + 1]? = some (.cells Zm 59 (0, 0)) := by rw [← hW3, Below.heap_alloc _ _ _ (by omega)]; exact rZ2
  have rO3 : W3.heap[W2.heap.size]? = some (.cells Zm 59 (0, 0)) := by rw [← hW3]; exact heap_alloc_new _ _
  have rA4 : W4.heap[W.heap.size]? = some (.cells A 59 (0, 0)) := by rw [← hW4, setRow_other _ _ _ _ (by omega)]; exact rA3
  have rZ4 : W4.heap[W.heap.size + 1]? = some (.cells Zm 59 (0, 0)) := by rw [← hW4, setRow_other _ _ _ _ (by omega)]; exact rZ3
  have rO4 : W4.heap[W2.heap.size]? = some (.cells Km 59 (0, 0)) := by rw [← hW4]; exact setRow_heap _ _ _ _ _ _ rO3
  have b4 : Below W.heap.size W W4 := by
    rw [← hW4, ← hW3, ← hW2, ← hW1]
    exact below_setRow ((((Below.refl _ _).alloc (Nat.le_refl _) _).alloc (by simp) _).alloc (by simp; omega) _) (by rw [← hW1] at s1; rw [← hW2, ← hW1] at s2; omega) _
  have k0 : W2.cell? ⟨W.heap.size, 0, none⟩ = some (.int .u8 6) := (cell_of_row _ _ 0 _ _ _ rA2).trans (by rw [hA]; rfl)
  have k4 : W4.cell? ⟨W.heap.size, 0, none⟩ = some (.int .u8 6) := (cell_of_row _ _ 0 _ _ _ rA4).trans (by rw [hA]; rfl)
  obtain ⟨W5, hW5⟩ : ∃ W5, W4.drew = W5 := ⟨_, rfl⟩
  obtain ⟨W6, hW6⟩ : ∃ W6, W5.setCell ⟨W2.heap.size, 1, none⟩ (.int .u8 1) = W6 := ⟨_, rfl⟩
  obtain ⟨W7, hW7⟩ : ∃ W7, W6.setCell ⟨W2.heap.size, 3, none⟩ (.int .u32 2) = W7 := ⟨_, rfl⟩
  obtain ⟨W8, hW8⟩ : ∃ W8, W7.setCell ⟨W2.heap.size, 7, none⟩ (.int .u64 300) = W8 := ⟨_, rfl⟩
  have ne0 : W.heap.size ≠ W2.heap.size := by omega
  have ne1 : W.heap.size + 1 ≠ W2.heap.size := by omega
  have rA5 : W5.heap[W.heap.size]? = some (.cells A 59 (0, 0)) := by rw [← hW5]; exact rA4
  have rZ5 : W5.heap[W.heap.size + 1]? = some (.cells Zm 59 (0, 0)) := by rw [← hW5]; exact rZ4
  have rO5 : W5.heap[W2.heap.size]? = some (.cells Km 59 (0, 0)) := by rw [← hW5]; exact rO4
  have rA6 : W6.heap[W.heap.size]? = some (.cells A 59 (0, 0)) := by rw [← hW6, Below.heap_setCell _ _ _ _ ne0]; exact rA5
  have rZ6 : W6.heap[W.heap.size + 1]? = some (.cells Zm 59 (0, 0)) := by rw [← hW6, Below.heap_setCell _ _ _ _ ne1]; exact rZ5
  have rO6 := heap_setCell_same _ _ 1 _ _ (.int .u8 1) rO5
  rw [hW6] at rO6
  have rA7 : W7.heap[W.heap.size]? = some (.cells A 59 (0, 0)) := by rw [← hW7, Below.heap_setCell _ _ _ _ ne0]; exact rA6
  have rZ7 : W7.heap[W.heap.size + 1]? = some (.cells Zm 59 (0, 0)) := by rw [← hW7, Below.heap_setCell _ _ _ _ ne1]; exact rZ6
  have rO7 := heap_setCell_same _ _ 3 _ _ (.int .u32 2) rO6
  rw [hW7] at rO7
  have rZ8 : W8.heap[W.heap.size + 1]? = some (.cells Zm 59 (0, 0)) := by rw [← hW8, Below.heap_setCell _ _ _ _ ne1]; exact rZ7
  have rO8 := heap_setCell_same _ _ 7 _ _ (.int .u64 300) rO7
  rw [hW8, show ((Km.setIfInBounds 1 (.int .u8 1)).setIfInBounds 3 (.int .u32 2)).setIfInBounds 7 (.int .u64 300) = A by rw [hA, ← hK]; rfl] at rO8
  have b8 : Below W.heap.size W W8 := by
    rw [← hW8, ← hW7, ← hW6, ← hW5]
    exact ((b4.drew.setCell (by show W.heap.size ≤ W2.heap.size; omega) _).setCell (by show W.heap.size ≤ W2.heap.size; omega) _).setCell (by show W.heap.size ≤ W2.heap.size; omega) _
  have S5 : W5.cell? ⟨W.heap.size, 1, none⟩ = some (.int .u8 1) ∧ W5.cell? ⟨W.heap.size, 3, none⟩ = some (.int .u32 2) ∧ W5.cell? ⟨W.heap.size, 7, none⟩ = some (.int .u64 300) := ⟨(cell_of_row _ _ 1 _ _ _ rA5).trans (by rw [hA]; rfl), (cell_of_row _ _ 3 _ _ _ rA5).trans (by rw [hA]; rfl), (cell_of_row _ _ 7 _ _ _ rA5).trans (by rw [hA]; rfl)⟩
  have S6 : W6.cell? ⟨W.heap.size, 1, none⟩ = some (.int .u8 1) ∧ W6.cell? ⟨W.heap.size, 3, none⟩ = some (.int .u32 2) ∧ W6.cell? ⟨W.heap.size, 7, none⟩ = some (.int .u64 300) := ⟨(cell_of_row _ _ 1 _ _ _ rA6).trans (by rw [hA]; rfl), (cell_of_row _ _ 3 _ _ _ rA6).trans (by rw [hA]; rfl), (cell_of_row _ _ 7 _ _ _ rA6).trans (by rw [hA]; rfl)⟩
  have S7 : W7.cell? ⟨W.heap.size, 1, none⟩ = some (.int .u8 1) ∧ W7.cell? ⟨W.heap.size, 3, none⟩ = some (.int .u32 2) ∧ W7.cell? ⟨W.heap.size, 7, none⟩ = some (.int .u64 300) := ⟨(cell_of_row _ _ 1 _ _ _ rA7).trans (by rw [hA]; rfl), (cell_of_row _ _ 3 _ _ _ rA7).trans (by rw [hA]; rfl), (cell_of_row _ _ 7 _ _ _ rA7).trans (by rw [hA]; rfl)⟩
  have C5 := Lib.hid (show W5.cell? ⟨W2.heap.size, 1, none⟩ = some (.int .u8 0) ∧ W5.frozen? ⟨W2.heap.size, 1, none⟩ = false from ⟨(cell_of_row _ _ 1 _ _ _ rO5).trans (by rw [← hK]; rfl), frz_row 1 rO5⟩)
  have C6 := Lib.hid (show W6.cell? ⟨W2.heap.size, 3, none⟩ = some (.int .u32 0) ∧ W6.frozen? ⟨W2.heap.size, 3, none⟩ = false from ⟨(cell_of_row _ _ 3 _ _ _ rO6).trans (by rw [← hK]; rfl), frz_row 3 rO6⟩)
  have C7 := Lib.hid (show W7.cell? ⟨W2.heap.size, 7, none⟩ = some (.int .u64 0) ∧ W7.frozen? ⟨W2.heap.size, 7, none⟩ = false from ⟨(cell_of_row _ _ 7 _ _ _ rO7).trans (by rw [← hK]; rfl), frz_row 7 rO7⟩)
  have HW5 := Lib.hid hW5
  have HW6 := Lib.hid hW6
  have HW7 := Lib.hid hW7
  have HW8 := Lib.hid hW8
  have HS5 := Lib.hid S5
  have HS6 := Lib.hid S6
  have HS7 := Lib.hid S7
  have RO8 := Lib.hid rO8
  have RZ8 := Lib.hid rZ8
  have B8 := Lib.hid b8
  have HAI := Lib.hid (show (Tryz.prog.info? 59).map (·.size) = some A.size by rw [hA]; kernel_rfl)
  have HAZ := Lib.hid (show Zm.size = A.size by rw [hA, ← hZ]; rfl)
  have HAO := Lib.hid (show A.all (·.oneCell') = true by rw [hA]; kernel_rfl)
  clear rA5 rZ5 rO5 rA6 rZ6 rO6 rA7 rZ7 rO7 rZ8 rO8 b8 S5 S6 S7 hW5 hW6 hW7 hW8 ne0 ne1
  have HKZ := Lib.hid hZ
  have HKK := Lib.hid hK
  have HA := Lib.hid hA
  have HW1 := Lib.hid hW1
  have HW2 := Lib.hid hW2
  have HW3 := Lib.hid hW3
  have HW4 := Lib.hid hW4
  have RA4 := Lib.hid rA4
  have RZ4 := Lib.hid rZ4
  have RO3 := Lib.hid rO3
  have RO4 := Lib.hid rO4
  have B4 := Lib.hid b4
  have S1 := Lib.hid s1
  have S2 := Lib.hid s2
  have HZS := Lib.hid (show Zm.size = Km.size by rw [← hZ, ← hK]; rfl)
  have HKI := Lib.hid (show (Tryz.prog.info? 59).map (·.size) = some Km.size by rw [← hK]; kernel_rfl)
  have HKO := Lib.hid (show Km.all (·.oneCell') = true by rw [← hK]; kernel_rfl)
  clear hA hZ hK hW1 hW2 hW3 hW4 rA1 rA2 rZ2 rA3 rZ3 rO3 rA4 rZ4 rO4 b4 s1 s2 s3
  go_enter Tryz.func76, Tryz.ntmps76
  go_wp2_with (first
    | (refine wpList_bx rfl 59 (.tmp 0) rfl 1 rfl A rfl ?_; rw [HW1.out])
    | (refine wpList_al rfl rfl 2 rfl ?_; rw [HKZ.out, HW2.out, S1.out])
    | (refine wpList_bd rfl 59 _ rfl Km (by rw [← HKK.out]; kernel_rfl) ?_)
    | (refine wpList_al rfl rfl 3 rfl ?_; rw [HKZ.out, HW3.out])
    | (refine wpList_store_row rfl 59 (.tmp 3) (.tmp 6) rfl W2.heap.size Km (by rfl) (by rfl) 59 Zm RO3.out HKI.out HZS.out HKO.out ?_; rw [HW4.out]))
  refine region_heldT (S := fun X => X.cell? ⟨W.heap.size, 1, none⟩ = some (.int .u8 1) ∧ X.cell? ⟨W.heap.size, 3, none⟩ = some (.int .u32 2) ∧ X.cell? ⟨W.heap.size, 7, none⟩ = some (.int .u64 300)) 11 (by kernel_rfl) (by decide) (fun inv => ?_)
  change FirstH _ _ _ _ _ _ _ _ _ _ W4.drew
  rw [HW5.out]
  have HS := HS5.out
  refine FirstH.go (i := 0) (v := .pointer (some ⟨W.heap.size, 1, none⟩)) rfl rfl _ rfl _ rfl (by kernel_rfl) (fun _ _ _ h => h) inv (fun X _ => by unfold bareO; go_simp) HS (fun inv => ?_)
  try simp only [Act.put, List.setIfInBounds_toArray, List.set_cons_zero, List.set_cons_succ]
  refine FirstH.go (i := 1) (v := .int .u8 1) rfl rfl _ rfl _ rfl (by kernel_rfl) (fun _ _ _ h => h) inv (fun X hS => by obtain ⟨l0, l1, l2⟩ := hS; unfold bareO; go_simp) HS (fun inv => ?_)
  try simp only [Act.put, List.setIfInBounds_toArray, List.set_cons_zero, List.set_cons_succ]
  refine FirstH.go (i := 2) (v := .pointer (some ⟨W.heap.size, 3, none⟩)) rfl rfl _ rfl _ rfl (by kernel_rfl) (fun _ _ _ h => h) inv (fun X _ => by unfold bareO; go_simp) HS (fun inv => ?_)
  try simp only [Act.put, List.setIfInBounds_toArray, List.set_cons_zero, List.set_cons_succ]
  refine FirstH.go (i := 3) (v := .int .u32 2) rfl rfl _ rfl _ rfl (by kernel_rfl) (fun _ _ _ h => h) inv (fun X hS => by obtain ⟨l0, l1, l2⟩ := hS; unfold bareO; go_simp) HS (fun inv => ?_)
  try simp only [Act.put, List.setIfInBounds_toArray, List.set_cons_zero, List.set_cons_succ]
  refine FirstH.go (i := 4) (v := .pointer (some ⟨W.heap.size, 7, none⟩)) rfl rfl _ rfl _ rfl (by kernel_rfl) (fun _ _ _ h => h) inv (fun X _ => by unfold bareO; go_simp) HS (fun inv => ?_)
  try simp only [Act.put, List.setIfInBounds_toArray, List.set_cons_zero, List.set_cons_succ]
  refine FirstH.go (i := 5) (v := .int .u64 300) rfl rfl _ rfl _ rfl (by kernel_rfl) (fun _ _ _ h => h) inv (fun X hS => by obtain ⟨l0, l1, l2⟩ := hS; unfold bareO; go_simp) HS (fun inv => ?_)
  try simp only [Act.put, List.setIfInBounds_toArray, List.set_cons_zero, List.set_cons_succ]
  refine FirstH.go (i := 6) (v := .pointer (some ⟨W2.heap.size, 1, none⟩)) rfl rfl _ rfl _ rfl (by kernel_rfl) (fun _ _ _ h => h) inv (fun X _ => by unfold bareO; go_simp) HS (fun inv => ?_)
  try simp only [Act.put, List.setIfInBounds_toArray, List.set_cons_zero, List.set_cons_succ]
  clear HS
  refine FirstH.only (i := 7) (by kernel_rfl) (by decide) inv (fun inv => wpOp_st (i := 7) (w' := W5.setCell ⟨W2.heap.size, 1, none⟩ (.int .u8 1)) rfl rfl rfl _ rfl (by obtain ⟨l0, l1⟩ := C5.out; unfold bareO; go_simp) ?_)
  rw [HW6.out]
  refine ⟨HS6.out, ?_⟩
  have HS := HS6.out
  refine FirstH.go (i := 8) (v := .pointer (some ⟨W2.heap.size, 3, none⟩)) rfl rfl _ rfl _ rfl (by kernel_rfl) (fun _ _ _ h => h) inv (fun X _ => by unfold bareO; go_simp) HS (fun inv => ?_)
  try simp only [Act.put, List.setIfInBounds_toArray, List.set_cons_zero, List.set_cons_succ]
  clear HS
  refine FirstH.only (i := 9) (by kernel_rfl) (by decide) inv (fun inv => wpOp_st (i := 9) (w' := W6.setCell ⟨W2.heap.size, 3, none⟩ (.int .u32 2)) rfl rfl rfl _ rfl (by obtain ⟨l0, l1⟩ := C6.out; unfold bareO; go_simp) ?_)
  rw [HW7.out]
  refine ⟨HS7.out, ?_⟩
  have HS := HS7.out
  refine FirstH.go (i := 10) (v := .pointer (some ⟨W2.heap.size, 7, none⟩)) rfl rfl _ rfl _ rfl (by kernel_rfl) (fun _ _ _ h => h) inv (fun X _ => by unfold bareO; go_simp) HS (fun inv => ?_)
  try simp only [Act.put, List.setIfInBounds_toArray, List.set_cons_zero, List.set_cons_succ]
  clear HS
  refine ⟨by kernel_rfl, ?_⟩
  simp only [List.drop_succ_cons, List.drop_zero]
  refine wpList_st' (w' := W7.setCell ⟨W2.heap.size, 7, none⟩ (.int .u64 300)) rfl rfl _ rfl (by obtain ⟨l0, l1⟩ := C7.out; unfold bareO; go_simp) ?_
  rw [HW8.out]
  go_wp2_with (first
    | (refine wpList_load_row rfl 59 (.tmp 3) rfl W2.heap.size (by rfl) 59 A (0, 0) _ RO8.out Tryz.underlying59 rfl HAI.out ?_)
    | (refine wpList_store_row rfl 59 (.tmp 2) _ rfl (W.heap.size + 1) A (by rfl) (by rfl) 59 Zm RZ8.out HAI.out HAZ.out HAO.out ?_
       have ER := Lib.hid (setRow_heap W8 (W.heap.size + 1) _ A _ _ RZ8.out)))
  exact bodyPost_ret (v := .agg A) (results_cell_row (p := 2) (ty := 59) rfl _ _ (W.heap.size + 1) 59 A (0, 0) _ (by rfl) ER.out Tryz.underlying59 rfl HAI.out) rfl ⟨rfl, below_setRow B8.out (Nat.le_succ _) _⟩

end Go.Proofs.YtkmbgehknpefiaaGreatDoor
