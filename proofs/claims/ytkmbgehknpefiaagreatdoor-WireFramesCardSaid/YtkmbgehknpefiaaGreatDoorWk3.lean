/-
  An Accept may be, and is put: by exact answers. Condition: the Writer lies in memory.
-/
import Derived.Test.YtkmbgehknpefiaaGreatDoorWk2
import Derived.Test.YtkmbgehknpefiaaGreatDoorWpu
import Derived.Test.YtkmbgehknpefiaaGreatDoorEfg
namespace Go.Proofs.YtkmbgehknpefiaaGreatDoor
set_option linter.unusedSimpArgs false
set_option linter.unusedVariables false
open Go.RowKit Go.Sort

theorem run_row_load {P : Program} {a : Act} {W : World} (ty t0 : TypeId) (x : Operand) (g : Nat) (hx : a.eval x = .pointer (some ⟨g, 0, none⟩)) (t : TypeId) (cs : Array Value) (fr : Nat × Nat) (d : TypeDesc) (hg : W.heap[g]? = some (.cells cs t fr))
    (hu : P.underlying ty = some d) (hd : (match d with | .struct _ | .array _ _ => true | _ => false) = true) (hi : (P.info? ty).map (·.size) = some cs.size) :
    (execOp a.eval (bareO (Op.load ty x) t0)).run P W = .ok (.value (.agg cs)) W := by
  unfold execOp bareO
  simp only [hx, Instr.loadAt, Instr.sureAddr, Sem.run_bind, Sem.run_pure, Result.andThen_ok, run_loadVar_row W g t ty cs fr d hg hu hd hi]
theorem wpList_row_loadG {P : Program} {ops : Array Oper} {rest : List Oper} {o : Oper} {a : Act} {w : World} {Q : Exit → Act → World → Prop} (ty : TypeId) (x : Operand) (ho : o.op = .load ty x) (hw : Region.wanted o (yielded ops a.tmps) = true)
    (g : Nat) (hx : a.eval x = .pointer (some ⟨g, 0, none⟩)) (t : TypeId) (cs : Array Value) (fr : Nat × Nat) (d : TypeDesc) (hg : w.heap[g]? = some (.cells cs t fr))
    (hu : P.underlying ty = some d) (hd : (match d with | .struct _ | .array _ _ => true | _ => false) = true) (hi : (P.info? ty).map (·.size) = some cs.size)
    (h : wpList P ops Q rest (a.put o.dst (.agg cs)) w) : wpList P ops Q (o :: rest) a w :=
  wpList_step fun K hK => by
    rw [if_pos hw]
    exact wp_load_row ty x ho g hx t cs fr d hg hu hd hi (hK _ _ h)

set_option maxRecDepth 100000 in
set_option maxHeartbeats 2000000 in
theorem accNumber (A : Array Value) (hA : A = aMsg) (W : World) : Calls Tryz.prog 135 #[.agg A] W fun e W' => e = .returned (.bool true) ∧ Below W.heap.size W W' := by
  obtain ⟨W1, hW1⟩ : ∃ W1, W.alloc (.cells A 59) = W1 := ⟨_, rfl⟩
  have R1 : Hid (W1.heap[W.heap.size]? = some (.cells A 59 (0, 0))) := Lib.hid (by rw [← hW1]; exact heap_alloc_new _ _)
  have B1 : Hid (Below W.heap.size W W1) := Lib.hid (by rw [← hW1]; exact (Below.refl _ _).alloc (Nat.le_refl _) _)
  have L1 : Hid (W.heap.size < W1.heap.size) := Lib.hid (by rw [← hW1]; simp)
  have HW1 := Lib.hid hW1
  have HA := Lib.hid hA
  have HAI := Lib.hid (show (Tryz.prog.info? 59).map (·.size) = some A.size by rw [hA]; kernel_rfl)
  clear hA hW1
  have c1 : W1.cell? ⟨W.heap.size, 1, none⟩ = some (.int .u8 1) := (cell_of_row _ _ 1 _ _ _ R1.out).trans (by rw [HA.out]; rfl)
  have c3 : W1.cell? ⟨W.heap.size, 3, none⟩ = some (.int .u32 2) := (cell_of_row _ _ 3 _ _ _ R1.out).trans (by rw [HA.out]; rfl)
  go_enter Tryz.func135, Tryz.ntmps135
  go_wp2_with (refine wpList_bx rfl 59 (.tmp 0) rfl 1 rfl A rfl ?_; rw [HW1.out])
  go_ret
  exact ⟨rfl, B1.out⟩

set_option maxRecDepth 100000 in
set_option maxHeartbeats 2000000 in
theorem accOwnRight (A : Array Value) (hA : A = aMsg) (W : World) : Calls Tryz.prog 77 #[.agg A] W fun e W' => e = .returned (.bool true) ∧ Below W.heap.size W W' := by
  obtain ⟨W1, hW1⟩ : ∃ W1, W.alloc (.cells A 59) = W1 := ⟨_, rfl⟩
  have R1 : Hid (W1.heap[W.heap.size]? = some (.cells A 59 (0, 0))) := Lib.hid (by rw [← hW1]; exact heap_alloc_new _ _)
  have B1 : Hid (Below W.heap.size W W1) := Lib.hid (by rw [← hW1]; exact (Below.refl _ _).alloc (Nat.le_refl _) _)
  have L1 : Hid (W.heap.size < W1.heap.size) := Lib.hid (by rw [← hW1]; simp)
  have HW1 := Lib.hid hW1
  have HA := Lib.hid hA
  have HAI := Lib.hid (show (Tryz.prog.info? 59).map (·.size) = some A.size by rw [hA]; kernel_rfl)
  have K := Lib.hid (fun w => accNumber A hA w)
  clear hA hW1
  have c0 : W1.cell? ⟨W.heap.size, 0, none⟩ = some (.int .u8 6) := (cell_of_row _ _ 0 _ _ _ R1.out).trans (by rw [HA.out]; rfl)
  have c7 : W1.cell? ⟨W.heap.size, 7, none⟩ = some (.int .u64 300) := (cell_of_row _ _ 7 _ _ _ R1.out).trans (by rw [HA.out]; rfl)
  go_enter Tryz.func77, Tryz.ntmps77
  go_wp2_with (first
    | (refine wpList_bx rfl 59 (.tmp 0) rfl 1 rfl A rfl ?_; rw [HW1.out])
    | (go_at_call 135; refine (K.out _).mono ?_; rintro e w2 ⟨rfl, b2⟩; have B2 := Lib.hid (B1.out.trans (b2.mono B1.out.size)); clear b2 c0 c7)
    | (refine wpList_row_loadG 59 (.tmp 1) rfl (by rfl) W.heap.size (by rfl) 59 A (0, 0) _ R1.out Tryz.underlying59 rfl HAI.out ?_))
  go_ret
  exact ⟨rfl, B2.out⟩

set_option maxRecDepth 100000 in
set_option maxHeartbeats 2000000 in
theorem accRight (A : Array Value) (hA : A = aMsg) (W : World) : Calls Tryz.prog 26 #[.agg A] W fun e W' => e = .returned (.bool true) ∧ Below W.heap.size W W' := by
  obtain ⟨W1, hW1⟩ : ∃ W1, W.alloc (.cells A 59) = W1 := ⟨_, rfl⟩
  have R1 : Hid (W1.heap[W.heap.size]? = some (.cells A 59 (0, 0))) := Lib.hid (by rw [← hW1]; exact heap_alloc_new _ _)
  have B1 : Hid (Below W.heap.size W W1) := Lib.hid (by rw [← hW1]; exact (Below.refl _ _).alloc (Nat.le_refl _) _)
  have L1 : Hid (W.heap.size < W1.heap.size) := Lib.hid (by rw [← hW1]; simp)
  have HW1 := Lib.hid hW1
  have HA := Lib.hid hA
  have HAI := Lib.hid (show (Tryz.prog.info? 59).map (·.size) = some A.size by rw [hA]; kernel_rfl)
  have KO := Lib.hid (fun w => accOwn A hA w)
  have KS := Lib.hid (fun w => accSame A hA w)
  have KR := Lib.hid (fun w => accOwnRight A hA w)
  clear hA hW1
  go_enter Tryz.func26, Tryz.ntmps26
  go_wp2_with (first
    | (refine wpList_bx rfl 59 (.tmp 0) rfl 1 rfl A rfl ?_; rw [HW1.out]))
  refine region_heldT (S := fun X => X.heap[W.heap.size]? = some (.cells A 59 (0, 0))) 8 (by kernel_rfl) (by decide) (fun inv => ?_)
  obtain ⟨W2, hW2⟩ : ∃ W2, W1.drew = W2 := ⟨_, rfl⟩
  have B2 : Hid (Below W.heap.size W W2) := Lib.hid (by rw [← hW2]; exact B1.out.drew)
  have R2 : Hid (W2.heap[W.heap.size]? = some (.cells A 59 (0, 0))) := Lib.hid (by rw [← hW2]; exact R1.out)
  have L2 : Hid (W.heap.size < W2.heap.size) := Lib.hid (by rw [← hW2]; exact L1.out)
  change FirstH _ _ _ _ _ _ _ _ _ _ W1.drew
  rw [hW2]
  have HS := R2.out
  refine FirstH.go (i := 0) (v := .agg A) rfl rfl _ rfl _ rfl (by kernel_rfl) (fun _ _ _ h => h) inv (fun X hS => run_row_load 59 _ (.tmp 1) W.heap.size (by rfl) 59 A (0, 0) _ hS Tryz.underlying59 rfl HAI.out) HS (fun inv => ?_)
  try simp only [Act.put, List.setIfInBounds_toArray, List.set_cons_zero, List.set_cons_succ]
  refine FirstH.go (i := 1) (v := .agg A) rfl rfl _ rfl _ rfl (by kernel_rfl) (fun _ _ _ h => h) inv (fun X hS => run_row_load 59 _ (.tmp 1) W.heap.size (by rfl) 59 A (0, 0) _ hS Tryz.underlying59 rfl HAI.out) HS (fun inv => ?_)
  try simp only [Act.put, List.setIfInBounds_toArray, List.set_cons_zero, List.set_cons_succ]
  clear HS
  refine FirstH.only (i := 2) (by kernel_rfl) (by decide) inv (fun inv => wpOp_call (i := 2) rfl rfl 5 rfl _ rfl 76 #[.agg A] (by unfold bareO; go_simp) (KO.out _) ?_)
  rintro e w3 ⟨rfl, b3⟩
  have R3 := Lib.hid ((b3.block _ L2.out).trans R2.out)
  have L3 := Lib.hid (Nat.lt_of_lt_of_le L2.out b3.size)
  have B3 := Lib.hid (B2.out.trans (b3.mono B2.out.size))
  clear b3
  refine ⟨_, rfl, R3.out, ?_⟩
  try simp only [Act.put, List.setIfInBounds_toArray, List.set_cons_zero, List.set_cons_succ]
  refine FirstH.only (i := 3) (by kernel_rfl) (by decide) inv (fun inv => wpOp_call (i := 3) rfl rfl 6 rfl _ rfl 16 #[.agg A, .agg A] (by unfold bareO; go_simp) (KS.out _) ?_)
  rintro e w4 ⟨rfl, b4⟩
  have R4 := Lib.hid ((b4.block _ L3.out).trans R3.out)
  have L4 := Lib.hid (Nat.lt_of_lt_of_le L3.out b4.size)
  have B4 := Lib.hid (B3.out.trans (b4.mono B3.out.size))
  clear b4
  have HS := R4.out
  refine ⟨_, rfl, HS, ?_⟩
  try simp only [Act.put, List.setIfInBounds_toArray, List.set_cons_zero, List.set_cons_succ]
  refine FirstH.go (i := 4) (v := .bool true) rfl rfl _ rfl _ rfl (by kernel_rfl) (fun _ _ _ h => h) inv (fun X _ => by unfold bareO; go_simp) HS (fun inv => ?_)
  try simp only [Act.put, List.setIfInBounds_toArray, List.set_cons_zero, List.set_cons_succ]
  refine FirstH.goG (i := 5) (v := .agg A) rfl (by kernel_rfl) _ rfl _ rfl (by kernel_rfl) (fun _ _ _ h => h) inv (fun X hS => run_row_load 59 _ (.tmp 1) W.heap.size (by rfl) 59 A (0, 0) _ hS Tryz.underlying59 rfl HAI.out) HS (fun inv => ?_)
  try simp only [Act.put, List.setIfInBounds_toArray, List.set_cons_zero, List.set_cons_succ]
  clear HS
  refine FirstH.only (i := 6) (by kernel_rfl) (by decide) inv (fun inv => wpOp_callG (i := 6) rfl (by kernel_rfl) 9 rfl _ rfl 77 #[.agg A] (by unfold bareO; go_simp) (KR.out _) ?_)
  rintro e w5 ⟨rfl, b5⟩
  have R5 := Lib.hid ((b5.block _ L4.out).trans R4.out)
  have B5 := Lib.hid (B4.out.trans (b5.mono B4.out.size))
  clear b5
  have HS := R5.out
  refine ⟨_, rfl, HS, ?_⟩
  try simp only [Act.put, List.setIfInBounds_toArray, List.set_cons_zero, List.set_cons_succ]
  refine FirstH.go (i := 7) (v := .bool true) rfl rfl _ rfl _ rfl (by kernel_rfl) (fun _ _ _ h => h) inv (fun X _ => by unfold bareO; go_simp) HS (fun inv => ?_)
  try simp only [Act.put, List.setIfInBounds_toArray, List.set_cons_zero, List.set_cons_succ]
  clear HS
  refine ⟨by kernel_rfl, ?_⟩
  simp only [List.drop_succ_cons, List.drop_zero]
  go_wp2
  go_ret
  exact ⟨rfl, B5.out⟩

end Go.Proofs.YtkmbgehknpefiaaGreatDoor
