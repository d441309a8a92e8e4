/-
  The program's table: Clone, by a contract: a table of its own with the same in it. Condition: the table lies in memory.
-/
import Derived.Test.YtldbmmganicliaaAmg
import Derived.Test.YtldbmmganicliaaShelf
namespace Go.Proofs.Ytldbmmganicliaa
set_option linter.unusedSimpArgs false
set_option linter.unusedVariables false
open Go.RowKit Go.Maps Go.Sort

set_option maxRecDepth 100000 in
set_option maxHeartbeats 4000000 in
theorem aClone (W : World) (b m k c : Nat) (t : Tt) (h : PT W b m k c t) :
    Calls Try.prog 19 #[.pointer (some ⟨b, 0, none⟩)] W fun e W' => ∃ b' m' k' : Nat, e = .returned (.pointer (some ⟨b', 0, none⟩)) ∧ PT W' b' m' k' c t ∧ W.heap.size ≤ b' ∧ W.heap.size ≤ m' ∧ W.heap.size ≤ k' ∧ Below W.heap.size W W' := by
  have KM := Lib.hid (aMade W b m k c t h)
  obtain ⟨nn, D, hnn, O, M⟩ := h.rows
  obtain ⟨nn', D', hnn', F, MF⟩ := h.flo
  have HS0 : Hid (W.heap[b]? = some (.cells #[.int .u32 t.win, .map (some m), .map (some k)] 85 (0, 0))) := Lib.hid h.blk
  have OO := Lib.hid O
  have FF := Lib.hid F
  have MM := Lib.hid (And.intro hnn M)
  have MN := Lib.hid (And.intro hnn' MF)
  have HOK := Lib.hid h.ok
  clear h O F M MF hnn hnn'
  go_enter Try.func19, Try.ntmps19
  go_wp2_with fail
  refine KM.out.mono ?_
  rintro e w1 ⟨rfl, rfl⟩
  go_wp2_with fail
  refine region_heldT (S := fun X : World => (X.heap[b]? = some (.cells #[.int .u32 t.win, .map (some m), .map (some k)] 85 (0, 0)))) 16 (by kernel_rfl) (by decide) (fun inv => ?_)
  have HS : (W.drew.heap[b]? = some (.cells #[.int .u32 t.win, .map (some m), .map (some k)] 85 (0, 0))) := HS0.out
  have BD : Hid (Below W.heap.size W W.drew) := Lib.hid (Below.refl _ _).drew
  have O3 := Lib.hid (OO.out.kept (grown_of_below (Below.refl _ W).drew none) (by simp))
  have F3 := Lib.hid (FF.out.kept (grown_of_below (Below.refl _ W).drew none) (by simp))
  change FirstH _ _ _ _ _ _ _ _ _ _ W.drew
  generalize W.drew = wd at *
  refine FirstH.go (i := 0) (v := .pointer (some ⟨b, 0, none⟩)) rfl rfl 6 rfl (Op.move (Operand.tmp 0)) rfl (by kernel_rfl) (fun _ _ _ h => h) inv (fun W hS => by unfold bareO; go_simp) HS (fun inv => ?_)
  try simp only [Act.put, List.setIfInBounds_toArray, List.set_cons_zero, List.set_cons_succ]
  refine FirstH.go (i := 1) (v := .pointer (some ⟨b, 0, none⟩)) rfl rfl 7 rfl (Op.nilCheck (Operand.tmp 6)) rfl (by kernel_rfl) (fun _ _ _ h => h) inv (fun W hS => by unfold bareO; go_simp) HS (fun inv => ?_)
  try simp only [Act.put, List.setIfInBounds_toArray, List.set_cons_zero, List.set_cons_succ]
  refine FirstH.go (i := 2) (v := .pointer (some ⟨b, 0, none⟩)) rfl rfl 8 rfl (Op.fieldAddr 85 (Operand.tmp 7) 0) rfl (by kernel_rfl) (fun _ _ _ h => h) inv (fun W hS => by unfold bareO; go_simp) HS (fun inv => ?_)
  try simp only [Act.put, List.setIfInBounds_toArray, List.set_cons_zero, List.set_cons_succ]
  refine FirstH.go (i := 3) (v := .int .u32 t.win) rfl rfl 9 rfl (Op.load 32 (Operand.tmp 8)) rfl (by kernel_rfl) (fun _ _ _ h => h) inv (fun W hS => by have c := cell_of hS 0 (.int .u32 t.win) rfl; unfold bareO; go_simp) HS (fun inv => ?_)
  try simp only [Act.put, List.setIfInBounds_toArray, List.set_cons_zero, List.set_cons_succ]
  refine FirstH.go (i := 4) (v := .pointer (some ⟨b, 0, none⟩)) rfl rfl 10 rfl (Op.move (Operand.tmp 0)) rfl (by kernel_rfl) (fun _ _ _ h => h) inv (fun W hS => by unfold bareO; go_simp) HS (fun inv => ?_)
  try simp only [Act.put, List.setIfInBounds_toArray, List.set_cons_zero, List.set_cons_succ]
  refine FirstH.go (i := 5) (v := .pointer (some ⟨b, 0, none⟩)) rfl rfl 11 rfl (Op.nilCheck (Operand.tmp 10)) rfl (by kernel_rfl) (fun _ _ _ h => h) inv (fun W hS => by unfold bareO; go_simp) HS (fun inv => ?_)
  try simp only [Act.put, List.setIfInBounds_toArray, List.set_cons_zero, List.set_cons_succ]
  refine FirstH.go (i := 6) (v := .pointer (some ⟨b, 1, none⟩)) rfl rfl 12 rfl (Op.fieldAddr 85 (Operand.tmp 11) 1) rfl (by kernel_rfl) (fun _ _ _ h => h) inv (fun W hS => by unfold bareO; go_simp) HS (fun inv => ?_)
  try simp only [Act.put, List.setIfInBounds_toArray, List.set_cons_zero, List.set_cons_succ]
  refine FirstH.go (i := 7) (v := .map (some m)) rfl rfl 13 rfl (Op.load 82 (Operand.tmp 12)) rfl (by kernel_rfl) (fun _ _ _ h => h) inv (fun W hS => by have c := cell_of hS 1 (.map (some m)) rfl; unfold bareO; go_simp) HS (fun inv => ?_)
  try simp only [Act.put, List.setIfInBounds_toArray, List.set_cons_zero, List.set_cons_succ]
  refine FirstH.go (i := 9) (v := .pointer (some ⟨b, 0, none⟩)) rfl rfl 15 rfl (Op.move (Operand.tmp 0)) rfl (by kernel_rfl) (fun _ _ _ h => h) inv (fun W hS => by unfold bareO; go_simp) HS (fun inv => ?_)
  try simp only [Act.put, List.setIfInBounds_toArray, List.set_cons_zero, List.set_cons_succ]
  refine FirstH.go (i := 10) (v := .pointer (some ⟨b, 0, none⟩)) rfl rfl 16 rfl (Op.nilCheck (Operand.tmp 15)) rfl (by kernel_rfl) (fun _ _ _ h => h) inv (fun W hS => by unfold bareO; go_simp) HS (fun inv => ?_)
  try simp only [Act.put, List.setIfInBounds_toArray, List.set_cons_zero, List.set_cons_succ]
  refine FirstH.go (i := 11) (v := .pointer (some ⟨b, 2, none⟩)) rfl rfl 17 rfl (Op.fieldAddr 85 (Operand.tmp 16) 2) rfl (by kernel_rfl) (fun _ _ _ h => h) inv (fun W hS => by unfold bareO; go_simp) HS (fun inv => ?_)
  try simp only [Act.put, List.setIfInBounds_toArray, List.set_cons_zero, List.set_cons_succ]
  refine FirstH.go (i := 12) (v := .map (some k)) rfl rfl 18 rfl (Op.load 83 (Operand.tmp 17)) rfl (by kernel_rfl) (fun _ _ _ h => h) inv (fun W hS => by have c := cell_of hS 2 (.map (some k)) rfl; unfold bareO; go_simp) HS (fun inv => ?_)
  try simp only [Act.put, List.setIfInBounds_toArray, List.set_cons_zero, List.set_cons_succ]
  refine FirstH.only (i := 8) (by kernel_rfl) (by decide) inv (fun inv => wpOp_call (i := 8) rfl rfl 14 rfl (Op.call { callee := Callee.value (.func 45), args := #[Operand.tmp 13], argTypes := #[82] }) rfl 45 #[.map (some m)] (by unfold bareO; go_simp) (AnyW.maps_Clone_owns Try.cloneR 37 rwElem m nn D wd O3.out) ?_)
  rintro e u1 ⟨rfl, O4, _, b4⟩
  have HS1 : (u1.heap[b]? = some (.cells #[.int .u32 t.win, .map (some m), .map (some k)] 85 (0, 0))) := (b4.block _ (bltA HS)).trans HS
  have HS := HS1
  have O4 := Lib.hid O4
  have F4 := Lib.hid (F3.out.kept (grown_of_below b4 none) (by simp))
  have B4 : Hid (Below W.heap.size W u1) := Lib.hid (BD.out.trans (b4.mono BD.out.size))
  have M4 : Hid (W.heap.size ≤ wd.heap.size) := Lib.hid BD.out.size
  clear b4
  refine ⟨_, rfl, HS, ?_⟩
  try simp only [Act.put, List.setIfInBounds_toArray, List.set_cons_zero, List.set_cons_succ]
  refine FirstH.only (i := 13) (by kernel_rfl) (by decide) inv (fun inv => wpOp_call (i := 13) rfl rfl 19 rfl (Op.call { callee := Callee.value (.func 46), args := #[Operand.tmp 18], argTypes := #[83] }) rfl 46 #[.map (some k)] (by unfold bareO; go_simp) (AnyW.maps_Clone_owns Try.cloneF 31 fElem k nn' D' u1 F4.out) ?_)
  rintro e u2 ⟨rfl, F5, _, b5⟩
  have HS2 : (u2.heap[b]? = some (.cells #[.int .u32 t.win, .map (some m), .map (some k)] 85 (0, 0))) := (b5.block _ (bltA HS)).trans HS
  have HS := HS2
  have F5 := Lib.hid F5
  have O5 := Lib.hid (O4.out.kept (grown_of_below b5 none) (by simp))
  have B5 : Hid (Below W.heap.size W u2) := Lib.hid (B4.out.trans (b5.mono B4.out.size))
  have NE : Hid (wd.heap.size ≠ u1.heap.size) := Lib.hid (by have := O4.out.lt; omega)
  clear b5
  refine ⟨_, rfl, HS, ?_⟩
  try simp only [Act.put, List.setIfInBounds_toArray, List.set_cons_zero, List.set_cons_succ]
  refine FirstH.go (i := 14) (v := .agg #[.int .u32 t.win, .map (some wd.heap.size), .map (some u1.heap.size)]) rfl rfl 20 rfl (Op.build 85 #[(0, Operand.tmp 9), (1, Operand.tmp 14), (2, Operand.tmp 19)]) rfl (by kernel_rfl) (fun _ _ _ h => h) inv (fun W hS => by unfold bareO; first | (go_simp; done) | kernel_rfl) HS (fun inv => ?_)
  try simp only [Act.put, List.setIfInBounds_toArray, List.set_cons_zero, List.set_cons_succ]
  have O6 := Lib.hid (O5.out.kept (World.grownBy_alloc u2 (.cells #[.int .u32 t.win, .map (some wd.heap.size), .map (some u1.heap.size)] 85) none) (by simp))
  have F6 := Lib.hid (F5.out.kept (World.grownBy_alloc u2 (.cells #[.int .u32 t.win, .map (some wd.heap.size), .map (some u1.heap.size)] 85) none) (by simp))
  have R6 : (u2.alloc (.cells #[.int .u32 t.win, .map (some wd.heap.size), .map (some u1.heap.size)] 85)).heap[u2.heap.size]? = some (.cells #[.int .u32 t.win, .map (some wd.heap.size), .map (some u1.heap.size)] 85 (0, 0)) := heap_alloc_new _ _
  have B6 : Hid (Below W.heap.size W (u2.alloc (.cells #[.int .u32 t.win, .map (some wd.heap.size), .map (some u1.heap.size)] 85))) := Lib.hid (B5.out.alloc B5.out.size _)
  have S6 : ((u2.alloc (.cells #[.int .u32 t.win, .map (some wd.heap.size), .map (some u1.heap.size)] 85)).heap[b]? = some (.cells #[.int .u32 t.win, .map (some m), .map (some k)] 85 (0, 0))) := (Below.heap_alloc _ _ _ (bltA HS)).trans HS
  refine FirstH.only (i := 15) (by kernel_rfl) (by decide) inv (fun inv => wpOp_run (i := 15) rfl rfl 21 rfl (Op.box 85 (.tmp 20)) rfl (v := .pointer (some ⟨u2.heap.size, 0, none⟩)) (w' := u2.alloc (.cells #[.int .u32 t.win, .map (some wd.heap.size), .map (some u1.heap.size)] 85)) (by unfold bareO; first | (go_simp; done) | rfl | kernel_rfl) ?_)
  refine ⟨S6, by kernel_rfl, ?_⟩
  have R6 := Lib.hid R6
  clear S6 HS inv HS1 HS2
  simp only [Act.put, List.setIfInBounds_toArray, List.set_cons_zero, List.set_cons_succ, List.drop_succ_cons, List.drop_zero]
  generalize u2.alloc (.cells #[.int .u32 t.win, .map (some wd.heap.size), .map (some u1.heap.size)] 85) = u3 at *
  go_wp2_with fail
  go_ret
  exact ⟨_, _, _, rfl, ⟨R6.out, ⟨nn, D, MM.out.1, O6.out, MM.out.2⟩, ⟨nn', D', MN.out.1, F6.out, MN.out.2⟩, NE.out, HOK.out⟩, B5.out.size, M4.out, B4.out.size, B6.out⟩

end Go.Proofs.Ytldbmmganicliaa
