/-
  The walk of the law LinkPlays: no acts. No condition.
-/
import Derived.Test.YtgnfclikdfllnaaJpl
namespace Go.Proofs.Ytgnfclikdfllnaa
set_option linter.unusedSimpArgs false
set_option linter.unusedVariables false
open Go.RowKit Go.Maps Go.Sort

set_option maxRecDepth 100000 in
set_option maxHeartbeats 8000000 in
theorem walkPlaysNil (mn ml pn pl2 : Nat) (first : Nat) (again : Int) (A8 : Option Addr) (ac : Nat) (W : World) (hf : first ≤ 18446744073709551615) (ha : again ≤ 9223372036854775807) :
    Calls Try.prog 3 #[.agg #[.int .u8 mn, .int .u16 ml], .agg #[.int .u8 pn, .int .u16 pl2], .int .u64 first, .int .i64 again, .slice A8 0 ac] W fun e W' => e = .returned (.bool true) ∧ Below W.heap.size W W' := by
  obtain ⟨Wa, hWa⟩ : ∃ Y, W.alloc (.cells #[.int .u8 mn, .int .u16 ml] 24) = Y := ⟨_, rfl⟩
  have sa : Wa.heap.size = W.heap.size + 1 := by rw [← hWa]; simp
  obtain ⟨Wb, hWb⟩ : ∃ Y, Wa.alloc (.cells #[.int .u8 pn, .int .u16 pl2] 24) = Y := ⟨_, rfl⟩
  have ra : Wb.heap[W.heap.size]? = some (.cells #[.int .u8 mn, .int .u16 ml] 24 (0, 0)) := by rw [← hWb, Below.heap_alloc _ _ _ (by omega), ← hWa]; exact heap_alloc_new _ _
  have rb : Wb.heap[W.heap.size + 1]? = some (.cells #[.int .u8 pn, .int .u16 pl2] 24 (0, 0)) := by rw [← hWb, ← sa]; exact heap_alloc_new _ _
  have bb : Below W.heap.size W Wb := by rw [← hWb, ← hWa]; exact ((Below.refl _ _).alloc (Nat.le_refl _) _).alloc (by simp) _
  have KL := lightIs0 A8 ac Wb
  have KK := Lib.hid (fun w => knowsW w)
  have HWa := Lib.hid (show W.alloc (.cells #[.int .u8 mn, .int .u16 ml] 24) = Wa from hWa)
  have HWb := Lib.hid hWb
  have RA := Lib.hid ra
  have RBx := Lib.hid rb
  have BB := Lib.hid bb
  have SA := Lib.hid sa
  clear hWa hWb ra rb bb sa
  go_enter Try.func3, Try.ntmps3
  go_wp2_with (first | (rw [HWa.out]) | (rw [HWb.out]) | (go_at_call 7; refine KL.mono ?_; rintro e w1 ⟨rfl, rfl⟩; have B1 := Lib.hid (Below.refl Wb.heap.size Wb)) | (go_at_call 8; refine (KK.out _).mono ?_; rintro e w2 ⟨rfl, b2⟩; have B2 := Lib.hid b2; clear b2))
  obtain ⟨w3, hw3⟩ : ∃ Y, w2.drew = Y := ⟨_, rfl⟩
  have b3 : Below Wb.heap.size Wb w3 := by rw [← hw3]; exact (B1.out.trans (B2.out.mono B1.out.size)).drew
  have HS : w3.heap[W.heap.size]? = some (.cells #[.int .u8 mn, .int .u16 ml] 24 (0, 0)) ∧ w3.heap[W.heap.size + 1]? = some (.cells #[.int .u8 pn, .int .u16 pl2] 24 (0, 0)) := ⟨(b3.block _ (blt RA.out)).trans RA.out, (b3.block _ (blt RBx.out)).trans RBx.out⟩
  have HW3 := Lib.hid hw3
  have B3 := Lib.hid b3
  have H3 := Lib.hid HS
  clear hw3 b3 HS KL
  rw [SA.out]
  refine region_heldT (S := fun X => X.heap[W.heap.size]? = some (.cells #[.int .u8 mn, .int .u16 ml] 24 (0, 0)) ∧ X.heap[W.heap.size + 1]? = some (.cells #[.int .u8 pn, .int .u16 pl2] 24 (0, 0))) 7 (by kernel_rfl) (by decide) (fun inv => ?_)
  change FirstH _ _ _ _ _ _ _ _ _ _ w2.drew
  rw [HW3.out]
  have HS := H3.out
  refine FirstH.go (i := 0) (v := .agg #[.int .u8 mn, .int .u16 ml]) rfl rfl _ rfl _ rfl (by kernel_rfl) (fun _ _ _ h => h) inv (fun X hS => run_load_row 24 _ _ W.heap.size rfl _ _ _ _ hS.1 Try.underlying24 rfl (by kernel_rfl)) HS (fun inv => ?_)
  try simp only [Act.put, List.setIfInBounds_toArray, List.set_cons_zero, List.set_cons_succ]
  refine FirstH.go (i := 2) (v := .agg #[.int .u8 pn, .int .u16 pl2]) rfl rfl _ rfl _ rfl (by kernel_rfl) (fun _ _ _ h => h) inv (fun X hS => run_load_row 24 _ _ (W.heap.size + 1) rfl _ _ _ _ hS.2 Try.underlying24 rfl (by kernel_rfl)) HS (fun inv => ?_)
  try simp only [Act.put, List.setIfInBounds_toArray, List.set_cons_zero, List.set_cons_succ]
  refine FirstH.go (i := 4) (v := .int .u64 first) rfl rfl _ rfl _ rfl (by kernel_rfl) (fun _ _ _ h => h) inv (fun X _ => by unfold bareO; go_simp) HS (fun inv => ?_)
  try simp only [Act.put, List.setIfInBounds_toArray, List.set_cons_zero, List.set_cons_succ]
  refine FirstH.go (i := 5) (v := .int .i64 again) rfl rfl _ rfl _ rfl (by kernel_rfl) (fun _ _ _ h => h) inv (fun X _ => by unfold bareO; go_simp) HS (fun inv => ?_)
  try simp only [Act.put, List.setIfInBounds_toArray, List.set_cons_zero, List.set_cons_succ]
  clear HS
  refine FirstH.only (i := 1) (by kernel_rfl) (by decide) inv (fun inv => wpOp_call (i := 1) rfl rfl 25 rfl _ rfl 10 #[.agg #[.int .u8 mn, .int .u16 ml]] (by unfold bareO; go_simp) (toProc mn ml w3) ?_)
  rintro e w4 ⟨rfl, h4⟩
  have b4 : Below w3.heap.size w3 w4 := by rw [← h4]; exact two_up _ _ _ _ _
  have H4 := Lib.hid (⟨(b4.block _ (blt H3.out.1)).trans H3.out.1, (b4.block _ (blt H3.out.2)).trans H3.out.2⟩ : w4.heap[W.heap.size]? = some (.cells #[.int .u8 mn, .int .u16 ml] 24 (0, 0)) ∧ w4.heap[W.heap.size + 1]? = some (.cells #[.int .u8 pn, .int .u16 pl2] 24 (0, 0)))
  refine ⟨_, rfl, H4.out, ?_⟩
  have B4 := Lib.hid (B3.out.trans (b4.mono B3.out.size))
  clear h4 b4
  try simp only [Act.put, List.setIfInBounds_toArray, List.set_cons_zero, List.set_cons_succ]
  refine FirstH.only (i := 3) (by kernel_rfl) (by decide) inv (fun inv => wpOp_call (i := 3) rfl rfl 27 rfl _ rfl 10 #[.agg #[.int .u8 pn, .int .u16 pl2]] (by unfold bareO; go_simp) (toProc pn pl2 w4) ?_)
  rintro e w5 ⟨rfl, h5⟩
  have b5 : Below w4.heap.size w4 w5 := by rw [← h5]; exact two_up _ _ _ _ _
  have H5 := Lib.hid (⟨(b5.block _ (blt H4.out.1)).trans H4.out.1, (b5.block _ (blt H4.out.2)).trans H4.out.2⟩ : w5.heap[W.heap.size]? = some (.cells #[.int .u8 mn, .int .u16 ml] 24 (0, 0)) ∧ w5.heap[W.heap.size + 1]? = some (.cells #[.int .u8 pn, .int .u16 pl2] 24 (0, 0)))
  refine ⟨_, rfl, H5.out, ?_⟩
  have B5 := Lib.hid (B4.out.trans (b5.mono B4.out.size))
  clear h5 b5
  try simp only [Act.put, List.setIfInBounds_toArray, List.set_cons_zero, List.set_cons_succ]
  refine FirstH.only (i := 6) (by kernel_rfl) (by decide) inv (fun inv => wpOp_call (i := 6) rfl rfl 30 rfl _ rfl 9 #[.agg #[.int .u8 mn, .int .u16 ml], .agg #[.int .u8 pn, .int .u16 pl2], .int .u64 first, .int .i64 again] (by unfold bareO; go_simp) (newL mn ml pn pl2 first again hf ha w5) ?_)
  rintro e w6 ⟨rfl, p6, b6⟩
  refine ⟨_, rfl, ⟨(b6.block _ (blt H5.out.1)).trans H5.out.1, (b6.block _ (blt H5.out.2)).trans H5.out.2⟩, ?_⟩
  have P6 := Lib.hid p6
  have B6 := Lib.hid b6
  have r6a := (b6.block _ (blt H5.out.1)).trans H5.out.1
  have r6b := (b6.block _ (blt H5.out.2)).trans H5.out.2
  have c60 := cell_of r6a 0 (.int .u8 mn) rfl
  have c61 := cell_of r6a 1 (.int .u16 ml) rfl
  have c62 := cell_of r6b 0 (.int .u8 pn) rfl
  have c63 := cell_of r6b 1 (.int .u16 pl2) rfl
  have HME := Lib.hid H5.out.1
  have HPE := Lib.hid H5.out.2
  have KN := newD mn ml pn pl2 first again hf ha w6
  clear p6 b6 r6a r6b
  try simp only [Act.put, List.setIfInBounds_toArray, List.set_cons_zero, List.set_cons_succ]
  refine ⟨by kernel_rfl, ?_⟩
  simp only [List.drop_succ_cons, List.drop_zero]
  obtain ⟨bx, hbx⟩ : ∃ z, w5.heap.size + 3 = z := ⟨_, rfl⟩
  obtain ⟨mx, hmx⟩ : ∃ z, w5.heap.size + 2 = z := ⟨_, rfl⟩
  rw [hbx, hmx] at P6
  rw [hbx]
  clear hbx hmx
  go_wp2_with fail
  refine KN.mono ?_
  rintro e w7 ⟨rfl, d7, b7⟩
  obtain ⟨bd, hbd⟩ : ∃ z, w6.heap.size + 2 = z := ⟨_, rfl⟩
  rw [hbd] at d7 ⊢
  have J0 : Hid (JB w5 bx mx (.slice none 0 0) ⟨mn, ml, pn, pl2, max again 1, first, first, false⟩ [] [] bd (.slice none 0 0) (.slice none 0 0) [] [] 0 w7) := Lib.hid ⟨P6.out.below b7, { d7 with hb := Nat.le_trans B6.out.size d7.hb, hv := fun g hg => Nat.le_trans B6.out.size (d7.hv g hg), hw := fun g hg => Nat.le_trans B6.out.size (d7.hw g hg) }, rfl, rfl, ⟨List.Pairwise.nil, fun _ hx => (by cases hx)⟩, Nat.le_refl _, B6.out.trans (b7.mono B6.out.size)⟩
  have BW5 := Lib.hid (BB.out.trans (B5.out.mono BB.out.size))
  clear hbd d7 b7 KN c60 c61 c62 c63 inv
  go_wp2
  go_loopw [13] (fun iv wz => ∃ (i : Nat) (v : Value) (s : Sc) (L8 : List Ls) (K8 : List Kr) (v2 w2 : Value) (L9 : List Ls) (K9 : List Kr), i ≤ 0 ∧ iv = .int .i64 i ∧ Hid (JB w5 bx mx v s L8 K8 bd v2 w2 L9 K9 i wz)) (fun _ _ => 0)
  case atStart => exact ⟨0, _, _, _, _, _, _, _, _, by omega, rfl, J0⟩
  case round =>
    obtain ⟨i, v, s, L8, K8, v2, w2, L9, K9, hi, rfl, J1⟩ := hrel
    clear J0
    obtain rfl : i = 0 := by omega
    have BJ := Lib.hid (BW5.out.trans (J1.out.bl.mono BW5.out.size))
    go_wp2
    go_ret
    exact ⟨rfl, BJ.out⟩

end Go.Proofs.Ytgnfclikdfllnaa
