/-
  The walk of the law LinkPlays. Condition: the acts lie in memory.
-/
import Derived.Test.YtgnfclikdfllnaaJpl
namespace Go.Proofs.Ytgnfclikdfllnaa
set_option linter.unusedSimpArgs false
set_option linter.unusedVariables false
open Go.RowKit Go.Maps Go.Sort

set_option maxRecDepth 100000 in
set_option maxHeartbeats 8000000 in
theorem walkPlays (mn ml pn pl2 : Nat) (first : Nat) (again : Int) (ab ao ac : Nat) (LA : List Ac) (W : World) (hf : first ≤ 18446744073709551615) (ha : again ≤ 9223372036854775807) (hrow : RowsB W ab ao LA) (hac : ac ≤ maxLen) (hlc : LA.length ≤ ac) (hlight : lightB LA = true) :
    Calls Try.prog 3 #[.agg #[.int .u8 mn, .int .u16 ml], .agg #[.int .u8 pn, .int .u16 pl2], .int .u64 first, .int .i64 again, .slice (some ⟨ab, ao, none⟩) LA.length ac] W fun e W' => e = .returned (.bool true) ∧ Below W.heap.size W W' := by
  obtain ⟨Wa, hWa⟩ : ∃ Y, W.alloc (.cells #[.int .u8 mn, .int .u16 ml] 24) = Y := ⟨_, rfl⟩
  have sa : Wa.heap.size = W.heap.size + 1 := by rw [← hWa]; simp
  obtain ⟨Wb, hWb⟩ : ∃ Y, Wa.alloc (.cells #[.int .u8 pn, .int .u16 pl2] 24) = Y := ⟨_, rfl⟩
  have ra : Wb.heap[W.heap.size]? = some (.cells #[.int .u8 mn, .int .u16 ml] 24 (0, 0)) := by rw [← hWb, Below.heap_alloc _ _ _ (by omega), ← hWa]; exact heap_alloc_new _ _
  have rb : Wb.heap[W.heap.size + 1]? = some (.cells #[.int .u8 pn, .int .u16 pl2] 24 (0, 0)) := by rw [← hWb, ← sa]; exact heap_alloc_new _ _
  have bb : Below W.heap.size W Wb := by rw [← hWb, ← hWa]; exact ((Below.refl _ _).alloc (Nat.le_refl _) _).alloc (by simp) _
  have KL := lightIs ab ao ac LA Wb (hrow.below bb) hac hlc
  rw [hlight] at KL
  have KK := Lib.hid (fun w => knowsW w)
  obtain ⟨h120, hlt⟩ := lightB_each hlight
  obtain ⟨n, hn⟩ : ∃ n, LA.length = n := ⟨_, rfl⟩
  rw [hn] at KL ⊢
  have HN := Lib.hid hn
  have HN120 : Hid (n ≤ 120) := Lib.hid (by omega)
  have HLTA := Lib.hid hlt
  have HROW0 := Lib.hid hrow
  have HWa := Lib.hid (show W.alloc (.cells #[.int .u8 mn, .int .u16 ml] 24) = Wa from hWa)
  have HWb := Lib.hid hWb
  have RA := Lib.hid ra
  have RBx := Lib.hid rb
  have BB := Lib.hid bb
  have SA := Lib.hid sa
  clear hWa hWb ra rb bb hrow hlt h120 hn hlight hac hlc sa
  go_enter Try.func3, Try.ntmps3
  go_wp2_with (first | (rw [HWa.out]) | (rw [HWb.out]) | (go_at_call 7; refine KL.mono ?_; rintro e w1 ⟨rfl, b1⟩; have B1 := Lib.hid b1; clear b1) | (go_at_call 8; refine (KK.out _).mono ?_; rintro e w2 ⟨rfl, b2⟩; have B2 := Lib.hid b2; clear b2))
  obtain ⟨w3, hw3⟩ : ∃ Y, w2.drew = Y := ⟨_, rfl⟩
  have b3 : Below Wb.heap.size Wb w3 := by rw [← hw3]; exact (B1.out.trans (B2.out.mono B1.out.size)).drew
  have HS : w3.heap[W.heap.size]? = some (.cells #[.int .u8 mn, .int .u16 ml] 24 (0, 0)) ∧ w3.heap[W.heap.size + 1]? = some (.cells #[.int .u8 pn, .int .u16 pl2] 24 (0, 0)) := ⟨(b3.block _ (blt RA.out)).trans RA.out, (b3.block _ (blt RBx.out)).trans RBx.out⟩
  have HW3 := Lib.hid hw3
  have B3 := Lib.hid b3
  have H3 := Lib.hid HS
  clear hw3 b3 HS KL
  rw [SA.out]
  refine region_heldT (S := fun X => X.heap[W.heap.size]? = some (.cells #[.int .u8 mn, .int .u16 ml] 24 (0, 0)) ∧ X.heap[W.heap.size + 1]? = some (.cells #[.int .u8 pn, .int .u16 pl2] 24 (0, 0))) 7 (by kernel_rfl) (by decide) (fun inv => ?_)
  change FirstH _ _ _ _ _ _ _ _ _ _ w2.drew
  rw [HW3.out]
  have HS := H3.out
  refine FirstH.go (i := 0) (v := .agg #[.int .u8 mn, .int .u16 ml]) rfl rfl _ rfl _ rfl (by kernel_rfl) (fun _ _ _ h => h) inv (fun X hS => run_load_row 24 _ _ W.heap.size rfl _ _ _ _ hS.1 Try.underlying24 rfl (by kernel_rfl)) HS (fun inv => ?_)
  try simp only [Act.put, List.setIfInBounds_toArray, List.set_cons_zero, List.set_cons_succ]
  refine FirstH.go (i := 2) (v := .agg #[.int .u8 pn, .int .u16 pl2]) rfl rfl _ rfl _ rfl (by kernel_rfl) (fun _ _ _ h => h) inv (fun X hS => run_load_row 24 _ _ (W.heap.size + 1) rfl _ _ _ _ hS.2 Try.underlying24 rfl (by kernel_rfl)) HS (fun inv => ?_)
  try simp only [Act.put, List.setIfInBounds_toArray, List.set_cons_zero, List.set_cons_succ]
  refine FirstH.go (i := 4) (v := .int .u64 first) rfl rfl _ rfl _ rfl (by kernel_rfl) (fun _ _ _ h => h) inv (fun X _ => by unfold bareO; go_simp) HS (fun inv => ?_)
  try simp only [Act.put, List.setIfInBounds_toArray, List.set_cons_zero, List.set_cons_succ]
  refine FirstH.go (i := 5) (v := .int .i64 again) rfl rfl _ rfl _ rfl (by kernel_rfl) (fun _ _ _ h => h) inv (fun X _ => by unfold bareO; go_simp) HS (fun inv => ?_)
  try simp only [Act.put, List.setIfInBounds_toArray, List.set_cons_zero, List.set_cons_succ]
  clear HS
  refine FirstH.only (i := 1) (by kernel_rfl) (by decide) inv (fun inv => wpOp_call (i := 1) rfl rfl 25 rfl _ rfl 10 #[.agg #[.int .u8 mn, .int .u16 ml]] (by unfold bareO; go_simp) (toProc mn ml w3) ?_)
  rintro e w4 ⟨rfl, h4⟩
  have b4 : Below w3.heap.size w3 w4 := by rw [← h4]; exact two_up _ _ _ _ _
  have H4 := Lib.hid (⟨(b4.block _ (blt H3.out.1)).trans H3.out.1, (b4.block _ (blt H3.out.2)).trans H3.out.2⟩ : w4.heap[W.heap.size]? = some (.cells #[.int .u8 mn, .int .u16 ml] 24 (0, 0)) ∧ w4.heap[W.heap.size + 1]? = some (.cells #[.int .u8 pn, .int .u16 pl2] 24 (0, 0)))
  refine ⟨_, rfl, H4.out, ?_⟩
  have B4 := Lib.hid (B3.out.trans (b4.mono B3.out.size))
  clear h4 b4
  try simp only [Act.put, List.setIfInBounds_toArray, List.set_cons_zero, List.set_cons_succ]
  refine FirstH.only (i := 3) (by kernel_rfl) (by decide) inv (fun inv => wpOp_call (i := 3) rfl rfl 27 rfl _ rfl 10 #[.agg #[.int .u8 pn, .int .u16 pl2]] (by unfold bareO; go_simp) (toProc pn pl2 w4) ?_)
  rintro e w5 ⟨rfl, h5⟩
  have b5 : Below w4.heap.size w4 w5 := by rw [← h5]; exact two_up _ _ _ _ _
  have H5 := Lib.hid (⟨(b5.block _ (blt H4.out.1)).trans H4.out.1, (b5.block _ (blt H4.out.2)).trans H4.out.2⟩ : w5.heap[W.heap.size]? = some (.cells #[.int .u8 mn, .int .u16 ml] 24 (0, 0)) ∧ w5.heap[W.heap.size + 1]? = some (.cells #[.int .u8 pn, .int .u16 pl2] 24 (0, 0)))
  refine ⟨_, rfl, H5.out, ?_⟩
  have B5 := Lib.hid (B4.out.trans (b5.mono B4.out.size))
  clear h5 b5
  try simp only [Act.put, List.setIfInBounds_toArray, List.set_cons_zero, List.set_cons_succ]
  refine FirstH.only (i := 6) (by kernel_rfl) (by decide) inv (fun inv => wpOp_call (i := 6) rfl rfl 30 rfl _ rfl 9 #[.agg #[.int .u8 mn, .int .u16 ml], .agg #[.int .u8 pn, .int .u16 pl2], .int .u64 first, .int .i64 again] (by unfold bareO; go_simp) (newL mn ml pn pl2 first again hf ha w5) ?_)
  rintro e w6 ⟨rfl, p6, b6⟩
  refine ⟨_, rfl, ⟨(b6.block _ (blt H5.out.1)).trans H5.out.1, (b6.block _ (blt H5.out.2)).trans H5.out.2⟩, ?_⟩
  have P6 := Lib.hid p6
  have B6 := Lib.hid b6
  have r6a := (b6.block _ (blt H5.out.1)).trans H5.out.1
  have r6b := (b6.block _ (blt H5.out.2)).trans H5.out.2
  have c60 := cell_of r6a 0 (.int .u8 mn) rfl
  have c61 := cell_of r6a 1 (.int .u16 ml) rfl
  have c62 := cell_of r6b 0 (.int .u8 pn) rfl
  have c63 := cell_of r6b 1 (.int .u16 pl2) rfl
  have HME := Lib.hid H5.out.1
  have HPE := Lib.hid H5.out.2
  have KN := newD mn ml pn pl2 first again hf ha w6
  clear p6 b6 r6a r6b
  try simp only [Act.put, List.setIfInBounds_toArray, List.set_cons_zero, List.set_cons_succ]
  refine ⟨by kernel_rfl, ?_⟩
  simp only [List.drop_succ_cons, List.drop_zero]
  obtain ⟨bx, hbx⟩ : ∃ z, w5.heap.size + 3 = z := ⟨_, rfl⟩
  obtain ⟨mx, hmx⟩ : ∃ z, w5.heap.size + 2 = z := ⟨_, rfl⟩
  rw [hbx, hmx] at P6
  rw [hbx]
  clear hbx hmx
  go_wp2_with fail
  refine KN.mono ?_
  rintro e w7 ⟨rfl, d7, b7⟩
  obtain ⟨bd, hbd⟩ : ∃ z, w6.heap.size + 2 = z := ⟨_, rfl⟩
  rw [hbd] at d7 ⊢
  have J0 : Hid (JB w5 bx mx (.slice none 0 0) ⟨mn, ml, pn, pl2, max again 1, first, first, false⟩ [] [] bd (.slice none 0 0) (.slice none 0 0) [] [] 0 w7) := Lib.hid ⟨P6.out.below b7, { d7 with hb := Nat.le_trans B6.out.size d7.hb, hv := fun g hg => Nat.le_trans B6.out.size (d7.hv g hg), hw := fun g hg => Nat.le_trans B6.out.size (d7.hw g hg) }, rfl, rfl, ⟨List.Pairwise.nil, fun _ hx => (by cases hx)⟩, Nat.le_refl _, B6.out.trans (b7.mono B6.out.size)⟩
  have HROW := Lib.hid (HROW0.out.below (BB.out.trans (B5.out.mono BB.out.size)))
  have BW5 := Lib.hid (BB.out.trans (B5.out.mono BB.out.size))
  clear hbd d7 b7 KN c60 c61 c62 c63 inv
  go_wp2
  go_loopw [13] (fun iv wz => ∃ (i : Nat) (v : Value) (s : Sc) (L8 : List Ls) (K8 : List Kr) (v2 w2 : Value) (L9 : List Ls) (K9 : List Kr), i ≤ n ∧ iv = .int .i64 i ∧ Hid (JB w5 bx mx v s L8 K8 bd v2 w2 L9 K9 i wz)) (fun iv _ => n - (intOf iv).toNat)
  case atStart => exact ⟨0, _, _, _, _, _, _, _, _, by omega, rfl, J0⟩
  case round =>
    obtain ⟨i, v, s, L8, K8, v2, w2, L9, K9, hi, rfl, J1⟩ := hrel
    clear J0
    by_cases hin : i < n
    · have hii : (i : Int) < (n : Int) := by omega
      obtain ⟨a, hai⟩ : ∃ a, LA[i]? = some a := ⟨LA[i]'(by rw [HN.out]; exact hin), by simp [HN.out, hin]⟩
      have hrow := HROW.out.2 i a hai
      have hlt := HLTA.out a (List.mem_of_getElem? hai)
      obtain ⟨kd, at_, aB, BA, bc, ⟨fn, fl, tn, tl, sq, ak, hs, pB⟩, PA, pc⟩ := a
      obtain ⟨bl, hbl⟩ : ∃ bl, aB.length = bl := ⟨_, rfl⟩
      obtain ⟨pl, hpl⟩ : ∃ pl, pB.length = pl := ⟨_, rfl⟩
      have hcell : ∀ j u, (#[.int .i64 kd, .int .i64 at_, .slice BA bl bc, .int .u8 fn, .int .u16 fl, .int .u8 tn, .int .u16 tl, .int .u64 sq, .int .u64 ak, .bool hs, .slice PA pl pc] : Array Value)[j]? = some u → wr.cell? ⟨ab, ao + i * 11 + j, none⟩ = some u := fun j u hu => (J1.out.bl.cell (p := ⟨ab, ao + i * 11 + j, none⟩) HROW.out.1).trans (hrow.1 j u (by unfold Ac.cs; simp only [hbl, hpl]; simpa using hu))
      have c0 : wr.cell? ⟨ab, ao + i * 11, none⟩ = some (.int .i64 kd) := hcell 0 (.int .i64 kd) rfl
      have c1 : wr.cell? ⟨ab, ao + i * 11 + 1, none⟩ = some (.int .i64 at_) := hcell 1 (.int .i64 at_) rfl
      have c2 : wr.cell? ⟨ab, ao + i * 11 + 2, none⟩ = some (.slice BA bl bc) := hcell 2 (.slice BA bl bc) rfl
      have c3 : wr.cell? ⟨ab, ao + i * 11 + 3, none⟩ = some (.int .u8 fn) := hcell 3 (.int .u8 fn) rfl
      have c4 : wr.cell? ⟨ab, ao + i * 11 + 4, none⟩ = some (.int .u16 fl) := hcell 4 (.int .u16 fl) rfl
      have c5 : wr.cell? ⟨ab, ao + i * 11 + 5, none⟩ = some (.int .u8 tn) := hcell 5 (.int .u8 tn) rfl
      have c6 : wr.cell? ⟨ab, ao + i * 11 + 6, none⟩ = some (.int .u16 tl) := hcell 6 (.int .u16 tl) rfl
      have c7 : wr.cell? ⟨ab, ao + i * 11 + 7, none⟩ = some (.int .u64 sq) := hcell 7 (.int .u64 sq) rfl
      have c8 : wr.cell? ⟨ab, ao + i * 11 + 8, none⟩ = some (.int .u64 ak) := hcell 8 (.int .u64 ak) rfl
      have c9 : wr.cell? ⟨ab, ao + i * 11 + 9, none⟩ = some (.bool hs) := hcell 9 (.bool hs) rfl
      have c10 : wr.cell? ⟨ab, ao + i * 11 + 10, none⟩ = some (.slice PA pl pc) := hcell 10 (.slice PA pl pc) rfl
      have HOK := Lib.hid hrow.2.1
      have HIN := Lib.hid hrow.2.2
      have HLT := Lib.hid hlt
      have HBL := Lib.hid hbl
      have HPLN := Lib.hid hpl
      have HI120 : Hid (i ≤ 120) := Lib.hid (by have := HN120.out; omega)
      obtain ⟨W1, hW1⟩ : ∃ Y, wr.alloc (.cells #[.int .i64 0, .int .i64 0, .slice none 0 0, .int .u8 0, .int .u16 0, .int .u8 0, .int .u16 0, .int .u64 0, .int .u64 0, .bool false, .slice none 0 0] 39) = Y := ⟨_, rfl⟩
      have r1 : W1.heap[wr.heap.size]? = some (.cells #[.int .i64 0, .int .i64 0, .slice none 0 0, .int .u8 0, .int .u16 0, .int .u8 0, .int .u16 0, .int .u64 0, .int .u64 0, .bool false, .slice none 0 0] 39 (0, 0)) := by rw [← hW1]; exact heap_alloc_new _ _
      obtain ⟨W2, hW2⟩ : ∃ Y, W1.setRow wr.heap.size #[.int .i64 kd, .int .i64 at_, .slice BA bl bc, .int .u8 fn, .int .u16 fl, .int .u8 tn, .int .u16 tl, .int .u64 sq, .int .u64 ak, .bool hs, .slice PA pl pc] = Y := ⟨_, rfl⟩
      have r2 : W2.heap[wr.heap.size]? = some (.cells #[.int .i64 kd, .int .i64 at_, .slice BA bl bc, .int .u8 fn, .int .u16 fl, .int .u8 tn, .int .u16 tl, .int .u64 sq, .int .u64 ak, .bool hs, .slice PA pl pc] 39 (0, 0)) := by rw [← hW2]; exact setRow_heap _ _ _ _ _ _ r1
      have b2 : Below wr.heap.size wr W2 := by rw [← hW2, ← hW1]; exact below_row ((Below.refl _ _).alloc (Nat.le_refl _) _) (Nat.le_refl _) _
      have J2 := Lib.hid (J1.out.below b2)
      have MER : Hid (W2.heap[W.heap.size]? = some (.cells #[.int .u8 mn, .int .u16 ml] 24 (0, 0))) := Lib.hid (((J2.out.bl.block _ (blt HME.out)).trans HME.out))
      have PER : Hid (W2.heap[W.heap.size + 1]? = some (.cells #[.int .u8 pn, .int .u16 pl2] 24 (0, 0))) := Lib.hid (((J2.out.bl.block _ (blt HPE.out)).trans HPE.out))
      have HSZ : Hid (W.heap.size + 1 < wr.heap.size) := Lib.hid (Nat.lt_of_lt_of_le (blt HPE.out) J1.out.bl.size)
      have k0 := cell_of r2 0 (.int .i64 kd) rfl
      have HW1 := Lib.hid hW1
      have HW2 := Lib.hid hW2
      have R1 := Lib.hid r1
      have R2 := Lib.hid r2
      have B2 := Lib.hid b2
      clear hai hrow hlt hbl hpl hcell hW1 r1 hW2 r2 b2
      by_cases hk0 : kd = 0
      · as_aux_lemma =>
          subst hk0
          go_wp2_with (first
            | (rw [HW1.out])
            | (refine wpList_store_row rfl 39 (.tmp 14) (.tmp 45) rfl wr.heap.size #[.int .i64 0, .int .i64 at_, .slice BA bl bc, .int .u8 fn, .int .u16 fl, .int .u8 tn, .int .u16 tl, .int .u64 sq, .int .u64 ak, .bool hs, .slice PA pl pc] (by rfl) (by rfl) 39 #[.int .i64 0, .int .i64 0, .slice none 0 0, .int .u8 0, .int .u16 0, .int .u8 0, .int .u16 0, .int .u64 0, .int .u64 0, .bool false, .slice none 0 0] R1.out (by kernel_rfl) rfl (by simp [Value.oneCell']) ?_; rw [HW2.out]))
          obtain ⟨W3, hW3⟩ : ∃ Y, W2.drew = Y := ⟨_, rfl⟩
          have b3 : Below W2.heap.size W2 W3 := by rw [← hW3]; exact (Below.refl _ _).drew
          have HS : W3.heap[wr.heap.size]? = some (.cells #[.int .i64 0, .int .i64 at_, .slice BA bl bc, .int .u8 fn, .int .u16 fl, .int .u8 tn, .int .u16 tl, .int .u64 sq, .int .u64 ak, .bool hs, .slice PA pl pc] 39 (0, 0)) := by rw [← hW3]; exact R2.out
          have H3 := Lib.hid HS
          have HW3 := Lib.hid hW3
          have J3 := Lib.hid (J2.out.below b3)
          clear hW3 b3 HS k0
          have KS := sendPW _ _ _ _ _ _ _ _ _ J3.out.pl BA aB bc (HIN.out.b.below (J3.out.bl) (Nat.le_refl _) J3.out.bl.size) (by have := HLT.out.1; omega) HIN.out.bl HIN.out.bm
          simp only [HBL.out] at KS
          refine region_heldT (S := fun X => X.heap[wr.heap.size]? = some (.cells #[.int .i64 0, .int .i64 at_, .slice BA bl bc, .int .u8 fn, .int .u16 fl, .int .u8 tn, .int .u16 tl, .int .u64 sq, .int .u64 ak, .bool hs, .slice PA pl pc] 39 (0, 0))) 10 (by kernel_rfl) (by decide) (fun inv => ?_)
          change FirstH _ _ _ _ _ _ _ _ _ _ W2.drew
          rw [HW3.out]
          have HS := H3.out
          refine FirstH.go (i := 0) (v := .pointer (some ⟨bx, 0, none⟩)) rfl rfl _ rfl _ rfl (by kernel_rfl) (fun _ _ _ h => h) inv (fun X _ => by unfold bareO; go_simp) HS (fun inv => ?_)
          try simp only [Act.put, List.setIfInBounds_toArray, List.set_cons_zero, List.set_cons_succ]
          refine FirstH.go (i := 1) (v := .pointer (some ⟨wr.heap.size, 2, none⟩)) rfl rfl _ rfl _ rfl (by kernel_rfl) (fun _ _ _ h => h) inv (fun X _ => by unfold bareO; go_simp) HS (fun inv => ?_)
          try simp only [Act.put, List.setIfInBounds_toArray, List.set_cons_zero, List.set_cons_succ]
          refine FirstH.go (i := 2) (v := .slice BA bl bc) rfl rfl _ rfl _ rfl (by kernel_rfl) (fun _ _ _ h => h) inv (fun X hS => by have c2 := cell_of hS 2 (.slice BA bl bc) rfl; unfold bareO; go_simp) HS (fun inv => ?_)
          try simp only [Act.put, List.setIfInBounds_toArray, List.set_cons_zero, List.set_cons_succ]
          refine FirstH.go (i := 5) (v := .pointer (some ⟨bd, 0, none⟩)) rfl rfl _ rfl _ rfl (by kernel_rfl) (fun _ _ _ h => h) inv (fun X _ => by unfold bareO; go_simp) HS (fun inv => ?_)
          try simp only [Act.put, List.setIfInBounds_toArray, List.set_cons_zero, List.set_cons_succ]
          refine FirstH.go (i := 6) (v := .pointer (some ⟨wr.heap.size, 2, none⟩)) rfl rfl _ rfl _ rfl (by kernel_rfl) (fun _ _ _ h => h) inv (fun X _ => by unfold bareO; go_simp) HS (fun inv => ?_)
          try simp only [Act.put, List.setIfInBounds_toArray, List.set_cons_zero, List.set_cons_succ]
          refine FirstH.go (i := 7) (v := .slice BA bl bc) rfl rfl _ rfl _ rfl (by kernel_rfl) (fun _ _ _ h => h) inv (fun X hS => by have c2 := cell_of hS 2 (.slice BA bl bc) rfl; unfold bareO; go_simp) HS (fun inv => ?_)
          try simp only [Act.put, List.setIfInBounds_toArray, List.set_cons_zero, List.set_cons_succ]
          clear HS
          refine FirstH.only (i := 3) (by kernel_rfl) (by decide) inv (fun inv => wpOp_call (i := 3) rfl rfl 54 rfl _ rfl 13 #[.pointer (some ⟨bx, 0, none⟩), .slice BA bl bc] (by unfold bareO; go_simp) KS ?_)
          rintro e W4 ⟨rfl, v', L', p4, k4, e4⟩
          have r4 := (k4.block _ (blt H3.out) (J3.out.pl.nf H3.out (by decide) (by decide))).trans H3.out
          refine ⟨_, rfl, r4, ?_⟩
          have d4 := J3.out.dl.over J3.out.pl k4
          have b4 := J3.out.bl.trans (J3.out.pl.kbelow k4 J3.out.bl.size)
          have KD := sendDW _ _ _ _ _ _ _ _ d4 BA aB bc (HIN.out.b.below b4 (Nat.le_refl _) b4.size) (by have := HLT.out.1; omega) HIN.out.bn
          simp only [HBL.out] at KD
          have P4 := Lib.hid p4
          have K4 := Lib.hid k4
          have E4 := Lib.hid e4
          have R4 := Lib.hid r4
          have D4 := Lib.hid d4
          clear p4 k4 e4 r4 d4 b4 KS
          try simp only [Act.put, List.setIfInBounds_toArray, List.set_cons_zero, List.set_cons_succ]
          refine FirstH.only (i := 4) (by kernel_rfl) (by decide) inv (fun inv => wpOp_call (i := 4) rfl rfl 55 rfl _ rfl 12 #[.int .i64 (fSendR s L8.length)] (by unfold bareO; go_simp) (numE (fSendR s L8.length) W4) ?_)
          rintro e Wn ⟨rfl, rfl⟩
          refine ⟨_, rfl, R4.out, ?_⟩
          try simp only [Act.put, List.setIfInBounds_toArray, List.set_cons_zero, List.set_cons_succ]
          refine FirstH.only (i := 8) (by kernel_rfl) (by decide) inv (fun inv => wpOp_call (i := 8) rfl rfl 59 rfl _ rfl 14 #[.pointer (some ⟨bd, 0, none⟩), .slice BA bl bc] (by unfold bareO; go_simp) KD ?_)
          rintro e Wt ⟨rfl, v2', L2', d5, k5, e5⟩
          have r5 := (k5.block _ (blt R4.out) (D4.out.nf R4.out (by decide) (by decide) (by decide))).trans R4.out
          refine ⟨_, rfl, r5, ?_⟩
          have hfr : fSendR s L9.length = fSendR s L8.length := by rw [lp_len J3.out.eL]
          rw [hfr]
          have JT := Lib.hid (J3.out.sent P4.out K4.out E4.out d5 k5 e5)
          have R5 := Lib.hid r5
          clear r5 d5 k5 e5 hfr KD
          generalize fSendR s L8.length = fr
          try simp only [Act.put, List.setIfInBounds_toArray, List.set_cons_zero, List.set_cons_succ]
          have HS := R5.out
          refine FirstH.go (i := 9) (v := .bool true) rfl rfl _ rfl _ rfl (by kernel_rfl) (fun _ _ _ h => h) inv (fun X _ => by unfold bareO; go_simp) HS (fun inv => ?_)
          try simp only [Act.put, List.setIfInBounds_toArray, List.set_cons_zero, List.set_cons_succ]
          clear HS
          refine ⟨by kernel_rfl, ?_⟩
          simp only [List.drop_succ_cons, List.drop_zero]
          obtain ⟨s8, hs8⟩ : ∃ z, sSend s L8.length = z := ⟨_, rfl⟩
          rw [hs8] at JT
          clear hs8
          clear J3 P4 K4 E4 R4 D4 R5 J2
          have hll : L2'.length = L'.length := (lp_len JT.out.eL).symm
          have lk := JT.out.dl.lnk
          obtain ⟨Ar, cr, hv9, _, _, _⟩ := JT.out.dl.row.slice
          simp only [Sc.ds, hv9, hll] at lk
          have c7 := cell_of lk 7 (.slice Ar L'.length cr) rfl
          have c6 := cell_of lk 6 (.int .u64 s8.want) rfl
          have t7 := cell_regrown c7
          have t6 := cell_regrown c6
          clear c7 c6 lk hv9 hll
          have KWA : Hid (∀ d os, Calls Try.prog 22 #[.pointer (some ⟨bx, 0, none⟩)] (grow (redrawn Wt d) os) fun e w' => e = .returned (.int .i64 L'.length) ∧ Below (grow (redrawn Wt d) os).heap.size (grow (redrawn Wt d) os) w') := Lib.hid fun d os => (waitingL _ _ _ _ _ _ _ _ _ (JT.out.pl.below (below_regrown Wt d os))).mono fun _ _ ⟨he, hw⟩ => ⟨he, hw ▸ Below.refl _ _⟩
          have KID : Hid (∀ d os, Calls Try.prog 23 #[.pointer (some ⟨bx, 0, none⟩)] (grow (redrawn Wt d) os) fun e w' => e = .returned (.bool (decide (L'.length = 0))) ∧ Below (grow (redrawn Wt d) os).heap.size (grow (redrawn Wt d) os) w') := Lib.hid fun d os => (idleL _ _ _ _ _ _ _ _ _ (JT.out.pl.below (below_regrown Wt d os))).mono fun _ _ ⟨he, hw⟩ => ⟨he, hw ▸ Below.refl _ _⟩
          have KWN : Hid (∀ d os, Calls Try.prog 24 #[.pointer (some ⟨bx, 0, none⟩)] (grow (redrawn Wt d) os) fun e w' => e = .returned (.int .u64 s8.want) ∧ Below (grow (redrawn Wt d) os).heap.size (grow (redrawn Wt d) os) w') := Lib.hid fun d os => (wantL _ _ _ _ _ _ _ _ _ (JT.out.pl.below (below_regrown Wt d os))).mono fun _ _ ⟨he, hw⟩ => ⟨he, hw ▸ Below.refl _ _⟩
          obtain ⟨n8, hn8⟩ : ∃ n8, L'.length = n8 := ⟨_, rfl⟩
          obtain ⟨u8, hu8⟩ : ∃ u8, s8.want = u8 := ⟨_, rfl⟩
          rw [hn8] at KWA KID t7
          rw [hu8] at KWN t6
          clear hn8 hu8
          go_wp2
          by_cases hz8 : n8 = 0
          all_goals
            first
              | subst hz8
              | (have hz9 : ¬ (n8 : Int) = 0 := by omega
                 have hz10 : ((n8 : Int) == 0) = false := by simp; omega
                 have hz11 : decide (n8 = 0) = false := by simp; omega)
            as_aux_lemma =>
              refine wp_region_quiet_below (by kernel_rfl) (by kernel_rfl) ?_
              repeat (go_big_quiet_step (first
                | (go_at_call 22; exact Calls.regrown_of (KWA.out _ _))
                | (go_at_call 23; exact Calls.regrown_of (KID.out _ _))
                | (go_at_call 24; exact Calls.regrown_of (KWN.out _ _))
                | fail))
              refine wpQuiet_nil ?_
              rintro Wz ⟨pz, rfl⟩
              have bz := below_regrown Wt pz.d pz.os
              generalize grow (redrawn Wt pz.d) pz.os = Wz at bz ⊢
              have JZ := Lib.hid (JT.out.below bz)
              clear bz t7 t6 KWA KID KWN JT
              as_aux_lemma =>
                have h120 := HI120.out
                clear HOK HIN HLT HBL HPLN HI120
                go_wp2
                go_roundw
                case rel => exact ⟨i + 1, _, _, _, _, _, _, _, _, by omega, by go_num, JZ⟩
                case measure => simp [intOf]; omega
      · by_cases hk1 : kd = 1
        · as_aux_lemma =>
            subst hk1
            go_wp2_with (first
              | (rw [HW1.out])
              | (refine wpList_store_row rfl 39 (.tmp 14) (.tmp 45) rfl wr.heap.size #[.int .i64 1, .int .i64 at_, .slice BA bl bc, .int .u8 fn, .int .u16 fl, .int .u8 tn, .int .u16 tl, .int .u64 sq, .int .u64 ak, .bool hs, .slice PA pl pc] (by rfl) (by rfl) 39 #[.int .i64 0, .int .i64 0, .slice none 0 0, .int .u8 0, .int .u16 0, .int .u8 0, .int .u16 0, .int .u64 0, .int .u64 0, .bool false, .slice none 0 0] R1.out (by kernel_rfl) rfl (by simp [Value.oneCell']) ?_; rw [HW2.out]))
            obtain ⟨W3, hW3⟩ : ∃ Y, W2.drew = Y := ⟨_, rfl⟩
            have b3 : Below W2.heap.size W2 W3 := by rw [← hW3]; exact (Below.refl _ _).drew
            have HS : W3.heap[wr.heap.size]? = some (.cells #[.int .i64 1, .int .i64 at_, .slice BA bl bc, .int .u8 fn, .int .u16 fl, .int .u8 tn, .int .u16 tl, .int .u64 sq, .int .u64 ak, .bool hs, .slice PA pl pc] 39 (0, 0)) := by rw [← hW3]; exact R2.out
            have H3 := Lib.hid HS
            have HW3 := Lib.hid hW3
            have J3 := Lib.hid (J2.out.below b3)
            clear hW3 b3 HS k0
            have KS := sendPW _ _ _ _ _ _ _ _ _ J3.out.pl BA aB bc (HIN.out.b.below (J3.out.bl) (Nat.le_refl _) J3.out.bl.size) (by have := HLT.out.1; omega) HIN.out.bl HIN.out.bm
            simp only [HBL.out] at KS
            refine region_heldT (S := fun X => X.heap[wr.heap.size]? = some (.cells #[.int .i64 1, .int .i64 at_, .slice BA bl bc, .int .u8 fn, .int .u16 fl, .int .u8 tn, .int .u16 tl, .int .u64 sq, .int .u64 ak, .bool hs, .slice PA pl pc] 39 (0, 0))) 10 (by kernel_rfl) (by decide) (fun inv => ?_)
            change FirstH _ _ _ _ _ _ _ _ _ _ W2.drew
            rw [HW3.out]
            have HS := H3.out
            refine FirstH.go (i := 0) (v := .pointer (some ⟨bx, 0, none⟩)) rfl rfl _ rfl _ rfl (by kernel_rfl) (fun _ _ _ h => h) inv (fun X _ => by unfold bareO; go_simp) HS (fun inv => ?_)
            try simp only [Act.put, List.setIfInBounds_toArray, List.set_cons_zero, List.set_cons_succ]
            refine FirstH.go (i := 1) (v := .pointer (some ⟨wr.heap.size, 2, none⟩)) rfl rfl _ rfl _ rfl (by kernel_rfl) (fun _ _ _ h => h) inv (fun X _ => by unfold bareO; go_simp) HS (fun inv => ?_)
            try simp only [Act.put, List.setIfInBounds_toArray, List.set_cons_zero, List.set_cons_succ]
            refine FirstH.go (i := 2) (v := .slice BA bl bc) rfl rfl _ rfl _ rfl (by kernel_rfl) (fun _ _ _ h => h) inv (fun X hS => by have c2 := cell_of hS 2 (.slice BA bl bc) rfl; unfold bareO; go_simp) HS (fun inv => ?_)
            try simp only [Act.put, List.setIfInBounds_toArray, List.set_cons_zero, List.set_cons_succ]
            refine FirstH.go (i := 5) (v := .pointer (some ⟨bd, 0, none⟩)) rfl rfl _ rfl _ rfl (by kernel_rfl) (fun _ _ _ h => h) inv (fun X _ => by unfold bareO; go_simp) HS (fun inv => ?_)
            try simp only [Act.put, List.setIfInBounds_toArray, List.set_cons_zero, List.set_cons_succ]
            refine FirstH.go (i := 6) (v := .pointer (some ⟨wr.heap.size, 2, none⟩)) rfl rfl _ rfl _ rfl (by kernel_rfl) (fun _ _ _ h => h) inv (fun X _ => by unfold bareO; go_simp) HS (fun inv => ?_)
            try simp only [Act.put, List.setIfInBounds_toArray, List.set_cons_zero, List.set_cons_succ]
            refine FirstH.go (i := 7) (v := .slice BA bl bc) rfl rfl _ rfl _ rfl (by kernel_rfl) (fun _ _ _ h => h) inv (fun X hS => by have c2 := cell_of hS 2 (.slice BA bl bc) rfl; unfold bareO; go_simp) HS (fun inv => ?_)
            try simp only [Act.put, List.setIfInBounds_toArray, List.set_cons_zero, List.set_cons_succ]
            clear HS
            refine FirstH.only (i := 3) (by kernel_rfl) (by decide) inv (fun inv => wpOp_call (i := 3) rfl rfl 54 rfl _ rfl 13 #[.pointer (some ⟨bx, 0, none⟩), .slice BA bl bc] (by unfold bareO; go_simp) KS ?_)
            rintro e W4 ⟨rfl, v', L', p4, k4, e4⟩
            have r4 := (k4.block _ (blt H3.out) (J3.out.pl.nf H3.out (by decide) (by decide))).trans H3.out
            refine ⟨_, rfl, r4, ?_⟩
            have d4 := J3.out.dl.over J3.out.pl k4
            have b4 := J3.out.bl.trans (J3.out.pl.kbelow k4 J3.out.bl.size)
            have KD := sendDW _ _ _ _ _ _ _ _ d4 BA aB bc (HIN.out.b.below b4 (Nat.le_refl _) b4.size) (by have := HLT.out.1; omega) HIN.out.bn
            simp only [HBL.out] at KD
            have P4 := Lib.hid p4
            have K4 := Lib.hid k4
            have E4 := Lib.hid e4
            have R4 := Lib.hid r4
            have D4 := Lib.hid d4
            clear p4 k4 e4 r4 d4 b4 KS
            try simp only [Act.put, List.setIfInBounds_toArray, List.set_cons_zero, List.set_cons_succ]
            refine FirstH.only (i := 4) (by kernel_rfl) (by decide) inv (fun inv => wpOp_call (i := 4) rfl rfl 55 rfl _ rfl 12 #[.int .i64 (fSendR s L8.length)] (by unfold bareO; go_simp) (numE (fSendR s L8.length) W4) ?_)
            rintro e Wn ⟨rfl, rfl⟩
            refine ⟨_, rfl, R4.out, ?_⟩
            try simp only [Act.put, List.setIfInBounds_toArray, List.set_cons_zero, List.set_cons_succ]
            refine FirstH.only (i := 8) (by kernel_rfl) (by decide) inv (fun inv => wpOp_call (i := 8) rfl rfl 59 rfl _ rfl 14 #[.pointer (some ⟨bd, 0, none⟩), .slice BA bl bc] (by unfold bareO; go_simp) KD ?_)
            rintro e Wt ⟨rfl, v2', L2', d5, k5, e5⟩
            have r5 := (k5.block _ (blt R4.out) (D4.out.nf R4.out (by decide) (by decide) (by decide))).trans R4.out
            refine ⟨_, rfl, r5, ?_⟩
            have hfr : fSendR s L9.length = fSendR s L8.length := by rw [lp_len J3.out.eL]
            rw [hfr]
            have JT := Lib.hid (J3.out.sent P4.out K4.out E4.out d5 k5 e5)
            have R5 := Lib.hid r5
            clear r5 d5 k5 e5 hfr KD
            generalize fSendR s L8.length = fr
            try simp only [Act.put, List.setIfInBounds_toArray, List.set_cons_zero, List.set_cons_succ]
            have HS := R5.out
            refine FirstH.go (i := 9) (v := .bool true) rfl rfl _ rfl _ rfl (by kernel_rfl) (fun _ _ _ h => h) inv (fun X _ => by unfold bareO; go_simp) HS (fun inv => ?_)
            try simp only [Act.put, List.setIfInBounds_toArray, List.set_cons_zero, List.set_cons_succ]
            clear HS
            refine ⟨by kernel_rfl, ?_⟩
            simp only [List.drop_succ_cons, List.drop_zero]
            obtain ⟨s8, hs8⟩ : ∃ z, sSend s L8.length = z := ⟨_, rfl⟩
            rw [hs8] at JT
            clear hs8
            clear J3 P4 K4 E4 R4 D4 R5 J2
            have hll : L2'.length = L'.length := (lp_len JT.out.eL).symm
            have lk := JT.out.dl.lnk
            obtain ⟨Ar, cr, hv9, _, _, _⟩ := JT.out.dl.row.slice
            simp only [Sc.ds, hv9, hll] at lk
            have c7 := cell_of lk 7 (.slice Ar L'.length cr) rfl
            have c6 := cell_of lk 6 (.int .u64 s8.want) rfl
            have t7 := cell_regrown c7
            have t6 := cell_regrown c6
            clear c7 c6 lk hv9 hll
            have KWA : Hid (∀ d os, Calls Try.prog 22 #[.pointer (some ⟨bx, 0, none⟩)] (grow (redrawn Wt d) os) fun e w' => e = .returned (.int .i64 L'.length) ∧ Below (grow (redrawn Wt d) os).heap.size (grow (redrawn Wt d) os) w') := Lib.hid fun d os => (waitingL _ _ _ _ _ _ _ _ _ (JT.out.pl.below (below_regrown Wt d os))).mono fun _ _ ⟨he, hw⟩ => ⟨he, hw ▸ Below.refl _ _⟩
            have KID : Hid (∀ d os, Calls Try.prog 23 #[.pointer (some ⟨bx, 0, none⟩)] (grow (redrawn Wt d) os) fun e w' => e = .returned (.bool (decide (L'.length = 0))) ∧ Below (grow (redrawn Wt d) os).heap.size (grow (redrawn Wt d) os) w') := Lib.hid fun d os => (idleL _ _ _ _ _ _ _ _ _ (JT.out.pl.below (below_regrown Wt d os))).mono fun _ _ ⟨he, hw⟩ => ⟨he, hw ▸ Below.refl _ _⟩
            have KWN : Hid (∀ d os, Calls Try.prog 24 #[.pointer (some ⟨bx, 0, none⟩)] (grow (redrawn Wt d) os) fun e w' => e = .returned (.int .u64 s8.want) ∧ Below (grow (redrawn Wt d) os).heap.size (grow (redrawn Wt d) os) w') := Lib.hid fun d os => (wantL _ _ _ _ _ _ _ _ _ (JT.out.pl.below (below_regrown Wt d os))).mono fun _ _ ⟨he, hw⟩ => ⟨he, hw ▸ Below.refl _ _⟩
            obtain ⟨n8, hn8⟩ : ∃ n8, L'.length = n8 := ⟨_, rfl⟩
            obtain ⟨u8, hu8⟩ : ∃ u8, s8.want = u8 := ⟨_, rfl⟩
            rw [hn8] at KWA KID t7
            rw [hu8] at KWN t6
            clear hn8 hu8
            go_wp2
            by_cases hz8 : n8 = 0
            all_goals
              first
                | subst hz8
                | (have hz9 : ¬ (n8 : Int) = 0 := by omega
                   have hz10 : ((n8 : Int) == 0) = false := by simp; omega
                   have hz11 : decide (n8 = 0) = false := by simp; omega)
              as_aux_lemma =>
                refine wp_region_quiet_below (by kernel_rfl) (by kernel_rfl) ?_
                repeat (go_big_quiet_step (first
                  | (go_at_call 22; exact Calls.regrown_of (KWA.out _ _))
                  | (go_at_call 23; exact Calls.regrown_of (KID.out _ _))
                  | (go_at_call 24; exact Calls.regrown_of (KWN.out _ _))
                  | fail))
                refine wpQuiet_nil ?_
                rintro Wz ⟨pz, rfl⟩
                have bz := below_regrown Wt pz.d pz.os
                generalize grow (redrawn Wt pz.d) pz.os = Wz at bz ⊢
                have JZ := Lib.hid (JT.out.below bz)
                clear bz t7 t6 KWA KID KWN JT
                as_aux_lemma =>
                  have h120 := HI120.out
                  clear HOK HIN HLT HBL HPLN HI120
                  go_wp2
                  go_roundw
                  case rel => exact ⟨i + 1, _, _, _, _, _, _, _, _, by omega, by go_num, JZ⟩
                  case measure => simp [intOf]; omega
        · by_cases hk2 : kd = 2
          · as_aux_lemma =>
              subst hk2
              go_wp2_with (first
                | (rw [HW1.out])
                | (refine wpList_store_row rfl 39 (.tmp 14) (.tmp 45) rfl wr.heap.size #[.int .i64 2, .int .i64 at_, .slice BA bl bc, .int .u8 fn, .int .u16 fl, .int .u8 tn, .int .u16 tl, .int .u64 sq, .int .u64 ak, .bool hs, .slice PA pl pc] (by rfl) (by rfl) 39 #[.int .i64 0, .int .i64 0, .slice none 0 0, .int .u8 0, .int .u16 0, .int .u8 0, .int .u16 0, .int .u64 0, .int .u64 0, .bool false, .slice none 0 0] R1.out (by kernel_rfl) rfl (by simp [Value.oneCell']) ?_; rw [HW2.out]))
              obtain ⟨W3, hW3⟩ : ∃ Y, W2.drew = Y := ⟨_, rfl⟩
              have b3 : Below W2.heap.size W2 W3 := by rw [← hW3]; exact (Below.refl _ _).drew
              have HS : W3.heap[wr.heap.size]? = some (.cells #[.int .i64 2, .int .i64 at_, .slice BA bl bc, .int .u8 fn, .int .u16 fl, .int .u8 tn, .int .u16 tl, .int .u64 sq, .int .u64 ak, .bool hs, .slice PA pl pc] 39 (0, 0)) := by rw [← hW3]; exact R2.out
              have H3 := Lib.hid HS
              have HW3 := Lib.hid hW3
              have J3 := Lib.hid (J2.out.below b3)
              clear hW3 b3 HS k0
              have KS := outW _ _ _ _ _ _ _ _ _ J3.out.pl at_ HOK.out.1
              refine region_heldT (S := fun X => X.heap[wr.heap.size]? = some (.cells #[.int .i64 2, .int .i64 at_, .slice BA bl bc, .int .u8 fn, .int .u16 fl, .int .u8 tn, .int .u16 tl, .int .u64 sq, .int .u64 ak, .bool hs, .slice PA pl pc] 39 (0, 0))) 9 (by kernel_rfl) (by decide) (fun inv => ?_)
              change FirstH _ _ _ _ _ _ _ _ _ _ W2.drew
              rw [HW3.out]
              have HS := H3.out
              refine FirstH.go (i := 0) (v := .pointer (some ⟨bx, 0, none⟩)) rfl rfl _ rfl _ rfl (by kernel_rfl) (fun _ _ _ h => h) inv (fun X _ => by unfold bareO; go_simp) HS (fun inv => ?_)
              try simp only [Act.put, List.setIfInBounds_toArray, List.set_cons_zero, List.set_cons_succ]
              refine FirstH.go (i := 1) (v := .pointer (some ⟨wr.heap.size, 1, none⟩)) rfl rfl _ rfl _ rfl (by kernel_rfl) (fun _ _ _ h => h) inv (fun X _ => by unfold bareO; go_simp) HS (fun inv => ?_)
              try simp only [Act.put, List.setIfInBounds_toArray, List.set_cons_zero, List.set_cons_succ]
              refine FirstH.go (i := 2) (v := .int .i64 at_) rfl rfl _ rfl _ rfl (by kernel_rfl) (fun _ _ _ h => h) inv (fun X hS => by have c1 := cell_of hS 1 (.int .i64 at_) rfl; unfold bareO; go_simp) HS (fun inv => ?_)
              try simp only [Act.put, List.setIfInBounds_toArray, List.set_cons_zero, List.set_cons_succ]
              refine FirstH.go (i := 4) (v := .pointer (some ⟨bd, 0, none⟩)) rfl rfl _ rfl _ rfl (by kernel_rfl) (fun _ _ _ h => h) inv (fun X _ => by unfold bareO; go_simp) HS (fun inv => ?_)
              try simp only [Act.put, List.setIfInBounds_toArray, List.set_cons_zero, List.set_cons_succ]
              refine FirstH.go (i := 5) (v := .pointer (some ⟨wr.heap.size, 1, none⟩)) rfl rfl _ rfl _ rfl (by kernel_rfl) (fun _ _ _ h => h) inv (fun X _ => by unfold bareO; go_simp) HS (fun inv => ?_)
              try simp only [Act.put, List.setIfInBounds_toArray, List.set_cons_zero, List.set_cons_succ]
              refine FirstH.go (i := 6) (v := .int .i64 at_) rfl rfl _ rfl _ rfl (by kernel_rfl) (fun _ _ _ h => h) inv (fun X hS => by have c1 := cell_of hS 1 (.int .i64 at_) rfl; unfold bareO; go_simp) HS (fun inv => ?_)
              try simp only [Act.put, List.setIfInBounds_toArray, List.set_cons_zero, List.set_cons_succ]
              clear HS
              refine FirstH.only (i := 3) (by kernel_rfl) (by decide) inv (fun inv => wpOp_call (i := 3) rfl rfl 66 rfl _ rfl 16 #[.pointer (some ⟨bx, 0, none⟩), .int .i64 at_] (by unfold bareO; go_simp) KS ?_)
              rintro e W4 hr
              unfold OutR at hr
              obtain ⟨pv, P1, rfl, row4, ok4, eq4, p4, k4⟩ := hr
              have r4 := (k4.block _ (blt H3.out) (J3.out.pl.nf H3.out (by decide) (by decide))).trans H3.out
              refine ⟨_, rfl, r4, ?_⟩
              have d4 := J3.out.dl.over J3.out.pl k4
              have KD := outDW _ _ _ _ _ _ _ _ d4 at_ HOK.out.1
              have P4 := Lib.hid p4
              have K4 := Lib.hid k4
              have ROW4 := Lib.hid row4
              have OK4 := Lib.hid ok4
              have EQ4 := Lib.hid eq4
              have R4 := Lib.hid r4
              have D4 := Lib.hid d4
              clear p4 k4 row4 ok4 eq4 r4 d4 KS
              try simp only [Act.put, List.setIfInBounds_toArray, List.set_cons_zero, List.set_cons_succ]
              refine FirstH.only (i := 7) (by kernel_rfl) (by decide) inv (fun inv => wpOp_call (i := 7) rfl rfl 70 rfl _ rfl 17 #[.pointer (some ⟨bd, 0, none⟩), .int .i64 at_] (by unfold bareO; go_simp) KD ?_)
              rintro e W5 hr
              unfold OutDR at hr
              obtain ⟨pv2, P2, rfl, row5, ok5, eq5, d5, k5⟩ := hr
              have r5 := (k5.block _ (blt R4.out) (D4.out.nf R4.out (by decide) (by decide) (by decide))).trans R4.out
              refine ⟨_, rfl, r5, ?_⟩
              have row4' : W5.ownsRow W3.heap.size 53 8 pv P1.length (flat Pk.cs P1) := owns_keepB ROW4.out fun g hg => by
                obtain ⟨cu, hcu⟩ := row_block ROW4.out hg
                exact k5.block g (blt hcu) (D4.out.nf hcu (by decide) (by decide) (by decide))
              have ok4' : ∀ x ∈ P1, x.b.Ok W5 := fun x hx => (OK4.out x hx).keepK k5 D4.out.u8
              have he : P1.map Pk.pu = P2.map Pk.pu := by rw [EQ4.out, eq5, fOut_p J3.out.eL]
              have hlen : P1.length ≤ 1000 := by
                have h1 := congrArg List.length EQ4.out
                rw [List.length_map] at h1
                rw [h1]
                unfold fOut
                split
                · simp
                · rw [List.length_map]
                  unfold dueL'
                  have := List.length_filter_le (fun x : Ls => dueB x.told x.at_ at_ s.again) (L8.take 8)
                  rw [List.length_take] at this
                  omega
              have KP2 := packetsW W5 W3.heap.size W4.heap.size pv pv2 P1 P2 row4' row5 ok4' ok5 he hlen
              have j5 := J3.out.outd P4.out K4.out d5 k5
              have J5 := Lib.hid j5
              have R5 := Lib.hid r5
              clear r5 d5 k5 row5 ok5 eq5 row4' ok4' he hlen j5 KD
              try simp only [Act.put, List.setIfInBounds_toArray, List.set_cons_zero, List.set_cons_succ]
              refine FirstH.only (i := 8) (by kernel_rfl) (by decide) inv (fun inv => wpOp_call (i := 8) rfl rfl 71 rfl _ rfl 15 #[pv, pv2] (by unfold bareO; go_simp) KP2 ?_)
              rintro e Wt ⟨rfl, b6⟩
              refine ⟨_, rfl, (b6.block _ (blt R5.out)).trans R5.out, ?_⟩
              have JT := Lib.hid (J5.out.below b6)
              clear b6 KP2
              try simp only [Act.put, List.setIfInBounds_toArray, List.set_cons_zero, List.set_cons_succ]
              refine ⟨by kernel_rfl, ?_⟩
              simp only [List.drop_succ_cons, List.drop_zero]
              clear J3 P4 K4 EQ4 ROW4 OK4 R4 D4 R5 J5 J2
              obtain ⟨s8, hs8⟩ : ∃ z, { s with owed := false } = z := ⟨_, rfl⟩
              rw [hs8] at JT
              clear hs8
              obtain ⟨M8, hM8⟩ : ∃ z, outL at_ s.again L8 8 = z := ⟨_, rfl⟩
              rw [hM8] at JT
              clear hM8
              obtain ⟨M9, hM9⟩ : ∃ z, outL at_ s.again L9 8 = z := ⟨_, rfl⟩
              rw [hM9] at JT
              clear hM9
              have hll : M9.length = M8.length := (lp_len JT.out.eL).symm
              have lk := JT.out.dl.lnk
              obtain ⟨Ar, cr, hv9, _, _, _⟩ := JT.out.dl.row.slice
              simp only [Sc.ds, hv9, hll] at lk
              have c7 := cell_of lk 7 (.slice Ar M8.length cr) rfl
              have c6 := cell_of lk 6 (.int .u64 s8.want) rfl
              have t7 := cell_regrown c7
              have t6 := cell_regrown c6
              clear c7 c6 lk hv9 hll
              have KWA : Hid (∀ d os, Calls Try.prog 22 #[.pointer (some ⟨bx, 0, none⟩)] (grow (redrawn Wt d) os) fun e w' => e = .returned (.int .i64 M8.length) ∧ Below (grow (redrawn Wt d) os).heap.size (grow (redrawn Wt d) os) w') := Lib.hid fun d os => (waitingL _ _ _ _ _ _ _ _ _ (JT.out.pl.below (below_regrown Wt d os))).mono fun _ _ ⟨he, hw⟩ => ⟨he, hw ▸ Below.refl _ _⟩
              have KID : Hid (∀ d os, Calls Try.prog 23 #[.pointer (some ⟨bx, 0, none⟩)] (grow (redrawn Wt d) os) fun e w' => e = .returned (.bool (decide (M8.length = 0))) ∧ Below (grow (redrawn Wt d) os).heap.size (grow (redrawn Wt d) os) w') := Lib.hid fun d os => (idleL _ _ _ _ _ _ _ _ _ (JT.out.pl.below (below_regrown Wt d os))).mono fun _ _ ⟨he, hw⟩ => ⟨he, hw ▸ Below.refl _ _⟩
              have KWN : Hid (∀ d os, Calls Try.prog 24 #[.pointer (some ⟨bx, 0, none⟩)] (grow (redrawn Wt d) os) fun e w' => e = .returned (.int .u64 s8.want) ∧ Below (grow (redrawn Wt d) os).heap.size (grow (redrawn Wt d) os) w') := Lib.hid fun d os => (wantL _ _ _ _ _ _ _ _ _ (JT.out.pl.below (below_regrown Wt d os))).mono fun _ _ ⟨he, hw⟩ => ⟨he, hw ▸ Below.refl _ _⟩
              obtain ⟨n8, hn8⟩ : ∃ n8, M8.length = n8 := ⟨_, rfl⟩
              obtain ⟨u8, hu8⟩ : ∃ u8, s8.want = u8 := ⟨_, rfl⟩
              rw [hn8] at KWA KID t7
              rw [hu8] at KWN t6
              clear hn8 hu8
              go_wp2
              by_cases hz8 : n8 = 0
              all_goals
                first
                  | subst hz8
                  | (have hz9 : ¬ (n8 : Int) = 0 := by omega
                     have hz10 : ((n8 : Int) == 0) = false := by simp; omega
                     have hz11 : decide (n8 = 0) = false := by simp; omega)
                as_aux_lemma =>
                  refine wp_region_quiet_below (by kernel_rfl) (by kernel_rfl) ?_
                  repeat (go_big_quiet_step (first
                    | (go_at_call 22; exact Calls.regrown_of (KWA.out _ _))
                    | (go_at_call 23; exact Calls.regrown_of (KID.out _ _))
                    | (go_at_call 24; exact Calls.regrown_of (KWN.out _ _))
                    | fail))
                  refine wpQuiet_nil ?_
                  rintro Wz ⟨pz, rfl⟩
                  have bz := below_regrown Wt pz.d pz.os
                  generalize grow (redrawn Wt pz.d) pz.os = Wz at bz ⊢
                  have JZ := Lib.hid (JT.out.below bz)
                  clear bz t7 t6 KWA KID KWN JT
                  as_aux_lemma =>
                    have h120 := HI120.out
                    clear HOK HIN HLT HBL HPLN HI120
                    go_wp2
                    go_roundw
                    case rel => exact ⟨i + 1, _, _, _, _, _, _, _, _, by omega, by go_num, JZ⟩
                    case measure => simp [intOf]; omega
          · by_cases hk3 : kd = 3
            · as_aux_lemma =>
                subst hk3
                go_wp2_with (first
                  | (rw [HW1.out])
                  | (refine wpList_store_row rfl 39 (.tmp 14) (.tmp 45) rfl wr.heap.size #[.int .i64 3, .int .i64 at_, .slice BA bl bc, .int .u8 fn, .int .u16 fl, .int .u8 tn, .int .u16 tl, .int .u64 sq, .int .u64 ak, .bool hs, .slice PA pl pc] (by rfl) (by rfl) 39 #[.int .i64 0, .int .i64 0, .slice none 0 0, .int .u8 0, .int .u16 0, .int .u8 0, .int .u16 0, .int .u64 0, .int .u64 0, .bool false, .slice none 0 0] R1.out (by kernel_rfl) rfl (by simp [Value.oneCell']) ?_; rw [HW2.out]))
                obtain ⟨W3, hW3⟩ : ∃ Y, W2.drew = Y := ⟨_, rfl⟩
                have b3 : Below W2.heap.size W2 W3 := by rw [← hW3]; exact (Below.refl _ _).drew
                have HS : W3.heap[wr.heap.size]? = some (.cells #[.int .i64 3, .int .i64 at_, .slice BA bl bc, .int .u8 fn, .int .u16 fl, .int .u8 tn, .int .u16 tl, .int .u64 sq, .int .u64 ak, .bool hs, .slice PA pl pc] 39 (0, 0)) := by rw [← hW3]; exact R2.out
                have H3 := Lib.hid HS
                have HW3 := Lib.hid hW3
                have J3 := Lib.hid (J2.out.below b3)
                clear hW3 b3 HS k0
                have HSQ : Hid (sq ≤ 18446744073709551615) := Lib.hid HOK.out.2.1
                have KPK := packW ⟨fn, fl, tn, tl, sq, ak, hs, pB⟩ PA pc W3 (HIN.out.p.below J3.out.bl (Nat.le_refl _) J3.out.bl.size) (by have := HLT.out.2; show pB.length ≤ _; omega) (fun h => (HIN.out.pn h).2)
                simp only [Hp.cs, HPLN.out] at KPK
                refine region_heldT (S := fun X => X.heap[wr.heap.size]? = some (.cells #[.int .i64 3, .int .i64 at_, .slice BA bl bc, .int .u8 fn, .int .u16 fl, .int .u8 tn, .int .u16 tl, .int .u64 sq, .int .u64 ak, .bool hs, .slice PA pl pc] 39 (0, 0))) 10 (by kernel_rfl) (by decide) (fun inv => ?_)
                change FirstH _ _ _ _ _ _ _ _ _ _ W2.drew
                rw [HW3.out]
                have HS := H3.out
                refine FirstH.go (i := 0) (v := .pointer (some ⟨bx, 0, none⟩)) rfl rfl _ rfl _ rfl (by kernel_rfl) (fun _ _ _ h => h) inv (fun X _ => by unfold bareO; go_simp) HS (fun inv => ?_)
                try simp only [Act.put, List.setIfInBounds_toArray, List.set_cons_zero, List.set_cons_succ]
                refine FirstH.go (i := 1) (v := .pointer (some ⟨wr.heap.size, 3, none⟩)) rfl rfl _ rfl _ rfl (by kernel_rfl) (fun _ _ _ h => h) inv (fun X _ => by unfold bareO; go_simp) HS (fun inv => ?_)
                try simp only [Act.put, List.setIfInBounds_toArray, List.set_cons_zero, List.set_cons_succ]
                refine FirstH.go (i := 2) (v := .agg #[.int .u8 fn, .int .u16 fl, .int .u8 tn, .int .u16 tl, .int .u64 sq, .int .u64 ak, .bool hs, .slice PA pl pc]) rfl rfl _ rfl _ rfl (by kernel_rfl) (fun _ _ _ h => h) inv (fun X hS => by have c3 := cell_of hS 3 (.int .u8 fn) rfl; have c4 := cell_of hS 4 (.int .u16 fl) rfl; have c5 := cell_of hS 5 (.int .u8 tn) rfl; have c6 := cell_of hS 6 (.int .u16 tl) rfl; have c7 := cell_of hS 7 (.int .u64 sq) rfl; have c8 := cell_of hS 8 (.int .u64 ak) rfl; have c9 := cell_of hS 9 (.bool hs) rfl; have c10 := cell_of hS 10 (.slice PA pl pc) rfl; unfold bareO; go_simp) HS (fun inv => ?_)
                try simp only [Act.put, List.setIfInBounds_toArray, List.set_cons_zero, List.set_cons_succ]
                refine FirstH.go (i := 5) (v := .pointer (some ⟨bd, 0, none⟩)) rfl rfl _ rfl _ rfl (by kernel_rfl) (fun _ _ _ h => h) inv (fun X _ => by unfold bareO; go_simp) HS (fun inv => ?_)
                try simp only [Act.put, List.setIfInBounds_toArray, List.set_cons_zero, List.set_cons_succ]
                refine FirstH.go (i := 6) (v := .pointer (some ⟨wr.heap.size, 3, none⟩)) rfl rfl _ rfl _ rfl (by kernel_rfl) (fun _ _ _ h => h) inv (fun X _ => by unfold bareO; go_simp) HS (fun inv => ?_)
                try simp only [Act.put, List.setIfInBounds_toArray, List.set_cons_zero, List.set_cons_succ]
                refine FirstH.go (i := 7) (v := .agg #[.int .u8 fn, .int .u16 fl, .int .u8 tn, .int .u16 tl, .int .u64 sq, .int .u64 ak, .bool hs, .slice PA pl pc]) rfl rfl _ rfl _ rfl (by kernel_rfl) (fun _ _ _ h => h) inv (fun X hS => by have c3 := cell_of hS 3 (.int .u8 fn) rfl; have c4 := cell_of hS 4 (.int .u16 fl) rfl; have c5 := cell_of hS 5 (.int .u8 tn) rfl; have c6 := cell_of hS 6 (.int .u16 tl) rfl; have c7 := cell_of hS 7 (.int .u64 sq) rfl; have c8 := cell_of hS 8 (.int .u64 ak) rfl; have c9 := cell_of hS 9 (.bool hs) rfl; have c10 := cell_of hS 10 (.slice PA pl pc) rfl; unfold bareO; go_simp) HS (fun inv => ?_)
                try simp only [Act.put, List.setIfInBounds_toArray, List.set_cons_zero, List.set_cons_succ]
                clear HS
                refine FirstH.only (i := 3) (by kernel_rfl) (by decide) inv (fun inv => wpOp_call (i := 3) rfl rfl 87 rfl _ rfl 20 #[.agg #[.int .u8 fn, .int .u16 fl, .int .u8 tn, .int .u16 tl, .int .u64 sq, .int .u64 ak, .bool hs, .slice PA pl pc]] (by unfold bareO; go_simp) KPK ?_)
                rintro e Wp ⟨A2, cp2, rfl, ow2, le2, mx2, bp⟩
                have rp := (bp.block _ (blt H3.out)).trans H3.out
                refine ⟨_, rfl, rp, ?_⟩
                have Jp := Lib.hid (J3.out.below bp)
                have KS := hearW _ _ _ _ _ _ _ _ _ Jp.out.pl ⟨fn, fl, tn, tl, sq, ak, hs, pB⟩ A2 cp2 ow2 (by have := HLT.out.2; show pB.length ≤ _; omega) (by have h1 := HPLN.out; show pB.length ≤ _; omega) mx2 HOK.out.2.1 (by have := HI120.out; omega) (by have := Jp.out.kn; have := HI120.out; omega)
                simp only [Hp.cs, HPLN.out] at KS
                have RP' := Lib.hid rp
                clear KPK ow2 le2 mx2 bp rp
                try simp only [Act.put, List.setIfInBounds_toArray, List.set_cons_zero, List.set_cons_succ]
                refine FirstH.only (i := 4) (by kernel_rfl) (by decide) inv (fun inv => wpOp_call (i := 4) rfl rfl 88 rfl _ rfl 19 #[.pointer (some ⟨bx, 0, none⟩), .agg #[.int .u8 fn, .int .u16 fl, .int .u8 tn, .int .u16 tl, .int .u64 sq, .int .u64 ak, .bool hs, .slice A2 pl cp2]] (by unfold bareO; go_simp) KS ?_)
                rintro e W4 hr
                unfold HearR at hr
                obtain ⟨dv, v', K', D1, rfl, row4, ok4, _, p4, ek4, ed4, k4⟩ := hr
                have r4 := (k4.block _ (blt RP'.out) (Jp.out.pl.nf RP'.out (by decide) (by decide))).trans RP'.out
                refine ⟨_, rfl, r4, ?_⟩
                have d4 := Jp.out.dl.over Jp.out.pl k4
                have b4 := Jp.out.bl.trans (Jp.out.pl.kbelow k4 Jp.out.bl.size)
                have kw2 := KW.of_p Jp.out.eK.symm Jp.out.kw
                have kl2 : K9.length < 900 := by
                  have h1 := congrArg List.length Jp.out.eK
                  simp only [List.length_map] at h1
                  have := Jp.out.kn
                  have := HI120.out
                  omega
                have KD := hearDW _ _ _ _ _ _ _ _ d4 ⟨fn, fl, tn, tl, sq, ak, hs, pB⟩ PA pc (HIN.out.p.below b4 (Nat.le_refl _) (Nat.le_refl _)) (by have := HLT.out.2; show pB.length ≤ _; omega) HIN.out.pn HOK.out.2.1 kw2 kl2
                simp only [Hp.cs, HPLN.out] at KD
                have P4 := Lib.hid p4
                have K4 := Lib.hid k4
                have ROW4 := Lib.hid row4
                have OK4 := Lib.hid ok4
                have EK4 := Lib.hid ek4
                have ED4 := Lib.hid ed4
                have R4 := Lib.hid r4
                have D4 := Lib.hid d4
                clear p4 k4 row4 ok4 ek4 ed4 r4 d4 b4 kw2 kl2 KS
                try simp only [Act.put, List.setIfInBounds_toArray, List.set_cons_zero, List.set_cons_succ]
                refine FirstH.only (i := 8) (by kernel_rfl) (by decide) inv (fun inv => wpOp_call (i := 8) rfl rfl 92 rfl _ rfl 21 #[.pointer (some ⟨bd, 0, none⟩), .agg #[.int .u8 fn, .int .u16 fl, .int .u8 tn, .int .u16 tl, .int .u64 sq, .int .u64 ak, .bool hs, .slice PA pl pc]] (by unfold bareO; go_simp) KD ?_)
                rintro e W5 hr
                unfold HearDR at hr
                obtain ⟨dv2, v2', w2', K2', D2, rfl, row5, ok5, d5, ek5, ed5, k5⟩ := hr
                have r5 := (k5.block _ (blt R4.out) (D4.out.nf R4.out (by decide) (by decide) (by decide))).trans R4.out
                refine ⟨_, rfl, r5, ?_⟩
                have row4' : W5.ownsRow Wp.heap.size 35 1 dv D1.length (bvs D1) := owns_keepB ROW4.out fun g hg => by
                  obtain ⟨cu, hcu⟩ := row_block ROW4.out hg
                  exact k5.block g (blt hcu) (D4.out.nf hcu (by decide) (by decide) (by decide))
                have ok4' : ∀ x ∈ D1, x.b.Ok W5 := fun x hx => (OK4.out x hx).keepK k5 D4.out.u8
                obtain ⟨j5, he5⟩ := Jp.out.heard (p := ⟨fn, fl, tn, tl, sq, ak, hs, pB⟩) HSQ.out P4.out K4.out EK4.out d5 k5 ek5
                have he : D1.map Kr.p = D2.map Kr.p := by rw [ED4.out, ed5, he5]
                have hlen : D1.length ≤ 100000 := by
                  have h1 := congrArg List.length ED4.out
                  rw [List.length_map] at h1
                  have h2 := hear_len s L8 (K8.map Kr.p) ⟨fn, fl, tn, tl, sq, ak, hs, pB⟩
                  rw [List.length_map] at h2
                  have h3 := Jp.out.kn
                  have h4 := HI120.out
                  omega
                have KP2 := bodiesW W5 Wp.heap.size W4.heap.size dv dv2 D1 D2 row4' row5 ok4' ok5 he hlen
                have J5 := Lib.hid j5
                have R5 := Lib.hid r5
                clear r5 d5 k5 row5 ok5 ek5 ed5 row4' ok4' he hlen j5 he5 KD
                try simp only [Act.put, List.setIfInBounds_toArray, List.set_cons_zero, List.set_cons_succ]
                refine FirstH.only (i := 9) (by kernel_rfl) (by decide) inv (fun inv => wpOp_call (i := 9) rfl rfl 93 rfl _ rfl 18 #[dv, dv2] (by unfold bareO; go_simp) KP2 ?_)
                rintro e Wt ⟨rfl, b6⟩
                refine ⟨_, rfl, (b6.block _ (blt R5.out)).trans R5.out, ?_⟩
                have JT := Lib.hid (J5.out.below b6)
                clear b6 KP2
                try simp only [Act.put, List.setIfInBounds_toArray, List.set_cons_zero, List.set_cons_succ]
                refine ⟨by kernel_rfl, ?_⟩
                simp only [List.drop_succ_cons, List.drop_zero]
                clear J3 P4 K4 EK4 ED4 ROW4 OK4 R4 D4 R5 J5 RP' J2
                obtain ⟨s8, hs8⟩ : ∃ z, (hearP s L8 (K8.map Kr.p) ⟨fn, fl, tn, tl, sq, ak, hs, pB⟩).1 = z := ⟨_, rfl⟩
                rw [hs8] at JT
                clear hs8
                obtain ⟨M8, hM8⟩ : ∃ z, (hearP s L8 (K8.map Kr.p) ⟨fn, fl, tn, tl, sq, ak, hs, pB⟩).2.1 = z := ⟨_, rfl⟩
                rw [hM8] at JT
                clear hM8
                obtain ⟨M9, hM9⟩ : ∃ z, (hearP s L9 (K8.map Kr.p) ⟨fn, fl, tn, tl, sq, ak, hs, pB⟩).2.1 = z := ⟨_, rfl⟩
                rw [hM9] at JT
                clear hM9
                have hll : M9.length = M8.length := (lp_len JT.out.eL).symm
                have lk := JT.out.dl.lnk
                obtain ⟨Ar, cr, hv9, _, _, _⟩ := JT.out.dl.row.slice
                simp only [Sc.ds, hv9, hll] at lk
                have c7 := cell_of lk 7 (.slice Ar M8.length cr) rfl
                have c6 := cell_of lk 6 (.int .u64 s8.want) rfl
                have t7 := cell_regrown c7
                have t6 := cell_regrown c6
                clear c7 c6 lk hv9 hll
                have KWA : Hid (∀ d os, Calls Try.prog 22 #[.pointer (some ⟨bx, 0, none⟩)] (grow (redrawn Wt d) os) fun e w' => e = .returned (.int .i64 M8.length) ∧ Below (grow (redrawn Wt d) os).heap.size (grow (redrawn Wt d) os) w') := Lib.hid fun d os => (waitingL _ _ _ _ _ _ _ _ _ (JT.out.pl.below (below_regrown Wt d os))).mono fun _ _ ⟨he, hw⟩ => ⟨he, hw ▸ Below.refl _ _⟩
                have KID : Hid (∀ d os, Calls Try.prog 23 #[.pointer (some ⟨bx, 0, none⟩)] (grow (redrawn Wt d) os) fun e w' => e = .returned (.bool (decide (M8.length = 0))) ∧ Below (grow (redrawn Wt d) os).heap.size (grow (redrawn Wt d) os) w') := Lib.hid fun d os => (idleL _ _ _ _ _ _ _ _ _ (JT.out.pl.below (below_regrown Wt d os))).mono fun _ _ ⟨he, hw⟩ => ⟨he, hw ▸ Below.refl _ _⟩
                have KWN : Hid (∀ d os, Calls Try.prog 24 #[.pointer (some ⟨bx, 0, none⟩)] (grow (redrawn Wt d) os) fun e w' => e = .returned (.int .u64 s8.want) ∧ Below (grow (redrawn Wt d) os).heap.size (grow (redrawn Wt d) os) w') := Lib.hid fun d os => (wantL _ _ _ _ _ _ _ _ _ (JT.out.pl.below (below_regrown Wt d os))).mono fun _ _ ⟨he, hw⟩ => ⟨he, hw ▸ Below.refl _ _⟩
                obtain ⟨n8, hn8⟩ : ∃ n8, M8.length = n8 := ⟨_, rfl⟩
                obtain ⟨u8, hu8⟩ : ∃ u8, s8.want = u8 := ⟨_, rfl⟩
                rw [hn8] at KWA KID t7
                rw [hu8] at KWN t6
                clear hn8 hu8
                go_wp2
                by_cases hz8 : n8 = 0
                all_goals
                  first
                    | subst hz8
                    | (have hz9 : ¬ (n8 : Int) = 0 := by omega
                       have hz10 : ((n8 : Int) == 0) = false := by simp; omega
                       have hz11 : decide (n8 = 0) = false := by simp; omega)
                  as_aux_lemma =>
                    refine wp_region_quiet_below (by kernel_rfl) (by kernel_rfl) ?_
                    repeat (go_big_quiet_step (first
                      | (go_at_call 22; exact Calls.regrown_of (KWA.out _ _))
                      | (go_at_call 23; exact Calls.regrown_of (KID.out _ _))
                      | (go_at_call 24; exact Calls.regrown_of (KWN.out _ _))
                      | fail))
                    refine wpQuiet_nil ?_
                    rintro Wz ⟨pz, rfl⟩
                    have bz := below_regrown Wt pz.d pz.os
                    generalize grow (redrawn Wt pz.d) pz.os = Wz at bz ⊢
                    have JZ := Lib.hid (JT.out.below bz)
                    clear bz t7 t6 KWA KID KWN JT
                    as_aux_lemma =>
                      have h120 := HI120.out
                      clear HOK HIN HLT HBL HPLN HI120
                      go_wp2
                      go_roundw
                      case rel => exact ⟨i + 1, _, _, _, _, _, _, _, _, by omega, by go_num, JZ⟩
                      case measure => simp [intOf]; omega
            · by_cases hk4 : kd = 4
              · as_aux_lemma =>
                  subst hk4
                  have cm0 := cell_of MER.out 0 (.int .u8 mn) rfl
                  have cm1 := cell_of MER.out 1 (.int .u16 ml) rfl
                  have cp0 := cell_of PER.out 0 (.int .u8 pn) rfl
                  have cp1 := cell_of PER.out 1 (.int .u16 pl2) rfl
                  have k3' := cell_of R2.out 3 (.int .u8 fn) rfl
                  have k4' := cell_of R2.out 4 (.int .u16 fl) rfl
                  have k5' := cell_of R2.out 5 (.int .u8 tn) rfl
                  have k6' := cell_of R2.out 6 (.int .u16 tl) rfl
                  have z3' := frz_row 3 R2.out
                  have z4' := frz_row 4 R2.out
                  have z5' := frz_row 5 R2.out
                  have z6' := frz_row 6 R2.out
                  have nm : ¬ wr.heap.size = W.heap.size := by have := HSZ.out; omega
                  have nm' : ¬ W.heap.size = wr.heap.size := fun e => nm e.symm
                  have np : ¬ wr.heap.size = W.heap.size + 1 := by have := HSZ.out; omega
                  have np' : ¬ W.heap.size + 1 = wr.heap.size := fun e => np e.symm
                  obtain ⟨WB, hWB⟩ : ∃ Y, (((W2.setCell ⟨wr.heap.size, 3, none⟩ (.int .u8 pn)).setCell ⟨wr.heap.size, 4, none⟩ (.int .u16 pl2)).setCell ⟨wr.heap.size, 5, none⟩ (.int .u8 mn)).setCell ⟨wr.heap.size, 6, none⟩ (.int .u16 ml) = Y := ⟨_, rfl⟩
                  have bB : Below wr.heap.size W2 WB := by
                    rw [← hWB]
                    exact ((((Below.refl wr.heap.size W2).setCell (p := ⟨wr.heap.size, 3, none⟩) (Nat.le_refl _) _).setCell (p := ⟨wr.heap.size, 4, none⟩) (Nat.le_refl _) _).setCell (p := ⟨wr.heap.size, 5, none⟩) (Nat.le_refl _) _).setCell (p := ⟨wr.heap.size, 6, none⟩) (Nat.le_refl _) _
                  have JB4 := Lib.hid (J1.out.below (B2.out.trans bB))
                  have RB4 : Hid (WB.heap[wr.heap.size]? = some (.cells #[.int .i64 4, .int .i64 at_, .slice BA bl bc, .int .u8 pn, .int .u16 pl2, .int .u8 mn, .int .u16 ml, .int .u64 sq, .int .u64 ak, .bool hs, .slice PA pl pc] 39 (0, 0))) := Lib.hid (by rw [← hWB]; exact (row_set (row_set (row_set (row_set R2.out _) _) _) _).trans rfl)
                  have HWB := Lib.hid hWB
                  clear hWB bB
                  go_wp2_with (first
                    | (rw [HW1.out])
                    | (refine wpList_store_row rfl 39 (.tmp 14) (.tmp 45) rfl wr.heap.size #[.int .i64 4, .int .i64 at_, .slice BA bl bc, .int .u8 fn, .int .u16 fl, .int .u8 tn, .int .u16 tl, .int .u64 sq, .int .u64 ak, .bool hs, .slice PA pl pc] (by rfl) (by rfl) 39 #[.int .i64 0, .int .i64 0, .slice none 0 0, .int .u8 0, .int .u16 0, .int .u8 0, .int .u16 0, .int .u64 0, .int .u64 0, .bool false, .slice none 0 0] R1.out (by kernel_rfl) rfl (by simp [Value.oneCell']) ?_; rw [HW2.out])
                    | (rw [HWB.out]))
                  clear cm0 cm1 cp0 cp1 k3' k4' k5' k6' z3' z4' z5' z6' nm nm' np np'
                  obtain ⟨W3, hW3⟩ : ∃ Y, WB.drew = Y := ⟨_, rfl⟩
                  have b3 : Below WB.heap.size WB W3 := by rw [← hW3]; exact (Below.refl _ _).drew
                  have HS : W3.heap[wr.heap.size]? = some (.cells #[.int .i64 4, .int .i64 at_, .slice BA bl bc, .int .u8 pn, .int .u16 pl2, .int .u8 mn, .int .u16 ml, .int .u64 sq, .int .u64 ak, .bool hs, .slice PA pl pc] 39 (0, 0)) := by rw [← hW3]; exact RB4.out
                  have H3 := Lib.hid HS
                  have HW3 := Lib.hid hW3
                  have J3 := Lib.hid (JB4.out.below b3)
                  clear hW3 b3 HS k0
                  have HSQ : Hid (sq ≤ 18446744073709551615) := Lib.hid HOK.out.2.1
                  have KPK := packW ⟨pn, pl2, mn, ml, sq, ak, hs, pB⟩ PA pc W3 (HIN.out.p.below J3.out.bl (Nat.le_refl _) J3.out.bl.size) (by have := HLT.out.2; show pB.length ≤ _; omega) (fun h => (HIN.out.pn h).2)
                  simp only [Hp.cs, HPLN.out] at KPK
                  refine region_heldT (S := fun X => X.heap[wr.heap.size]? = some (.cells #[.int .i64 4, .int .i64 at_, .slice BA bl bc, .int .u8 pn, .int .u16 pl2, .int .u8 mn, .int .u16 ml, .int .u64 sq, .int .u64 ak, .bool hs, .slice PA pl pc] 39 (0, 0))) 10 (by kernel_rfl) (by decide) (fun inv => ?_)
                  change FirstH _ _ _ _ _ _ _ _ _ _ WB.drew
                  rw [HW3.out]
                  have HS := H3.out
                  refine FirstH.go (i := 0) (v := .pointer (some ⟨bx, 0, none⟩)) rfl rfl _ rfl _ rfl (by kernel_rfl) (fun _ _ _ h => h) inv (fun X _ => by unfold bareO; go_simp) HS (fun inv => ?_)
                  try simp only [Act.put, List.setIfInBounds_toArray, List.set_cons_zero, List.set_cons_succ]
                  refine FirstH.go (i := 1) (v := .pointer (some ⟨wr.heap.size, 3, none⟩)) rfl rfl _ rfl _ rfl (by kernel_rfl) (fun _ _ _ h => h) inv (fun X _ => by unfold bareO; go_simp) HS (fun inv => ?_)
                  try simp only [Act.put, List.setIfInBounds_toArray, List.set_cons_zero, List.set_cons_succ]
                  refine FirstH.go (i := 2) (v := .agg #[.int .u8 pn, .int .u16 pl2, .int .u8 mn, .int .u16 ml, .int .u64 sq, .int .u64 ak, .bool hs, .slice PA pl pc]) rfl rfl _ rfl _ rfl (by kernel_rfl) (fun _ _ _ h => h) inv (fun X hS => by have c3 := cell_of hS 3 (.int .u8 pn) rfl; have c4 := cell_of hS 4 (.int .u16 pl2) rfl; have c5 := cell_of hS 5 (.int .u8 mn) rfl; have c6 := cell_of hS 6 (.int .u16 ml) rfl; have c7 := cell_of hS 7 (.int .u64 sq) rfl; have c8 := cell_of hS 8 (.int .u64 ak) rfl; have c9 := cell_of hS 9 (.bool hs) rfl; have c10 := cell_of hS 10 (.slice PA pl pc) rfl; unfold bareO; go_simp) HS (fun inv => ?_)
                  try simp only [Act.put, List.setIfInBounds_toArray, List.set_cons_zero, List.set_cons_succ]
                  refine FirstH.go (i := 5) (v := .pointer (some ⟨bd, 0, none⟩)) rfl rfl _ rfl _ rfl (by kernel_rfl) (fun _ _ _ h => h) inv (fun X _ => by unfold bareO; go_simp) HS (fun inv => ?_)
                  try simp only [Act.put, List.setIfInBounds_toArray, List.set_cons_zero, List.set_cons_succ]
                  refine FirstH.go (i := 6) (v := .pointer (some ⟨wr.heap.size, 3, none⟩)) rfl rfl _ rfl _ rfl (by kernel_rfl) (fun _ _ _ h => h) inv (fun X _ => by unfold bareO; go_simp) HS (fun inv => ?_)
                  try simp only [Act.put, List.setIfInBounds_toArray, List.set_cons_zero, List.set_cons_succ]
                  refine FirstH.go (i := 7) (v := .agg #[.int .u8 pn, .int .u16 pl2, .int .u8 mn, .int .u16 ml, .int .u64 sq, .int .u64 ak, .bool hs, .slice PA pl pc]) rfl rfl _ rfl _ rfl (by kernel_rfl) (fun _ _ _ h => h) inv (fun X hS => by have c3 := cell_of hS 3 (.int .u8 pn) rfl; have c4 := cell_of hS 4 (.int .u16 pl2) rfl; have c5 := cell_of hS 5 (.int .u8 mn) rfl; have c6 := cell_of hS 6 (.int .u16 ml) rfl; have c7 := cell_of hS 7 (.int .u64 sq) rfl; have c8 := cell_of hS 8 (.int .u64 ak) rfl; have c9 := cell_of hS 9 (.bool hs) rfl; have c10 := cell_of hS 10 (.slice PA pl pc) rfl; unfold bareO; go_simp) HS (fun inv => ?_)
                  try simp only [Act.put, List.setIfInBounds_toArray, List.set_cons_zero, List.set_cons_succ]
                  clear HS
                  refine FirstH.only (i := 3) (by kernel_rfl) (by decide) inv (fun inv => wpOp_call (i := 3) rfl rfl 87 rfl _ rfl 20 #[.agg #[.int .u8 pn, .int .u16 pl2, .int .u8 mn, .int .u16 ml, .int .u64 sq, .int .u64 ak, .bool hs, .slice PA pl pc]] (by unfold bareO; go_simp) KPK ?_)
                  rintro e Wp ⟨A2, cp2, rfl, ow2, le2, mx2, bp⟩
                  have rp := (bp.block _ (blt H3.out)).trans H3.out
                  refine ⟨_, rfl, rp, ?_⟩
                  have Jp := Lib.hid (J3.out.below bp)
                  have KS := hearW _ _ _ _ _ _ _ _ _ Jp.out.pl ⟨pn, pl2, mn, ml, sq, ak, hs, pB⟩ A2 cp2 ow2 (by have := HLT.out.2; show pB.length ≤ _; omega) (by have h1 := HPLN.out; show pB.length ≤ _; omega) mx2 HOK.out.2.1 (by have := HI120.out; omega) (by have := Jp.out.kn; have := HI120.out; omega)
                  simp only [Hp.cs, HPLN.out] at KS
                  have RP' := Lib.hid rp
                  clear KPK ow2 le2 mx2 bp rp
                  try simp only [Act.put, List.setIfInBounds_toArray, List.set_cons_zero, List.set_cons_succ]
                  refine FirstH.only (i := 4) (by kernel_rfl) (by decide) inv (fun inv => wpOp_call (i := 4) rfl rfl 88 rfl _ rfl 19 #[.pointer (some ⟨bx, 0, none⟩), .agg #[.int .u8 pn, .int .u16 pl2, .int .u8 mn, .int .u16 ml, .int .u64 sq, .int .u64 ak, .bool hs, .slice A2 pl cp2]] (by unfold bareO; go_simp) KS ?_)
                  rintro e W4 hr
                  unfold HearR at hr
                  obtain ⟨dv, v', K', D1, rfl, row4, ok4, _, p4, ek4, ed4, k4⟩ := hr
                  have r4 := (k4.block _ (blt RP'.out) (Jp.out.pl.nf RP'.out (by decide) (by decide))).trans RP'.out
                  refine ⟨_, rfl, r4, ?_⟩
                  have d4 := Jp.out.dl.over Jp.out.pl k4
                  have b4 := Jp.out.bl.trans (Jp.out.pl.kbelow k4 Jp.out.bl.size)
                  have kw2 := KW.of_p Jp.out.eK.symm Jp.out.kw
                  have kl2 : K9.length < 900 := by
                    have h1 := congrArg List.length Jp.out.eK
                    simp only [List.length_map] at h1
                    have := Jp.out.kn
                    have := HI120.out
                    omega
                  have KD := hearDW _ _ _ _ _ _ _ _ d4 ⟨pn, pl2, mn, ml, sq, ak, hs, pB⟩ PA pc (HIN.out.p.below b4 (Nat.le_refl _) (Nat.le_refl _)) (by have := HLT.out.2; show pB.length ≤ _; omega) HIN.out.pn HOK.out.2.1 kw2 kl2
                  simp only [Hp.cs, HPLN.out] at KD
                  have P4 := Lib.hid p4
                  have K4 := Lib.hid k4
                  have ROW4 := Lib.hid row4
                  have OK4 := Lib.hid ok4
                  have EK4 := Lib.hid ek4
                  have ED4 := Lib.hid ed4
                  have R4 := Lib.hid r4
                  have D4 := Lib.hid d4
                  clear p4 k4 row4 ok4 ek4 ed4 r4 d4 b4 kw2 kl2 KS
                  try simp only [Act.put, List.setIfInBounds_toArray, List.set_cons_zero, List.set_cons_succ]
                  refine FirstH.only (i := 8) (by kernel_rfl) (by decide) inv (fun inv => wpOp_call (i := 8) rfl rfl 92 rfl _ rfl 21 #[.pointer (some ⟨bd, 0, none⟩), .agg #[.int .u8 pn, .int .u16 pl2, .int .u8 mn, .int .u16 ml, .int .u64 sq, .int .u64 ak, .bool hs, .slice PA pl pc]] (by unfold bareO; go_simp) KD ?_)
                  rintro e W5 hr
                  unfold HearDR at hr
                  obtain ⟨dv2, v2', w2', K2', D2, rfl, row5, ok5, d5, ek5, ed5, k5⟩ := hr
                  have r5 := (k5.block _ (blt R4.out) (D4.out.nf R4.out (by decide) (by decide) (by decide))).trans R4.out
                  refine ⟨_, rfl, r5, ?_⟩
                  have row4' : W5.ownsRow Wp.heap.size 35 1 dv D1.length (bvs D1) := owns_keepB ROW4.out fun g hg => by
                    obtain ⟨cu, hcu⟩ := row_block ROW4.out hg
                    exact k5.block g (blt hcu) (D4.out.nf hcu (by decide) (by decide) (by decide))
                  have ok4' : ∀ x ∈ D1, x.b.Ok W5 := fun x hx => (OK4.out x hx).keepK k5 D4.out.u8
                  obtain ⟨j5, he5⟩ := Jp.out.heard (p := ⟨pn, pl2, mn, ml, sq, ak, hs, pB⟩) HSQ.out P4.out K4.out EK4.out d5 k5 ek5
                  have he : D1.map Kr.p = D2.map Kr.p := by rw [ED4.out, ed5, he5]
                  have hlen : D1.length ≤ 100000 := by
                    have h1 := congrArg List.length ED4.out
                    rw [List.length_map] at h1
                    have h2 := hear_len s L8 (K8.map Kr.p) ⟨pn, pl2, mn, ml, sq, ak, hs, pB⟩
                    rw [List.length_map] at h2
                    have h3 := Jp.out.kn
                    have h4 := HI120.out
                    omega
                  have KP2 := bodiesW W5 Wp.heap.size W4.heap.size dv dv2 D1 D2 row4' row5 ok4' ok5 he hlen
                  have J5 := Lib.hid j5
                  have R5 := Lib.hid r5
                  clear r5 d5 k5 row5 ok5 ek5 ed5 row4' ok4' he hlen j5 he5 KD
                  try simp only [Act.put, List.setIfInBounds_toArray, List.set_cons_zero, List.set_cons_succ]
                  refine FirstH.only (i := 9) (by kernel_rfl) (by decide) inv (fun inv => wpOp_call (i := 9) rfl rfl 93 rfl _ rfl 18 #[dv, dv2] (by unfold bareO; go_simp) KP2 ?_)
                  rintro e Wt ⟨rfl, b6⟩
                  refine ⟨_, rfl, (b6.block _ (blt R5.out)).trans R5.out, ?_⟩
                  have JT := Lib.hid (J5.out.below b6)
                  clear b6 KP2
                  try simp only [Act.put, List.setIfInBounds_toArray, List.set_cons_zero, List.set_cons_succ]
                  refine ⟨by kernel_rfl, ?_⟩
                  simp only [List.drop_succ_cons, List.drop_zero]
                  clear J3 P4 K4 EK4 ED4 ROW4 OK4 R4 D4 R5 J5 RP' J2 JB4
                  obtain ⟨s8, hs8⟩ : ∃ z, (hearP s L8 (K8.map Kr.p) ⟨pn, pl2, mn, ml, sq, ak, hs, pB⟩).1 = z := ⟨_, rfl⟩
                  rw [hs8] at JT
                  clear hs8
                  obtain ⟨M8, hM8⟩ : ∃ z, (hearP s L8 (K8.map Kr.p) ⟨pn, pl2, mn, ml, sq, ak, hs, pB⟩).2.1 = z := ⟨_, rfl⟩
                  rw [hM8] at JT
                  clear hM8
                  obtain ⟨M9, hM9⟩ : ∃ z, (hearP s L9 (K8.map Kr.p) ⟨pn, pl2, mn, ml, sq, ak, hs, pB⟩).2.1 = z := ⟨_, rfl⟩
                  rw [hM9] at JT
                  clear hM9
                  have hll : M9.length = M8.length := (lp_len JT.out.eL).symm
                  have lk := JT.out.dl.lnk
                  obtain ⟨Ar, cr, hv9, _, _, _⟩ := JT.out.dl.row.slice
                  simp only [Sc.ds, hv9, hll] at lk
                  have c7 := cell_of lk 7 (.slice Ar M8.length cr) rfl
                  have c6 := cell_of lk 6 (.int .u64 s8.want) rfl
                  have t7 := cell_regrown c7
                  have t6 := cell_regrown c6
                  clear c7 c6 lk hv9 hll
                  have KWA : Hid (∀ d os, Calls Try.prog 22 #[.pointer (some ⟨bx, 0, none⟩)] (grow (redrawn Wt d) os) fun e w' => e = .returned (.int .i64 M8.length) ∧ Below (grow (redrawn Wt d) os).heap.size (grow (redrawn Wt d) os) w') := Lib.hid fun d os => (waitingL _ _ _ _ _ _ _ _ _ (JT.out.pl.below (below_regrown Wt d os))).mono fun _ _ ⟨he, hw⟩ => ⟨he, hw ▸ Below.refl _ _⟩
                  have KID : Hid (∀ d os, Calls Try.prog 23 #[.pointer (some ⟨bx, 0, none⟩)] (grow (redrawn Wt d) os) fun e w' => e = .returned (.bool (decide (M8.length = 0))) ∧ Below (grow (redrawn Wt d) os).heap.size (grow (redrawn Wt d) os) w') := Lib.hid fun d os => (idleL _ _ _ _ _ _ _ _ _ (JT.out.pl.below (below_regrown Wt d os))).mono fun _ _ ⟨he, hw⟩ => ⟨he, hw ▸ Below.refl _ _⟩
                  have KWN : Hid (∀ d os, Calls Try.prog 24 #[.pointer (some ⟨bx, 0, none⟩)] (grow (redrawn Wt d) os) fun e w' => e = .returned (.int .u64 s8.want) ∧ Below (grow (redrawn Wt d) os).heap.size (grow (redrawn Wt d) os) w') := Lib.hid fun d os => (wantL _ _ _ _ _ _ _ _ _ (JT.out.pl.below (below_regrown Wt d os))).mono fun _ _ ⟨he, hw⟩ => ⟨he, hw ▸ Below.refl _ _⟩
                  obtain ⟨n8, hn8⟩ : ∃ n8, M8.length = n8 := ⟨_, rfl⟩
                  obtain ⟨u8, hu8⟩ : ∃ u8, s8.want = u8 := ⟨_, rfl⟩
                  rw [hn8] at KWA KID t7
                  rw [hu8] at KWN t6
                  clear hn8 hu8
                  go_wp2
                  by_cases hz8 : n8 = 0
                  all_goals
                    first
                      | subst hz8
                      | (have hz9 : ¬ (n8 : Int) = 0 := by omega
                         have hz10 : ((n8 : Int) == 0) = false := by simp; omega
                         have hz11 : decide (n8 = 0) = false := by simp; omega)
                    as_aux_lemma =>
                      refine wp_region_quiet_below (by kernel_rfl) (by kernel_rfl) ?_
                      repeat (go_big_quiet_step (first
                        | (go_at_call 22; exact Calls.regrown_of (KWA.out _ _))
                        | (go_at_call 23; exact Calls.regrown_of (KID.out _ _))
                        | (go_at_call 24; exact Calls.regrown_of (KWN.out _ _))
                        | fail))
                      refine wpQuiet_nil ?_
                      rintro Wz ⟨pz, rfl⟩
                      have bz := below_regrown Wt pz.d pz.os
                      generalize grow (redrawn Wt pz.d) pz.os = Wz at bz ⊢
                      have JZ := Lib.hid (JT.out.below bz)
                      clear bz t7 t6 KWA KID KWN JT
                      as_aux_lemma =>
                        have h120 := HI120.out
                        clear HOK HIN HLT HBL HPLN HI120
                        go_wp2
                        go_roundw
                        case rel => exact ⟨i + 1, _, _, _, _, _, _, _, _, by omega, by go_num, JZ⟩
                        case measure => simp [intOf]; omega
              · as_aux_lemma =>
                  have o0 : ((kd : Int) == 0) = false := by simpa using hk0
                  have p0 : ((0 : Int) == kd) = false := by simpa using fun e : (0 : Int) = kd => hk0 e.symm
                  have q0 : ¬ (0 : Int) = kd := fun e => hk0 e.symm
                  have o1 : ((kd : Int) == 1) = false := by simpa using hk1
                  have p1 : ((1 : Int) == kd) = false := by simpa using fun e : (1 : Int) = kd => hk1 e.symm
                  have q1 : ¬ (1 : Int) = kd := fun e => hk1 e.symm
                  have o2 : ((kd : Int) == 2) = false := by simpa using hk2
                  have p2 : ((2 : Int) == kd) = false := by simpa using fun e : (2 : Int) = kd => hk2 e.symm
                  have q2 : ¬ (2 : Int) = kd := fun e => hk2 e.symm
                  have o3 : ((kd : Int) == 3) = false := by simpa using hk3
                  have p3 : ((3 : Int) == kd) = false := by simpa using fun e : (3 : Int) = kd => hk3 e.symm
                  have q3 : ¬ (3 : Int) = kd := fun e => hk3 e.symm
                  have o4 : ((kd : Int) == 4) = false := by simpa using hk4
                  have p4 : ((4 : Int) == kd) = false := by simpa using fun e : (4 : Int) = kd => hk4 e.symm
                  have q4 : ¬ (4 : Int) = kd := fun e => hk4 e.symm
                  have KD0 := Lib.hid hk0
                  go_wp2_with (first
                    | (rw [HW1.out])
                    | (refine wpList_store_row rfl 39 (.tmp 14) (.tmp 45) rfl wr.heap.size #[.int .i64 kd, .int .i64 at_, .slice BA bl bc, .int .u8 fn, .int .u16 fl, .int .u8 tn, .int .u16 tl, .int .u64 sq, .int .u64 ak, .bool hs, .slice PA pl pc] (by rfl) (by rfl) 39 #[.int .i64 0, .int .i64 0, .slice none 0 0, .int .u8 0, .int .u16 0, .int .u8 0, .int .u16 0, .int .u64 0, .int .u64 0, .bool false, .slice none 0 0] R1.out (by kernel_rfl) rfl (by simp [Value.oneCell']) ?_; rw [HW2.out]))
                  have JT := Lib.hid (J2.out.mono)
                  clear k0
                  have hll : L9.length = L8.length := (lp_len JT.out.eL).symm
                  have lk := JT.out.dl.lnk
                  obtain ⟨Ar, cr, hv9, _, _, _⟩ := JT.out.dl.row.slice
                  simp only [Sc.ds, hv9, hll] at lk
                  have c7 := cell_of lk 7 (.slice Ar L8.length cr) rfl
                  have c6 := cell_of lk 6 (.int .u64 s.want) rfl
                  have t7 := cell_regrown c7
                  have t6 := cell_regrown c6
                  clear c7 c6 lk hv9 hll
                  have KWA : Hid (∀ d os, Calls Try.prog 22 #[.pointer (some ⟨bx, 0, none⟩)] (grow (redrawn W2 d) os) fun e w' => e = .returned (.int .i64 L8.length) ∧ Below (grow (redrawn W2 d) os).heap.size (grow (redrawn W2 d) os) w') := Lib.hid fun d os => (waitingL _ _ _ _ _ _ _ _ _ (JT.out.pl.below (below_regrown W2 d os))).mono fun _ _ ⟨he, hw⟩ => ⟨he, hw ▸ Below.refl _ _⟩
                  have KID : Hid (∀ d os, Calls Try.prog 23 #[.pointer (some ⟨bx, 0, none⟩)] (grow (redrawn W2 d) os) fun e w' => e = .returned (.bool (decide (L8.length = 0))) ∧ Below (grow (redrawn W2 d) os).heap.size (grow (redrawn W2 d) os) w') := Lib.hid fun d os => (idleL _ _ _ _ _ _ _ _ _ (JT.out.pl.below (below_regrown W2 d os))).mono fun _ _ ⟨he, hw⟩ => ⟨he, hw ▸ Below.refl _ _⟩
                  have KWN : Hid (∀ d os, Calls Try.prog 24 #[.pointer (some ⟨bx, 0, none⟩)] (grow (redrawn W2 d) os) fun e w' => e = .returned (.int .u64 s.want) ∧ Below (grow (redrawn W2 d) os).heap.size (grow (redrawn W2 d) os) w') := Lib.hid fun d os => (wantL _ _ _ _ _ _ _ _ _ (JT.out.pl.below (below_regrown W2 d os))).mono fun _ _ ⟨he, hw⟩ => ⟨he, hw ▸ Below.refl _ _⟩
                  obtain ⟨n8, hn8⟩ : ∃ n8, L8.length = n8 := ⟨_, rfl⟩
                  obtain ⟨u8, hu8⟩ : ∃ u8, s.want = u8 := ⟨_, rfl⟩
                  rw [hn8] at KWA KID t7
                  rw [hu8] at KWN t6
                  clear hn8 hu8
                  by_cases hz8 : n8 = 0
                  all_goals
                    first
                      | subst hz8
                      | (have hz9 : ¬ (n8 : Int) = 0 := by omega
                         have hz10 : ((n8 : Int) == 0) = false := by simp; omega
                         have hz11 : decide (n8 = 0) = false := by simp; omega)
                    as_aux_lemma =>
                      refine wp_region_quiet_below (by kernel_rfl) (by kernel_rfl) ?_
                      repeat (go_big_quiet_step (first
                        | (go_at_call 22; exact Calls.regrown_of (KWA.out _ _))
                        | (go_at_call 23; exact Calls.regrown_of (KID.out _ _))
                        | (go_at_call 24; exact Calls.regrown_of (KWN.out _ _))
                        | fail))
                      refine wpQuiet_nil ?_
                      rintro Wz ⟨pz, rfl⟩
                      have bz := below_regrown W2 pz.d pz.os
                      generalize grow (redrawn W2 pz.d) pz.os = Wz at bz ⊢
                      have JZ := Lib.hid (JT.out.below bz)
                      clear bz t7 t6 KWA KID KWN JT
                      as_aux_lemma =>
                        have h120 := HI120.out
                        clear HOK HIN HLT HBL HPLN HI120
                        go_wp2
                        go_roundw
                        case rel => exact ⟨i + 1, _, _, _, _, _, _, _, _, by omega, by go_num, JZ⟩
                        case measure => simp [intOf]; omega
    · obtain rfl : i = n := by omega
      have hii : ¬ (i : Int) < (i : Int) := by omega
      have BJ := Lib.hid (BW5.out.trans (J1.out.bl.mono BW5.out.size))
      go_wp2
      go_ret
      exact ⟨rfl, BJ.out⟩

end Go.Proofs.Ytgnfclikdfllnaa
