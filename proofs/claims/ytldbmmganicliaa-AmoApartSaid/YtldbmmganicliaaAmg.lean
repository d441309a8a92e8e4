/-
  The program's table: End, by what it makes of the plain table. Condition: the table lies in memory, numbers fit their kinds.
-/
import Derived.Test.YtldbmmganicliaaAmf
namespace Go.Proofs.Ytldbmmganicliaa
set_option linter.unusedSimpArgs false
set_option linter.unusedVariables false
open Go.RowKit Go.Maps Go.Sort

set_option maxRecDepth 100000 in
set_option maxHeartbeats 4000000 in
theorem aEnd (W : World) (b m k c : Nat) (t : Tt) (h : PT W b m k c t) (x : I10) (rx : x.Rng) (code : Int) (val : ByteArray) (rc : 0 ≤ code ∧ code ≤ 255) (hc : c ≤ 1000000) :
    Calls Try.prog 14 #[.pointer (some ⟨b, 0, none⟩), .agg #[.int .u8 x.n, .int .u16 x.l, .int .u32 x.s, .int .u8 x.d, .int .u8 x.a0, .int .u8 x.a1, .int .u8 x.b0, .int .u8 x.b1, .int .u8 x.c0, .int .u8 x.c1], .agg #[.int .u8 code, .string val]] W fun e W' => e = .returned (.bool (t.fin x code val).1) ∧ PT W' b m k (c + 1) (t.fin x code val).2 ∧ KP (fun q => q = m) W W' := by
  obtain ⟨W1, hW1⟩ : ∃ z, W.alloc (.cells #[.int .u8 x.n, .int .u16 x.l, .int .u32 x.s, .int .u8 x.d, .int .u8 x.a0, .int .u8 x.a1, .int .u8 x.b0, .int .u8 x.b1, .int .u8 x.c0, .int .u8 x.c1] 37) = z := ⟨_, rfl⟩
  have b1 : Below W.heap.size W W1 := by rw [← hW1]; exact (Below.refl _ _).alloc (Nat.le_refl _) _
  obtain ⟨kx, hkx⟩ : ∃ z, W.heap.size = z := ⟨_, rfl⟩
  have R1 : W1.heap[kx]? = some (.cells #[.int .u8 x.n, .int .u16 x.l, .int .u32 x.s, .int .u8 x.d, .int .u8 x.a0, .int .u8 x.a1, .int .u8 x.b0, .int .u8 x.b1, .int .u8 x.c0, .int .u8 x.c1] 37 (0, 0)) := by rw [← hW1, ← hkx]; exact heap_alloc_new _ _
  obtain ⟨W2, hW2⟩ : ∃ z, W1.alloc (.cells #[.int .u8 code, .string val] 53) = z := ⟨_, rfl⟩
  have hs1 : W1.heap.size = kx + 1 := by rw [← hW1, World.size_alloc, hkx]
  have b12 : Below W1.heap.size W1 W2 := by rw [← hW2]; exact (Below.refl _ _).alloc (Nat.le_refl _) _
  have R2 : W2.heap[kx + 1]? = some (.cells #[.int .u8 code, .string val] 53 (0, 0)) := by rw [← hW2, ← hs1]; exact heap_alloc_new _ _
  have h1 := (h.below b1).below b12
  have R1 := (b12.block kx (bltA R1)).trans R1
  have b2 : Below kx W W2 := (hkx ▸ b1 : Below kx W W1).trans (b12.mono (by omega))
  have BK : Hid (Below kx W W2) := Lib.hid b2
  have HP := Lib.hid h1
  have HX := Lib.hid R1
  have HY := Lib.hid R2
  have HW1 := Lib.hid hW1
  have HW2 := Lib.hid hW2
  have HKX := Lib.hid hkx
  have HS1 := Lib.hid hs1
  have HRX := Lib.hid rx
  have HC := Lib.hid hc
  have HRC := Lib.hid rc
  have KS := Lib.hid (aState W2 b m k c t h1 x rx)
  have x0 := cell_of R1 0 (.int .u8 x.n) rfl
  have x1 := cell_of R1 1 (.int .u16 x.l) rfl
  have x2 := cell_of R1 2 (.int .u32 x.s) rfl
  have x3 := cell_of R1 3 (.int .u8 x.d) rfl
  have x4 := cell_of R1 4 (.int .u8 x.a0) rfl
  have x5 := cell_of R1 5 (.int .u8 x.a1) rfl
  have x6 := cell_of R1 6 (.int .u8 x.b0) rfl
  have x7 := cell_of R1 7 (.int .u8 x.b1) rfl
  have x8 := cell_of R1 8 (.int .u8 x.c0) rfl
  have x9 := cell_of R1 9 (.int .u8 x.c1) rfl
  
  have y0 := cell_of R2 0 (.int .u8 code) rfl
  have y1 := cell_of R2 1 (.string val) rfl
  clear h h1 b1 b2 b12 hW1 R1 R2 rx hc hW2 hs1 rc
  obtain ⟨r1, hr1⟩ : ∃ q, t.fin x code val = q := ⟨_, rfl⟩
  rw [hr1]
  obtain ⟨st, hst⟩ : ∃ q, t.state x = q := ⟨_, rfl⟩
  have e0 : r1 = if st = 1 then (true, if t.old x then { t with L := delT t.L (fndT t.L x) } else { t with L := setE t.L (fndT t.L x) ((t.L[fndT t.L x]?).getD zrow) code val }) else (false, t) := by
    rw [← hr1, ← hst]
    rfl
  have E0 := Lib.hid e0
  rw [hst] at KS
  have HST := Lib.hid hst
  clear hr1 e0 hst
  by_cases h1 : st = 1
  · subst h1
    obtain ⟨y, hy, hyid, hyen⟩ := Tt.state_one HST.out
    have KO : Hid (∀ w, PT w b m k c t → Calls Try.prog 39 #[.pointer (some ⟨b, 0, none⟩), .agg #[.int .u8 x.n, .int .u16 x.l, .int .u32 x.s, .int .u8 x.d, .int .u8 x.a0, .int .u8 x.a1, .int .u8 x.b0, .int .u8 x.b1, .int .u8 x.c0, .int .u8 x.c1]] w fun e W' => e = .returned (.bool (t.old x)) ∧ Below w.heap.size w W') := Lib.hid fun w hw => aOld w b m k c t hw x HRX.out
    obtain ⟨oo, hoo⟩ : ∃ q, t.old x = q := ⟨_, rfl⟩
    have e1 := E0.out
    rw [if_pos rfl, hy, hoo] at e1
    have E1 := Lib.hid e1
    have HYY := Lib.hid hy
    rw [hoo] at KO
    clear hoo e1 E0
    go_enter Try.func14, Try.ntmps14
    go_wp2_with (first | rw [HW1.out, HKX.out] | (rw [HW2.out, HS1.out]) | (go_at_call 23; try rw [HW1.out]; try rw [HW2.out]; refine KS.out.mono ?_; rintro e wa ⟨rfl, b2⟩; have HP := Lib.hid (HP.out.below b2); have BK : Hid (Below kx W _) := Lib.hid (BK.out.trans (b2.mono (Nat.le_of_lt (bltA HX.out)))); have HY := Lib.hid ((b2.block _ (bltA HY.out)).trans HY.out); have HX := Lib.hid ((b2.block _ (bltA HX.out)).trans HX.out); clear b2; clear x0 x1 x2 x3 x4 x5 x6 x7 x8 x9 y0 y1; have x0 := cell_of HX.out 0 (.int .u8 x.n) rfl; have x1 := cell_of HX.out 1 (.int .u16 x.l) rfl; have x2 := cell_of HX.out 2 (.int .u32 x.s) rfl; have x3 := cell_of HX.out 3 (.int .u8 x.d) rfl; have x4 := cell_of HX.out 4 (.int .u8 x.a0) rfl; have x5 := cell_of HX.out 5 (.int .u8 x.a1) rfl; have x6 := cell_of HX.out 6 (.int .u8 x.b0) rfl; have x7 := cell_of HX.out 7 (.int .u8 x.b1) rfl; have x8 := cell_of HX.out 8 (.int .u8 x.c0) rfl; have x9 := cell_of HX.out 9 (.int .u8 x.c1) rfl; skip) | (go_at_call 39; fail) | fail)
    refine (KO.out _ HP.out).mono ?_
    rintro e wb ⟨rfl, b2⟩
    have HP := Lib.hid (HP.out.below b2)
    have BK : Hid (Below kx W _) := Lib.hid (BK.out.trans (b2.mono (Nat.le_of_lt (bltA HX.out))))
    have HY := Lib.hid ((b2.block _ (bltA HY.out)).trans HY.out)
    have HX := Lib.hid ((b2.block _ (bltA HX.out)).trans HX.out)
    clear b2
    clear x0 x1 x2 x3 x4 x5 x6 x7 x8 x9 KO KS
    cases oo
    · have e1 := E1.out
      simp only [Bool.false_eq_true, if_false] at e1
      have E1 := Lib.hid e1
      clear e1
      go_wp2_with fail
      refine region_heldT (S := fun X : World => X = wb.drew) 8 (by kernel_rfl) (by decide) (fun inv => ?_)
      have HP := Lib.hid (HP.out.below (Below.refl _ wb).drew)
      have BK : Hid (Below kx W wb.drew) := Lib.hid BK.out.drew
      have HX : Hid (wb.drew.heap[kx]? = some (.cells #[.int .u8 x.n, .int .u16 x.l, .int .u32 x.s, .int .u8 x.d, .int .u8 x.a0, .int .u8 x.a1, .int .u8 x.b0, .int .u8 x.b1, .int .u8 x.c0, .int .u8 x.c1] 37 (0, 0))) := HX
      have HY : Hid (wb.drew.heap[kx + 1]? = some (.cells #[.int .u8 code, .string val] 53 (0, 0))) := HY
      change FirstH _ _ _ _ _ _ _ _ _ _ wb.drew
      generalize wb.drew = wd at *
      have HS : wd = wd := rfl
      have HB : Hid (wd.heap[b]? = some (.cells #[.int .u32 t.win, .map (some m), .map (some k)] 85 (0, 0))) := Lib.hid HP.out.blk
      obtain ⟨W6, hrun, P6, k6⟩ := HP.out.setE HYY.out code val HRC.out HC.out
      simp only [hyid] at hrun
      have HR := Lib.hid hrun
      have P6 := Lib.hid P6
      have K6 : Hid (KP (fun q => q = m) W W6) := Lib.hid ((KP.of_below (HKX.out.symm ▸ BK.out)).trans k6 (fun i _ e => e))
      clear hrun k6
      refine FirstH.go (i := 0) (v := .pointer (some ⟨b, 0, none⟩)) rfl rfl 7 rfl (Op.move (Operand.tmp 0)) rfl (by kernel_rfl) (fun _ _ _ h => h) inv (fun W hS => by unfold bareO; go_simp) HS (fun inv => ?_)
      try simp only [Act.put, List.setIfInBounds_toArray, List.set_cons_zero, List.set_cons_succ]
      refine FirstH.go (i := 1) (v := .pointer (some ⟨b, 0, none⟩)) rfl rfl 8 rfl (Op.nilCheck (Operand.tmp 7)) rfl (by kernel_rfl) (fun _ _ _ h => h) inv (fun W hS => by unfold bareO; go_simp) HS (fun inv => ?_)
      try simp only [Act.put, List.setIfInBounds_toArray, List.set_cons_zero, List.set_cons_succ]
      refine FirstH.go (i := 2) (v := .pointer (some ⟨b, 1, none⟩)) rfl rfl 9 rfl (Op.fieldAddr 85 (Operand.tmp 8) 1) rfl (by kernel_rfl) (fun _ _ _ h => h) inv (fun W hS => by unfold bareO; go_simp) HS (fun inv => ?_)
      try simp only [Act.put, List.setIfInBounds_toArray, List.set_cons_zero, List.set_cons_succ]
      refine FirstH.go (i := 3) (v := .map (some m)) rfl rfl 10 rfl (Op.load 82 (Operand.tmp 9)) rfl (by kernel_rfl) (fun _ _ _ h => h) inv (fun W hS => by subst hS; have c := cell_of HB.out 1 (.map (some m)) rfl; unfold bareO; go_simp) HS (fun inv => ?_)
      try simp only [Act.put, List.setIfInBounds_toArray, List.set_cons_zero, List.set_cons_succ]
      refine FirstH.go (i := 4) (v := .agg #[.int .u8 x.n, .int .u16 x.l, .int .u32 x.s, .int .u8 x.d, .int .u8 x.a0, .int .u8 x.a1, .int .u8 x.b0, .int .u8 x.b1, .int .u8 x.c0, .int .u8 x.c1]) rfl rfl 11 rfl (Op.load 37 (Operand.tmp 4)) rfl (by kernel_rfl) (fun _ _ _ h => h) inv (fun W hS => by subst hS; exact run_load_row 37 37 _ kx (by rfl) 37 #[.int .u8 x.n, .int .u16 x.l, .int .u32 x.s, .int .u8 x.d, .int .u8 x.a0, .int .u8 x.a1, .int .u8 x.b0, .int .u8 x.b1, .int .u8 x.c0, .int .u8 x.c1] (0, 0) _ HX.out Try.underlying37 rfl (by kernel_rfl)) HS (fun inv => ?_)
      try simp only [Act.put, List.setIfInBounds_toArray, List.set_cons_zero, List.set_cons_succ]
      refine FirstH.go (i := 5) (v := .agg #[.int .u8 x.n, .int .u16 x.l, .int .u32 x.s, .int .u8 x.d, .int .u8 x.a0, .int .u8 x.a1, .int .u8 x.b0, .int .u8 x.b1, .int .u8 x.c0, .int .u8 x.c1]) rfl rfl 12 rfl (Op.load 37 (Operand.tmp 4)) rfl (by kernel_rfl) (fun _ _ _ h => h) inv (fun W hS => by subst hS; exact run_load_row 37 37 _ kx (by rfl) 37 #[.int .u8 x.n, .int .u16 x.l, .int .u32 x.s, .int .u8 x.d, .int .u8 x.a0, .int .u8 x.a1, .int .u8 x.b0, .int .u8 x.b1, .int .u8 x.c0, .int .u8 x.c1] (0, 0) _ HX.out Try.underlying37 rfl (by kernel_rfl)) HS (fun inv => ?_)
      try simp only [Act.put, List.setIfInBounds_toArray, List.set_cons_zero, List.set_cons_succ]
      refine FirstH.go (i := 6) (v := .agg #[.int .u8 code, .string val]) rfl rfl 13 rfl (Op.load 53 (Operand.tmp 5)) rfl (by kernel_rfl) (fun _ _ _ h => h) inv (fun W hS => by subst hS; exact run_load_row 53 53 _ (kx + 1) (by rfl) 53 #[.int .u8 code, .string val] (0, 0) _ HY.out Try.underlying53 rfl (by kernel_rfl)) HS (fun inv => ?_)
      try simp only [Act.put, List.setIfInBounds_toArray, List.set_cons_zero, List.set_cons_succ]
      refine FirstH.go (i := 7) (v := .agg #[.int .u8 x.n, .int .u16 x.l, .int .u32 x.s, .int .u8 x.d, .int .u8 x.a0, .int .u8 x.a1, .int .u8 x.b0, .int .u8 x.b1, .int .u8 x.c0, .int .u8 x.c1, .bool true, .int .u8 code, .string val]) rfl rfl 14 rfl (Op.build 88 #[(0, Operand.tmp 12), (1, Operand.const (Value.bool true)), (2, Operand.tmp 13)]) rfl (by kernel_rfl) (fun _ _ _ h => h) inv (fun W hS => by unfold bareO; first | (go_simp; done) | kernel_rfl) HS (fun inv => ?_)
      try simp only [Act.put, List.setIfInBounds_toArray, List.set_cons_zero, List.set_cons_succ]
      refine ⟨by kernel_rfl, ?_⟩
      simp only [List.drop_succ_cons, List.drop_zero]
      have hr := HR.out
      go_wp2
      go_ret
      rw [E1.out]
      exact ⟨rfl, P6.out, K6.out⟩
    · have e1 := E1.out
      simp only [if_true] at e1
      have E1 := Lib.hid e1
      clear e1
      go_wp2_with fail
      refine region_heldT (S := fun X : World => X = wb.drew) 5 (by kernel_rfl) (by decide) (fun inv => ?_)
      have HP := Lib.hid (HP.out.below (Below.refl _ wb).drew)
      have BK : Hid (Below kx W wb.drew) := Lib.hid BK.out.drew
      have HX : Hid (wb.drew.heap[kx]? = some (.cells #[.int .u8 x.n, .int .u16 x.l, .int .u32 x.s, .int .u8 x.d, .int .u8 x.a0, .int .u8 x.a1, .int .u8 x.b0, .int .u8 x.b1, .int .u8 x.c0, .int .u8 x.c1] 37 (0, 0))) := HX
      have HY : Hid (wb.drew.heap[kx + 1]? = some (.cells #[.int .u8 code, .string val] 53 (0, 0))) := HY
      change FirstH _ _ _ _ _ _ _ _ _ _ wb.drew
      generalize wb.drew = wd at *
      have HS : wd = wd := rfl
      have HB : Hid (wd.heap[b]? = some (.cells #[.int .u32 t.win, .map (some m), .map (some k)] 85 (0, 0))) := Lib.hid HP.out.blk
      obtain ⟨W6, hrun, P6, k6⟩ := HP.out.delR HYY.out 0
      simp only [hyid] at hrun
      have HR := Lib.hid hrun
      have P6 := Lib.hid P6
      have K6 : Hid (KP (fun q => q = m) W W6) := Lib.hid ((KP.of_below (HKX.out.symm ▸ BK.out)).trans k6 (fun i _ e => e))
      clear hrun k6
      refine FirstH.go (i := 0) (v := .pointer (some ⟨b, 0, none⟩)) rfl rfl 24 rfl (Op.move (Operand.tmp 0)) rfl (by kernel_rfl) (fun _ _ _ h => h) inv (fun W hS => by unfold bareO; go_simp) HS (fun inv => ?_)
      try simp only [Act.put, List.setIfInBounds_toArray, List.set_cons_zero, List.set_cons_succ]
      refine FirstH.go (i := 1) (v := .pointer (some ⟨b, 0, none⟩)) rfl rfl 25 rfl (Op.nilCheck (Operand.tmp 24)) rfl (by kernel_rfl) (fun _ _ _ h => h) inv (fun W hS => by unfold bareO; go_simp) HS (fun inv => ?_)
      try simp only [Act.put, List.setIfInBounds_toArray, List.set_cons_zero, List.set_cons_succ]
      refine FirstH.go (i := 2) (v := .pointer (some ⟨b, 1, none⟩)) rfl rfl 26 rfl (Op.fieldAddr 85 (Operand.tmp 25) 1) rfl (by kernel_rfl) (fun _ _ _ h => h) inv (fun W hS => by unfold bareO; go_simp) HS (fun inv => ?_)
      try simp only [Act.put, List.setIfInBounds_toArray, List.set_cons_zero, List.set_cons_succ]
      refine FirstH.go (i := 3) (v := .map (some m)) rfl rfl 27 rfl (Op.load 82 (Operand.tmp 26)) rfl (by kernel_rfl) (fun _ _ _ h => h) inv (fun W hS => by subst hS; have c := cell_of HB.out 1 (.map (some m)) rfl; unfold bareO; go_simp) HS (fun inv => ?_)
      try simp only [Act.put, List.setIfInBounds_toArray, List.set_cons_zero, List.set_cons_succ]
      refine FirstH.go (i := 4) (v := .agg #[.int .u8 x.n, .int .u16 x.l, .int .u32 x.s, .int .u8 x.d, .int .u8 x.a0, .int .u8 x.a1, .int .u8 x.b0, .int .u8 x.b1, .int .u8 x.c0, .int .u8 x.c1]) rfl rfl 28 rfl (Op.load 37 (Operand.tmp 4)) rfl (by kernel_rfl) (fun _ _ _ h => h) inv (fun W hS => by subst hS; exact run_load_row 37 37 _ kx (by rfl) 37 #[.int .u8 x.n, .int .u16 x.l, .int .u32 x.s, .int .u8 x.d, .int .u8 x.a0, .int .u8 x.a1, .int .u8 x.b0, .int .u8 x.b1, .int .u8 x.c0, .int .u8 x.c1] (0, 0) _ HX.out Try.underlying37 rfl (by kernel_rfl)) HS (fun inv => ?_)
      try simp only [Act.put, List.setIfInBounds_toArray, List.set_cons_zero, List.set_cons_succ]
      refine ⟨by kernel_rfl, ?_⟩
      simp only [List.drop_succ_cons, List.drop_zero]
      have hr := HR.out
      go_wp2
      go_ret
      rw [E1.out]
      exact ⟨rfl, P6.out.mono (Nat.le_succ _), K6.out⟩
  · have e1 := E0.out
    rw [if_neg h1] at e1
    have E1 := Lib.hid e1
    have hne : (st == 1) = false := by simpa using h1
    have hne2 : decide (st = 1) = false := by simpa using h1
    clear e1 E0
    go_enter Try.func14, Try.ntmps14
    go_wp2_with (first | rw [HW1.out, HKX.out] | (rw [HW2.out, HS1.out]) | (go_at_call 23; try rw [HW1.out]; try rw [HW2.out]; refine KS.out.mono ?_; rintro e wa ⟨rfl, b2⟩; have HP := Lib.hid (HP.out.below b2); have BK : Hid (Below kx W _) := Lib.hid (BK.out.trans (b2.mono (Nat.le_of_lt (bltA HX.out)))); have HY := Lib.hid ((b2.block _ (bltA HY.out)).trans HY.out); have HX := Lib.hid ((b2.block _ (bltA HX.out)).trans HX.out); clear b2; clear x0 x1 x2 x3 x4 x5 x6 x7 x8 x9 y0 y1) | fail)
    go_ret
    rw [E1.out]
    exact ⟨rfl, HP.out.mono (Nat.le_succ _), KP.of_below (HKX.out.symm ▸ BK.out)⟩

end Go.Proofs.Ytldbmmganicliaa
