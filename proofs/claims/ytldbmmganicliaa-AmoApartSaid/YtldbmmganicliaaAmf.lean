/-
  The program's table: Begin and End, each by what it makes of the plain table. Condition: the table lies in memory, numbers fit their kinds.
-/
import Derived.Test.YtldbmmganicliaaAme
namespace Go.Proofs.Ytldbmmganicliaa
set_option linter.unusedSimpArgs false
set_option linter.unusedVariables false
open Go.RowKit Go.Maps Go.Sort

/-- what Begin answers and makes. -/
def Tt.beg (t : Tt) (x : I10) : Int × Tt := if x.ok = false then (1, t) else if t.state x = 0 then (0, { t with L := insT t.L x }) else if t.state x = 3 then (16, t) else if t.state x = 4 then (10, t) else (4, t)
/-- what End answers and makes. -/
def Tt.fin (t : Tt) (x : I10) (code : Int) (val : ByteArray) : Bool × Tt := if t.state x = 1 then (true, if t.old x then { t with L := delT t.L (fndT t.L x) } else { t with L := setE t.L (fndT t.L x) ((t.L[fndT t.L x]?).getD zrow) code val }) else (false, t)
theorem Tt.state_five (t : Tt) (x : I10) : t.state x = 0 ∨ t.state x = 1 ∨ t.state x = 2 ∨ t.state x = 3 ∨ t.state x = 4 := by
  unfold Tt.state
  split
  · simp
  · split
    · simp
    · split
      · simp
      · split <;> simp
theorem Tt.state_one {t : Tt} {x : I10} (h : t.state x = 1) : ∃ y, t.L[fndT t.L x]? = some y ∧ y.id = x ∧ y.en = false := by
  rw [Tt.state_as] at h
  cases hi : isT t.L x with
  | false =>
    have : (t.row x).en = false := by rw [Tt.row_no hi]; rfl
    rw [this, hi] at h
    simp only [Bool.false_eq_true, if_false] at h
    split at h
    · cases h
    · split at h <;> cases h
  | true =>
    obtain ⟨y, hy, _, e⟩ := isT_row hi
    have hr : t.row x = y := by unfold Tt.row; rw [hi, hy]; rfl
    rw [hr] at h
    cases he : y.en with
    | false => exact ⟨y, hy, eqI_iff.1 e, he⟩
    | true => rw [he] at h; cases h
set_option maxRecDepth 100000 in
set_option maxHeartbeats 4000000 in
theorem aBegin (W : World) (b m k c : Nat) (t : Tt) (h : PT W b m k c t) (x : I10) (rx : x.Rng) (hc : c ≤ 1000000) :
    Calls Try.prog 12 #[.pointer (some ⟨b, 0, none⟩), .agg #[.int .u8 x.n, .int .u16 x.l, .int .u32 x.s, .int .u8 x.d, .int .u8 x.a0, .int .u8 x.a1, .int .u8 x.b0, .int .u8 x.b1, .int .u8 x.c0, .int .u8 x.c1]] W fun e W' => e = .returned (.int .i64 (t.beg x).1) ∧ PT W' b m k (c + 1) (t.beg x).2 ∧ KP (fun q => q = m) W W' := by
  obtain ⟨W1, hW1⟩ : ∃ z, W.alloc (.cells #[.int .u8 x.n, .int .u16 x.l, .int .u32 x.s, .int .u8 x.d, .int .u8 x.a0, .int .u8 x.a1, .int .u8 x.b0, .int .u8 x.b1, .int .u8 x.c0, .int .u8 x.c1] 37) = z := ⟨_, rfl⟩
  have b1 : Below W.heap.size W W1 := by rw [← hW1]; exact (Below.refl _ _).alloc (Nat.le_refl _) _
  obtain ⟨kx, hkx⟩ : ∃ z, W.heap.size = z := ⟨_, rfl⟩
  have R1 : W1.heap[kx]? = some (.cells #[.int .u8 x.n, .int .u16 x.l, .int .u32 x.s, .int .u8 x.d, .int .u8 x.a0, .int .u8 x.a1, .int .u8 x.b0, .int .u8 x.b1, .int .u8 x.c0, .int .u8 x.c1] 37 (0, 0)) := by rw [← hW1, ← hkx]; exact heap_alloc_new _ _
  have h1 := h.below b1
  have B1 : Hid (Below kx W W1) := Lib.hid (hkx ▸ b1)
  have HP := Lib.hid h1
  have HX := Lib.hid R1
  have L1 : Hid (kx < W1.heap.size) := Lib.hid (bltA R1)
  have HL0 : Hid (m < kx) := Lib.hid (hkx ▸ h.ml)
  have HW1 := Lib.hid hW1
  have HKX := Lib.hid hkx
  have HRX := Lib.hid rx
  have HC := Lib.hid hc
  have KM := Lib.hid (aMade W1 b m k c t h1)
  have KR := Lib.hid (rightID x.n x.l x.s x.d x.a0 x.a1 x.b0 x.b1 x.c0 x.c1 W1 rx.d.1)
  have KR : Hid (Calls Try.prog 36 #[.agg #[.int .u8 x.n, .int .u16 x.l, .int .u32 x.s, .int .u8 x.d, .int .u8 x.a0, .int .u8 x.a1, .int .u8 x.b0, .int .u8 x.b1, .int .u8 x.c0, .int .u8 x.c1]] W1 fun e w' => e = .returned (.bool x.ok) ∧ Below W1.heap.size W1 w') := KR
  have x0 := cell_of R1 0 (.int .u8 x.n) rfl
  have x1 := cell_of R1 1 (.int .u16 x.l) rfl
  have x2 := cell_of R1 2 (.int .u32 x.s) rfl
  have x3 := cell_of R1 3 (.int .u8 x.d) rfl
  have x4 := cell_of R1 4 (.int .u8 x.a0) rfl
  have x5 := cell_of R1 5 (.int .u8 x.a1) rfl
  have x6 := cell_of R1 6 (.int .u8 x.b0) rfl
  have x7 := cell_of R1 7 (.int .u8 x.b1) rfl
  have x8 := cell_of R1 8 (.int .u8 x.c0) rfl
  have x9 := cell_of R1 9 (.int .u8 x.c1) rfl
  
  clear h h1 b1 hW1 R1 rx hc
  obtain ⟨r1, hr1⟩ : ∃ q, t.beg x = q := ⟨_, rfl⟩
  rw [hr1]
  have HR1 := Lib.hid hr1
  obtain ⟨bo, hbo⟩ : ∃ q, x.ok = q := ⟨_, rfl⟩
  rw [hbo] at KR
  have HBO := Lib.hid hbo
  clear hr1 hbo
  cases bo
  · have e1 : r1 = (1, t) := by
      rw [← HR1.out]
      unfold Tt.beg
      rw [if_pos HBO.out]
    have E1 := Lib.hid e1
    clear e1
    go_enter Try.func12, Try.ntmps12
    go_wp2_with (first | rw [HW1.out, HKX.out] | (go_at_call 35; rw [HW1.out]; refine KM.out.mono ?_; rintro e w1 ⟨rfl, rfl⟩) | (go_at_call 36; refine KR.out.mono ?_; rintro e W9 ⟨rfl, b9⟩; have HP := Lib.hid (HP.out.below b9); have HX := Lib.hid ((b9.block _ L1.out).trans HX.out); have B9 : Hid (Below kx W W9) := Lib.hid (B1.out.trans (b9.mono (Nat.le_of_lt L1.out))); clear b9 x0 x1 x2 x3 x4 x5 x6 x7 x8 x9; have x0 := cell_of HX.out 0 (.int .u8 x.n) rfl; have x1 := cell_of HX.out 1 (.int .u16 x.l) rfl; have x2 := cell_of HX.out 2 (.int .u32 x.s) rfl; have x3 := cell_of HX.out 3 (.int .u8 x.d) rfl; have x4 := cell_of HX.out 4 (.int .u8 x.a0) rfl; have x5 := cell_of HX.out 5 (.int .u8 x.a1) rfl; have x6 := cell_of HX.out 6 (.int .u8 x.b0) rfl; have x7 := cell_of HX.out 7 (.int .u8 x.b1) rfl; have x8 := cell_of HX.out 8 (.int .u8 x.c0) rfl; have x9 := cell_of HX.out 9 (.int .u8 x.c1) rfl; skip) | fail)
    go_ret
    rw [E1.out]
    exact ⟨rfl, HP.out.mono (by omega), KP.of_below (HKX.out.symm ▸ B9.out)⟩
  · have e1 : ∀ st, t.state x = st → r1 = if st = 0 then (0, { t with L := insT t.L x }) else if st = 3 then (16, t) else if st = 4 then (10, t) else (4, t) := by
      intro st hst
      rw [← HR1.out]
      unfold Tt.beg
      rw [if_neg (by rw [HBO.out]; decide), hst]
    have E0 := Lib.hid e1
    clear e1
    go_enter Try.func12, Try.ntmps12
    go_wp2_with (first | rw [HW1.out, HKX.out] | (go_at_call 35; rw [HW1.out]; refine KM.out.mono ?_; rintro e w1 ⟨rfl, rfl⟩) | (go_at_call 36; refine KR.out.mono ?_; rintro e W9 ⟨rfl, b9⟩; have HP := Lib.hid (HP.out.below b9); have HX := Lib.hid ((b9.block _ L1.out).trans HX.out); have B9 : Hid (Below kx W W9) := Lib.hid (B1.out.trans (b9.mono (Nat.le_of_lt L1.out))); clear b9 x0 x1 x2 x3 x4 x5 x6 x7 x8 x9; have x0 := cell_of HX.out 0 (.int .u8 x.n) rfl; have x1 := cell_of HX.out 1 (.int .u16 x.l) rfl; have x2 := cell_of HX.out 2 (.int .u32 x.s) rfl; have x3 := cell_of HX.out 3 (.int .u8 x.d) rfl; have x4 := cell_of HX.out 4 (.int .u8 x.a0) rfl; have x5 := cell_of HX.out 5 (.int .u8 x.a1) rfl; have x6 := cell_of HX.out 6 (.int .u8 x.b0) rfl; have x7 := cell_of HX.out 7 (.int .u8 x.b1) rfl; have x8 := cell_of HX.out 8 (.int .u8 x.c0) rfl; have x9 := cell_of HX.out 9 (.int .u8 x.c1) rfl; skip) | (go_at_call 23; fail) | fail)
    have KS := Lib.hid (aState W9 b m k c t HP.out x HRX.out)
    obtain ⟨st, hst⟩ : ∃ q, t.state x = q := ⟨_, rfl⟩
    have h5 := t.state_five x
    have e1 := E0.out st hst
    have E1 := Lib.hid e1
    rw [hst] at KS h5
    have HST := Lib.hid hst
    clear e1 hst HR1 E0
    refine KS.out.mono ?_
    rintro e W2 ⟨rfl, b2⟩
    have HP := Lib.hid (HP.out.below b2)
    have BK : Hid (Below kx W W2) := Lib.hid (B9.out.trans (b2.mono (Nat.le_of_lt (bltA HX.out))))
    have HX := Lib.hid ((b2.block _ (bltA HX.out)).trans HX.out)
    clear b2 KS x0 x1 x2 x3 x4 x5 x6 x7 x8 x9
    have fin : Hid (r1 = (r1.1, t) → PT W2 b m k (c + 1) r1.2 ∧ KP (fun q => q = m) W W2) := Lib.hid fun e => by
      rw [e]
      exact ⟨HP.out.mono (by omega), KP.of_below (HKX.out.symm ▸ BK.out)⟩
    rcases h5 with rfl | rfl | rfl | rfl | rfl
    rotate_left
    · go_wp2_with fail
      go_ret
      have e1 := E1.out
      simp only [show ((1 : Int) = 0) = False by simp, show ((1 : Int) = 3) = False by simp, show ((1 : Int) = 4) = False by simp, if_false] at e1
      exact ⟨by rw [e1]; rfl, fin.out (by rw [e1])⟩
    · go_wp2_with fail
      go_ret
      have e1 := E1.out
      simp only [show ((2 : Int) = 0) = False by simp, show ((2 : Int) = 3) = False by simp, show ((2 : Int) = 4) = False by simp, if_false] at e1
      exact ⟨by rw [e1]; rfl, fin.out (by rw [e1])⟩
    · go_wp2_with fail
      go_ret
      have e1 := E1.out
      simp only [show ((3 : Int) = 0) = False by simp, if_false, if_true] at e1
      exact ⟨by rw [e1]; rfl, fin.out (by rw [e1])⟩
    · go_wp2_with fail
      go_ret
      have e1 := E1.out
      simp only [show ((4 : Int) = 0) = False by simp, show ((4 : Int) = 3) = False by simp, if_false, if_true] at e1
      exact ⟨by rw [e1]; rfl, fin.out (by rw [e1])⟩
    have e1 := E1.out
    simp only [if_true] at e1
    have E1 := Lib.hid e1
    clear e1 fin
    go_wp2_with fail
    refine region_heldT (S := fun X : World => X = W2.drew) 7 (by kernel_rfl) (by decide) (fun inv => ?_)
    have HP := Lib.hid (HP.out.below (Below.refl _ W2).drew)
    have BK : Hid (Below kx W W2.drew) := Lib.hid BK.out.drew
    have HX : Hid (W2.drew.heap[kx]? = some (.cells #[.int .u8 x.n, .int .u16 x.l, .int .u32 x.s, .int .u8 x.d, .int .u8 x.a0, .int .u8 x.a1, .int .u8 x.b0, .int .u8 x.b1, .int .u8 x.c0, .int .u8 x.c1] 37 (0, 0))) := HX
    change FirstH _ _ _ _ _ _ _ _ _ _ W2.drew
    generalize W2.drew = wd at *
    have HS : wd = wd := rfl
    have HB : Hid (wd.heap[b]? = some (.cells #[.int .u32 t.win, .map (some m), .map (some k)] 85 (0, 0))) := Lib.hid HP.out.blk
    obtain ⟨W6, hrun, P6, k6⟩ := HP.out.ins x HRX.out HBO.out (state_fresh HST.out) HC.out
    have HR := Lib.hid hrun
    have P6 := Lib.hid P6
    have K6 : Hid (KP (fun q => q = m) W W6) := Lib.hid ((KP.of_below (HKX.out.symm ▸ BK.out)).trans k6 (fun i _ e => e))
    clear hrun k6
    refine FirstH.go (i := 0) (v := .pointer (some ⟨b, 0, none⟩)) rfl rfl 23 rfl (Op.move (Operand.tmp 0)) rfl (by kernel_rfl) (fun _ _ _ h => h) inv (fun W hS => by unfold bareO; go_simp) HS (fun inv => ?_)
    try simp only [Act.put, List.setIfInBounds_toArray, List.set_cons_zero, List.set_cons_succ]
    refine FirstH.go (i := 1) (v := .pointer (some ⟨b, 0, none⟩)) rfl rfl 24 rfl (Op.nilCheck (Operand.tmp 23)) rfl (by kernel_rfl) (fun _ _ _ h => h) inv (fun W hS => by unfold bareO; go_simp) HS (fun inv => ?_)
    try simp only [Act.put, List.setIfInBounds_toArray, List.set_cons_zero, List.set_cons_succ]
    refine FirstH.go (i := 2) (v := .pointer (some ⟨b, 1, none⟩)) rfl rfl 25 rfl (Op.fieldAddr 85 (Operand.tmp 24) 1) rfl (by kernel_rfl) (fun _ _ _ h => h) inv (fun W hS => by unfold bareO; go_simp) HS (fun inv => ?_)
    try simp only [Act.put, List.setIfInBounds_toArray, List.set_cons_zero, List.set_cons_succ]
    refine FirstH.go (i := 3) (v := .map (some m)) rfl rfl 26 rfl (Op.load 82 (Operand.tmp 25)) rfl (by kernel_rfl) (fun _ _ _ h => h) inv (fun W hS => by subst hS; have c := cell_of HB.out 1 (.map (some m)) rfl; unfold bareO; go_simp) HS (fun inv => ?_)
    try simp only [Act.put, List.setIfInBounds_toArray, List.set_cons_zero, List.set_cons_succ]
    refine FirstH.go (i := 4) (v := .agg #[.int .u8 x.n, .int .u16 x.l, .int .u32 x.s, .int .u8 x.d, .int .u8 x.a0, .int .u8 x.a1, .int .u8 x.b0, .int .u8 x.b1, .int .u8 x.c0, .int .u8 x.c1]) rfl rfl 27 rfl (Op.load 37 (Operand.tmp 3)) rfl (by kernel_rfl) (fun _ _ _ h => h) inv (fun W hS => by subst hS; exact run_load_row 37 37 _ kx (by rfl) 37 #[.int .u8 x.n, .int .u16 x.l, .int .u32 x.s, .int .u8 x.d, .int .u8 x.a0, .int .u8 x.a1, .int .u8 x.b0, .int .u8 x.b1, .int .u8 x.c0, .int .u8 x.c1] (0, 0) _ HX.out Try.underlying37 rfl (by kernel_rfl)) HS (fun inv => ?_)
    try simp only [Act.put, List.setIfInBounds_toArray, List.set_cons_zero, List.set_cons_succ]
    refine FirstH.go (i := 5) (v := .agg #[.int .u8 x.n, .int .u16 x.l, .int .u32 x.s, .int .u8 x.d, .int .u8 x.a0, .int .u8 x.a1, .int .u8 x.b0, .int .u8 x.b1, .int .u8 x.c0, .int .u8 x.c1]) rfl rfl 28 rfl (Op.load 37 (Operand.tmp 3)) rfl (by kernel_rfl) (fun _ _ _ h => h) inv (fun W hS => by subst hS; exact run_load_row 37 37 _ kx (by rfl) 37 #[.int .u8 x.n, .int .u16 x.l, .int .u32 x.s, .int .u8 x.d, .int .u8 x.a0, .int .u8 x.a1, .int .u8 x.b0, .int .u8 x.b1, .int .u8 x.c0, .int .u8 x.c1] (0, 0) _ HX.out Try.underlying37 rfl (by kernel_rfl)) HS (fun inv => ?_)
    try simp only [Act.put, List.setIfInBounds_toArray, List.set_cons_zero, List.set_cons_succ]
    refine FirstH.go (i := 6) (v := .agg #[.int .u8 x.n, .int .u16 x.l, .int .u32 x.s, .int .u8 x.d, .int .u8 x.a0, .int .u8 x.a1, .int .u8 x.b0, .int .u8 x.b1, .int .u8 x.c0, .int .u8 x.c1, .bool false, .int .u8 0, .string ⟨#[]⟩]) rfl rfl 29 rfl (Op.build 88 #[(0, Operand.tmp 28)]) rfl (by kernel_rfl) (fun _ _ _ h => h) inv (fun W hS => by unfold bareO; first | (go_simp; done) | kernel_rfl) HS (fun inv => ?_)
    try simp only [Act.put, List.setIfInBounds_toArray, List.set_cons_zero, List.set_cons_succ]
    refine ⟨by kernel_rfl, ?_⟩
    simp only [List.drop_succ_cons, List.drop_zero]
    have hr := HR.out
    go_wp2
    go_ret
    rw [E1.out]
    exact ⟨rfl, P6.out, K6.out⟩

end Go.Proofs.Ytldbmmganicliaa
