/-
  An act on the program's table: what it makes of the plain table; the law's do, by a contract. Condition: the table lies in memory, numbers fit their kinds.
-/
import Derived.Test.YtldbmmganicliaaAmm
import Derived.Test.YtldbmmganicliaaAmi
namespace Go.Proofs.Ytldbmmganicliaa
set_option linter.unusedSimpArgs false
set_option linter.unusedVariables false
open Go.RowKit Go.Maps Go.Sort

/-- what an act makes, and whether it began a call. -/
def Tt.act (t : Tt) (a : Ac) : Bool × Tt :=
  if a.kd = 0 ∨ a.kd = 1 ∨ a.kd = 2 then (decide ((t.beg a.x).1 = 0), (t.beg a.x).2)
  else if a.kd = 3 ∨ a.kd = 4 then (false, (t.fin a.x a.code a.val).2)
  else if a.kd = 5 then (false, t.rse a.x.n a.x.l a.n)
  else (false, t)
set_option maxRecDepth 100000 in
set_option maxHeartbeats 4000000 in
theorem doA (W : World) (b m k c : Nat) (t : Tt) (h : PT W b m k c t) (a : Ac) (ha : a.ok) (hc : c ≤ 1000000) :
    Calls Try.prog 30 #[.pointer (some ⟨b, 0, none⟩), .agg a.cs.toArray] W fun e W' => e = .returned (.bool (t.act a).1) ∧ PT W' b m k (c + 1) (t.act a).2 ∧ KP (fun q => q = m ∨ q = k) W W' := by
  obtain ⟨kd, x, code, val, n⟩ := a
  obtain ⟨_, rx, rc, _, rn⟩ := ha
  dsimp only at rx rc rn
  show Calls Try.prog 30 #[.pointer (some ⟨b, 0, none⟩), .agg #[.int .i64 kd, .int .u8 x.n, .int .u16 x.l, .int .u32 x.s, .int .u8 x.d, .int .u8 x.a0, .int .u8 x.a1, .int .u8 x.b0, .int .u8 x.b1, .int .u8 x.c0, .int .u8 x.c1, .int .u8 code, .string val, .int .u32 n]] W _
  obtain ⟨W1, hW1⟩ : ∃ z, W.alloc (.cells #[.int .i64 kd, .int .u8 x.n, .int .u16 x.l, .int .u32 x.s, .int .u8 x.d, .int .u8 x.a0, .int .u8 x.a1, .int .u8 x.b0, .int .u8 x.b1, .int .u8 x.c0, .int .u8 x.c1, .int .u8 code, .string val, .int .u32 n] 47) = z := ⟨_, rfl⟩
  have b1 : Below W.heap.size W W1 := by rw [← hW1]; exact (Below.refl _ _).alloc (Nat.le_refl _) _
  obtain ⟨kx, hkx⟩ : ∃ z, W.heap.size = z := ⟨_, rfl⟩
  have R1 : W1.heap[kx]? = some (.cells #[.int .i64 kd, .int .u8 x.n, .int .u16 x.l, .int .u32 x.s, .int .u8 x.d, .int .u8 x.a0, .int .u8 x.a1, .int .u8 x.b0, .int .u8 x.b1, .int .u8 x.c0, .int .u8 x.c1, .int .u8 code, .string val, .int .u32 n] 47 (0, 0)) := by rw [← hW1, ← hkx]; exact heap_alloc_new _ _
  have h1 := h.below b1
  have HK1 := Lib.hid (toID x.n x.l x.s x.d x.a0 x.a1 x.b0 x.b1 x.c0 x.c1 W1)
  have HP := Lib.hid h1
  have BK : Hid (Below kx W W1) := Lib.hid (hkx ▸ b1)
  have HX := Lib.hid R1
  have L1 : Hid (kx ≤ W1.heap.size) := Lib.hid (Nat.le_of_lt (bltA R1))
  have HW1 := Lib.hid hW1
  have HKX := Lib.hid hkx
  have HRX := Lib.hid rx
  have HRC := Lib.hid rc
  have HRN := Lib.hid rn
  have HC := Lib.hid hc
  have HM : Hid (m < kx ∧ k < kx) := Lib.hid ⟨hkx ▸ h.ml, hkx ▸ h.kl⟩
  have x0 := cell_of R1 1 (.int .u8 x.n) rfl
  have x1 := cell_of R1 2 (.int .u16 x.l) rfl
  have x2 := cell_of R1 3 (.int .u32 x.s) rfl
  have x3 := cell_of R1 4 (.int .u8 x.d) rfl
  have x4 := cell_of R1 5 (.int .u8 x.a0) rfl
  have x5 := cell_of R1 6 (.int .u8 x.a1) rfl
  have x6 := cell_of R1 7 (.int .u8 x.b0) rfl
  have x7 := cell_of R1 8 (.int .u8 x.b1) rfl
  have x8 := cell_of R1 9 (.int .u8 x.c0) rfl
  have x9 := cell_of R1 10 (.int .u8 x.c1) rfl
  clear h h1 b1 hW1 R1 rx rc rn hc hkx
  obtain ⟨r, hr⟩ : ∃ q, t.act ⟨kd, x, code, val, n⟩ = q := ⟨_, rfl⟩
  rw [hr]
  have HR := Lib.hid hr
  clear hr
  go_enter Try.func30, Try.ntmps30
  go_wp2_with (first | (rw [HW1.out]; try rw [HKX.out]) | fail)
  try rw [HW1.out]
  refine HK1.out.mono ?_
  rintro e W2 ⟨rfl, b2⟩
  have HP := Lib.hid (HP.out.below b2)
  have HX := Lib.hid ((b2.block _ (bltA HX.out)).trans HX.out)
  have BK : Hid (Below kx W W2) := Lib.hid (BK.out.trans (b2.mono L1.out))
  clear b2 x0 x1 x2 x3 x4 x5 x6 x7 x8 x9 HK1
  obtain ⟨W3, hW3⟩ : ∃ z, W2.alloc (.cells #[.int .u8 x.n, .int .u16 x.l, .int .u32 x.s, .int .u8 x.d, .int .u8 x.a0, .int .u8 x.a1, .int .u8 x.b0, .int .u8 x.b1, .int .u8 x.c0, .int .u8 x.c1] 37) = z := ⟨_, rfl⟩
  obtain ⟨ka, hka⟩ : ∃ z, W2.heap.size = z := ⟨_, rfl⟩
  have b3 : Below W2.heap.size W2 W3 := by rw [← hW3]; exact (Below.refl _ _).alloc (Nat.le_refl _) _
  have RI : Hid (W3.heap[ka]? = some (.cells #[.int .u8 x.n, .int .u16 x.l, .int .u32 x.s, .int .u8 x.d, .int .u8 x.a0, .int .u8 x.a1, .int .u8 x.b0, .int .u8 x.b1, .int .u8 x.c0, .int .u8 x.c1] 37 (0, 0))) := Lib.hid (by rw [← hW3, ← hka]; exact heap_alloc_new _ _)
  have BK : Hid (Below kx W W3) := Lib.hid (BK.out.trans (b3.mono (Nat.le_of_lt (bltA HX.out))))
  have HX := Lib.hid ((b3.block _ (bltA HX.out)).trans HX.out)
  have HP := Lib.hid (HP.out.below b3)
  have HW3 := Lib.hid hW3
  have HKA := Lib.hid hka
  have L3 : Hid (kx ≤ W3.heap.size) := Lib.hid (Nat.le_of_lt (bltA HX.out))
  have KPW : Hid (KP (fun q => q = m ∨ q = k) W W3) := Lib.hid (KP.of_below (HKX.out.symm ▸ BK.out))
  clear b3 hW3 hka
  have kd0 := cell_of HX.out 0 (.int .i64 kd) rfl
  have q11 := cell_of HX.out 11 (.int .u8 code) rfl
  have q12 := cell_of HX.out 12 (.string val) rfl
  have q13 := cell_of HX.out 13 (.int .u32 n) rfl
  have x0 := cell_of RI.out 0 (.int .u8 x.n) rfl
  have x1 := cell_of RI.out 1 (.int .u16 x.l) rfl
  have x2 := cell_of RI.out 2 (.int .u32 x.s) rfl
  have x3 := cell_of RI.out 3 (.int .u8 x.d) rfl
  have x4 := cell_of RI.out 4 (.int .u8 x.a0) rfl
  have x5 := cell_of RI.out 5 (.int .u8 x.a1) rfl
  have x6 := cell_of RI.out 6 (.int .u8 x.b0) rfl
  have x7 := cell_of RI.out 7 (.int .u8 x.b1) rfl
  have x8 := cell_of RI.out 8 (.int .u8 x.c0) rfl
  have x9 := cell_of RI.out 9 (.int .u8 x.c1) rfl
  
  have A3 : Hid (∀ s, s = W2.heap.size → s = ka) := Lib.hid (fun s h => h.trans HKA.out)
  by_cases k0 : kd = 0
  · subst k0
    have e1 : r = (decide ((t.beg x).1 = 0), (t.beg x).2) := by rw [← HR.out]; simp [Tt.act]
    have kb := aBegin W3 b m k c t HP.out x HRX.out HC.out
    obtain ⟨⟨bz, bt⟩, hbg⟩ : ∃ q, t.beg x = q := ⟨_, rfl⟩
    rw [hbg] at e1 kb
    dsimp only at e1 kb
    have E1 := Lib.hid e1
    have KB := Lib.hid kb
    clear e1 kb hbg
    go_wp2_with (first | (rw [HW3.out]; try rw [HKA.out]) | fail)
    try rw [HW3.out]
    refine KB.out.mono ?_
    rintro e w4 ⟨rfl, P4, k4⟩
    have P4 := Lib.hid P4
    have K4 : Hid (KP (fun q => q = m ∨ q = k) W w4) := Lib.hid (KPW.out.trans k4 (fun i _ e => .inl e))
    clear k4
    go_wp2_with fail
    refine (numA _ _).mono ?_
    rintro e w5 ⟨rfl, rfl⟩
    go_wp2_with fail
    go_ret
    rw [E1.out]
    exact ⟨ret_bool (by by_cases hz : bz = 0 <;> simp [hz]), P4.out, K4.out⟩
  by_cases k1 : kd = 1
  · subst k1
    have e1 : r = (decide ((t.beg x).1 = 0), (t.beg x).2) := by rw [← HR.out]; simp [Tt.act]
    have kb := aBegin W3 b m k c t HP.out x HRX.out HC.out
    obtain ⟨⟨bz, bt⟩, hbg⟩ : ∃ q, t.beg x = q := ⟨_, rfl⟩
    rw [hbg] at e1 kb
    dsimp only at e1 kb
    have E1 := Lib.hid e1
    have KB := Lib.hid kb
    clear e1 kb hbg
    go_wp2_with (first | (rw [HW3.out]; try rw [HKA.out]) | fail)
    try rw [HW3.out]
    refine KB.out.mono ?_
    rintro e w4 ⟨rfl, P4, k4⟩
    have P4 := Lib.hid P4
    have K4 : Hid (KP (fun q => q = m ∨ q = k) W w4) := Lib.hid (KPW.out.trans k4 (fun i _ e => .inl e))
    clear k4
    go_wp2_with fail
    refine (numA _ _).mono ?_
    rintro e w5 ⟨rfl, rfl⟩
    go_wp2_with fail
    go_ret
    rw [E1.out]
    exact ⟨ret_bool (by by_cases hz : bz = 0 <;> simp [hz]), P4.out, K4.out⟩
  by_cases k2 : kd = 2
  · subst k2
    have e1 : r = (decide ((t.beg x).1 = 0), (t.beg x).2) := by rw [← HR.out]; simp [Tt.act]
    have kb := aBegin W3 b m k c t HP.out x HRX.out HC.out
    obtain ⟨⟨bz, bt⟩, hbg⟩ : ∃ q, t.beg x = q := ⟨_, rfl⟩
    rw [hbg] at e1 kb
    dsimp only at e1 kb
    have E1 := Lib.hid e1
    have KB := Lib.hid kb
    clear e1 kb hbg
    go_wp2_with (first | (rw [HW3.out]; try rw [HKA.out]) | fail)
    try rw [HW3.out]
    refine KB.out.mono ?_
    rintro e w4 ⟨rfl, P4, k4⟩
    have P4 := Lib.hid P4
    have K4 : Hid (KP (fun q => q = m ∨ q = k) W w4) := Lib.hid (KPW.out.trans k4 (fun i _ e => .inl e))
    clear k4
    go_wp2_with fail
    refine (numA _ _).mono ?_
    rintro e w5 ⟨rfl, rfl⟩
    go_wp2_with fail
    go_ret
    rw [E1.out]
    exact ⟨ret_bool (by by_cases hz : bz = 0 <;> simp [hz]), P4.out, K4.out⟩
  by_cases k3 : kd = 3
  · subst k3
    have e1 : r = (false, (t.fin x code val).2) := by rw [← HR.out]; simp [Tt.act]
    have E1 := Lib.hid e1
    clear e1
    go_wp2_with (first | (rw [HW3.out]; try rw [HKA.out]) | fail)
    try rw [HW3.out]
    refine region_heldT (S := fun X : World => (X.heap[ka]? = some (.cells #[.int .u8 x.n, .int .u16 x.l, .int .u32 x.s, .int .u8 x.d, .int .u8 x.a0, .int .u8 x.a1, .int .u8 x.b0, .int .u8 x.b1, .int .u8 x.c0, .int .u8 x.c1] 37 (0, 0)) ∧ X.heap[kx]? = some (.cells #[.int .i64 3, .int .u8 x.n, .int .u16 x.l, .int .u32 x.s, .int .u8 x.d, .int .u8 x.a0, .int .u8 x.a1, .int .u8 x.b0, .int .u8 x.b1, .int .u8 x.c0, .int .u8 x.c1, .int .u8 code, .string val, .int .u32 n] 47 (0, 0)))) 5 (by kernel_rfl) (by decide) (fun inv => ?_)
    have HS : (W3.drew.heap[ka]? = some (.cells #[.int .u8 x.n, .int .u16 x.l, .int .u32 x.s, .int .u8 x.d, .int .u8 x.a0, .int .u8 x.a1, .int .u8 x.b0, .int .u8 x.b1, .int .u8 x.c0, .int .u8 x.c1] 37 (0, 0)) ∧ W3.drew.heap[kx]? = some (.cells #[.int .i64 3, .int .u8 x.n, .int .u16 x.l, .int .u32 x.s, .int .u8 x.d, .int .u8 x.a0, .int .u8 x.a1, .int .u8 x.b0, .int .u8 x.b1, .int .u8 x.c0, .int .u8 x.c1, .int .u8 code, .string val, .int .u32 n] 47 (0, 0))) := ⟨RI.out, HX.out⟩
    have HP := Lib.hid (HP.out.below (Below.refl _ W3).drew)
    have KPW : Hid (KP (fun q => q = m ∨ q = k) W W3.drew) := Lib.hid (KPW.out.trans (KP.of_below (Below.refl _ W3).drew : KP (fun q => q = m ∨ q = k) W3 W3.drew) (fun i _ e => e))
    change FirstH _ _ _ _ _ _ _ _ _ _ W3.drew
    generalize W3.drew = wd at *
    clear kd0 q11 q12 q13 x0 x1 x2 x3 x4 x5 x6 x7 x8 x9
    refine FirstH.go (i := 0) (v := .pointer (some ⟨b, 0, none⟩)) rfl rfl 23 rfl (Op.move (Operand.tmp 0)) rfl (by kernel_rfl) (fun _ _ _ h => h) inv (fun W hS => by unfold bareO; go_simp) HS (fun inv => ?_)
    try simp only [Act.put, List.setIfInBounds_toArray, List.set_cons_zero, List.set_cons_succ]
    refine FirstH.go (i := 1) (v := .agg #[.int .u8 x.n, .int .u16 x.l, .int .u32 x.s, .int .u8 x.d, .int .u8 x.a0, .int .u8 x.a1, .int .u8 x.b0, .int .u8 x.b1, .int .u8 x.c0, .int .u8 x.c1]) rfl rfl 24 rfl (Op.load 37 (Operand.tmp 5)) rfl (by kernel_rfl) (fun _ _ _ h => h) inv (fun W hS => by exact run_load_row 37 37 _ ka (by rfl) 37 #[.int .u8 x.n, .int .u16 x.l, .int .u32 x.s, .int .u8 x.d, .int .u8 x.a0, .int .u8 x.a1, .int .u8 x.b0, .int .u8 x.b1, .int .u8 x.c0, .int .u8 x.c1] (0, 0) _ hS.1 Try.underlying37 rfl (by kernel_rfl)) HS (fun inv => ?_)
    try simp only [Act.put, List.setIfInBounds_toArray, List.set_cons_zero, List.set_cons_succ]
    refine FirstH.go (i := 2) (v := .pointer (some ⟨kx, 11, none⟩)) rfl rfl 25 rfl (Op.fieldAddr 47 (Operand.tmp 3) 2) rfl (by kernel_rfl) (fun _ _ _ h => h) inv (fun W hS => by unfold bareO; go_simp) HS (fun inv => ?_)
    try simp only [Act.put, List.setIfInBounds_toArray, List.set_cons_zero, List.set_cons_succ]
    refine FirstH.go (i := 3) (v := .agg #[.int .u8 code, .string val]) rfl rfl 26 rfl (Op.load 45 (Operand.tmp 25)) rfl (by kernel_rfl) (fun _ _ _ h => h) inv (fun W hS => by have c0 := cell_of hS.2 11 (.int .u8 code) rfl; have c1 := cell_of hS.2 12 (.string val) rfl; unfold bareO; go_simp) HS (fun inv => ?_)
    try simp only [Act.put, List.setIfInBounds_toArray, List.set_cons_zero, List.set_cons_succ]
    refine FirstH.only (i := 4) (by kernel_rfl) (by decide) inv (fun inv => wpOp_call (i := 4) rfl rfl 27 rfl (Op.call { callee := Callee.value (.func 15), args := #[Operand.tmp 26], argTypes := #[45] }) rfl 15 #[.agg #[.int .u8 code, .string val]] (by unfold bareO; go_simp) (toResA code val wd) ?_)
    rintro e w4 ⟨rfl, b4⟩
    have HP := Lib.hid (HP.out.below b4)
    have KPW : Hid (KP (fun q => q = m ∨ q = k) W w4) := Lib.hid (KPW.out.trans (KP.of_below b4 : KP (fun q => q = m ∨ q = k) wd w4) (fun i _ e => e))
    have HS4 : (w4.heap[ka]? = some (.cells #[.int .u8 x.n, .int .u16 x.l, .int .u32 x.s, .int .u8 x.d, .int .u8 x.a0, .int .u8 x.a1, .int .u8 x.b0, .int .u8 x.b1, .int .u8 x.c0, .int .u8 x.c1] 37 (0, 0)) ∧ w4.heap[kx]? = some (.cells #[.int .i64 3, .int .u8 x.n, .int .u16 x.l, .int .u32 x.s, .int .u8 x.d, .int .u8 x.a0, .int .u8 x.a1, .int .u8 x.b0, .int .u8 x.b1, .int .u8 x.c0, .int .u8 x.c1, .int .u8 code, .string val, .int .u32 n] 47 (0, 0))) := ⟨(b4.block _ (bltA HS.1)).trans HS.1, (b4.block _ (bltA HS.2)).trans HS.2⟩
    clear b4
    refine ⟨_, rfl, HS4, by kernel_rfl, ?_⟩
    simp only [Act.put, List.setIfInBounds_toArray, List.set_cons_zero, List.set_cons_succ, List.drop_succ_cons, List.drop_zero]
    have KE := Lib.hid (aEnd w4 b m k c t HP.out x HRX.out code val HRC.out HC.out)
    clear HS HS4 inv
    go_wp2_with (first | (go_at_call 14; refine KE.out.mono ?_; rintro e w5 ⟨rfl, P4, k4⟩; have P4 := Lib.hid P4; have K4 : Hid (KP (fun q => q = m ∨ q = k) W w5) := Lib.hid (KPW.out.trans k4 (fun i _ e => .inl e)); clear k4) | fail)
    go_ret
    rw [E1.out]
    exact ⟨rfl, P4.out, K4.out⟩
  by_cases k4 : kd = 4
  · subst k4
    have e1 : r = (false, (t.fin x code val).2) := by rw [← HR.out]; simp [Tt.act]
    have E1 := Lib.hid e1
    clear e1
    go_wp2_with (first | (rw [HW3.out]; try rw [HKA.out]) | fail)
    try rw [HW3.out]
    refine region_heldT (S := fun X : World => (X.heap[ka]? = some (.cells #[.int .u8 x.n, .int .u16 x.l, .int .u32 x.s, .int .u8 x.d, .int .u8 x.a0, .int .u8 x.a1, .int .u8 x.b0, .int .u8 x.b1, .int .u8 x.c0, .int .u8 x.c1] 37 (0, 0)) ∧ X.heap[kx]? = some (.cells #[.int .i64 4, .int .u8 x.n, .int .u16 x.l, .int .u32 x.s, .int .u8 x.d, .int .u8 x.a0, .int .u8 x.a1, .int .u8 x.b0, .int .u8 x.b1, .int .u8 x.c0, .int .u8 x.c1, .int .u8 code, .string val, .int .u32 n] 47 (0, 0)))) 5 (by kernel_rfl) (by decide) (fun inv => ?_)
    have HS : (W3.drew.heap[ka]? = some (.cells #[.int .u8 x.n, .int .u16 x.l, .int .u32 x.s, .int .u8 x.d, .int .u8 x.a0, .int .u8 x.a1, .int .u8 x.b0, .int .u8 x.b1, .int .u8 x.c0, .int .u8 x.c1] 37 (0, 0)) ∧ W3.drew.heap[kx]? = some (.cells #[.int .i64 4, .int .u8 x.n, .int .u16 x.l, .int .u32 x.s, .int .u8 x.d, .int .u8 x.a0, .int .u8 x.a1, .int .u8 x.b0, .int .u8 x.b1, .int .u8 x.c0, .int .u8 x.c1, .int .u8 code, .string val, .int .u32 n] 47 (0, 0))) := ⟨RI.out, HX.out⟩
    have HP := Lib.hid (HP.out.below (Below.refl _ W3).drew)
    have KPW : Hid (KP (fun q => q = m ∨ q = k) W W3.drew) := Lib.hid (KPW.out.trans (KP.of_below (Below.refl _ W3).drew : KP (fun q => q = m ∨ q = k) W3 W3.drew) (fun i _ e => e))
    change FirstH _ _ _ _ _ _ _ _ _ _ W3.drew
    generalize W3.drew = wd at *
    clear kd0 q11 q12 q13 x0 x1 x2 x3 x4 x5 x6 x7 x8 x9
    refine FirstH.go (i := 0) (v := .pointer (some ⟨b, 0, none⟩)) rfl rfl 23 rfl (Op.move (Operand.tmp 0)) rfl (by kernel_rfl) (fun _ _ _ h => h) inv (fun W hS => by unfold bareO; go_simp) HS (fun inv => ?_)
    try simp only [Act.put, List.setIfInBounds_toArray, List.set_cons_zero, List.set_cons_succ]
    refine FirstH.go (i := 1) (v := .agg #[.int .u8 x.n, .int .u16 x.l, .int .u32 x.s, .int .u8 x.d, .int .u8 x.a0, .int .u8 x.a1, .int .u8 x.b0, .int .u8 x.b1, .int .u8 x.c0, .int .u8 x.c1]) rfl rfl 24 rfl (Op.load 37 (Operand.tmp 5)) rfl (by kernel_rfl) (fun _ _ _ h => h) inv (fun W hS => by exact run_load_row 37 37 _ ka (by rfl) 37 #[.int .u8 x.n, .int .u16 x.l, .int .u32 x.s, .int .u8 x.d, .int .u8 x.a0, .int .u8 x.a1, .int .u8 x.b0, .int .u8 x.b1, .int .u8 x.c0, .int .u8 x.c1] (0, 0) _ hS.1 Try.underlying37 rfl (by kernel_rfl)) HS (fun inv => ?_)
    try simp only [Act.put, List.setIfInBounds_toArray, List.set_cons_zero, List.set_cons_succ]
    refine FirstH.go (i := 2) (v := .pointer (some ⟨kx, 11, none⟩)) rfl rfl 25 rfl (Op.fieldAddr 47 (Operand.tmp 3) 2) rfl (by kernel_rfl) (fun _ _ _ h => h) inv (fun W hS => by unfold bareO; go_simp) HS (fun inv => ?_)
    try simp only [Act.put, List.setIfInBounds_toArray, List.set_cons_zero, List.set_cons_succ]
    refine FirstH.go (i := 3) (v := .agg #[.int .u8 code, .string val]) rfl rfl 26 rfl (Op.load 45 (Operand.tmp 25)) rfl (by kernel_rfl) (fun _ _ _ h => h) inv (fun W hS => by have c0 := cell_of hS.2 11 (.int .u8 code) rfl; have c1 := cell_of hS.2 12 (.string val) rfl; unfold bareO; go_simp) HS (fun inv => ?_)
    try simp only [Act.put, List.setIfInBounds_toArray, List.set_cons_zero, List.set_cons_succ]
    refine FirstH.only (i := 4) (by kernel_rfl) (by decide) inv (fun inv => wpOp_call (i := 4) rfl rfl 27 rfl (Op.call { callee := Callee.value (.func 15), args := #[Operand.tmp 26], argTypes := #[45] }) rfl 15 #[.agg #[.int .u8 code, .string val]] (by unfold bareO; go_simp) (toResA code val wd) ?_)
    rintro e w4 ⟨rfl, b4⟩
    have HP := Lib.hid (HP.out.below b4)
    have KPW : Hid (KP (fun q => q = m ∨ q = k) W w4) := Lib.hid (KPW.out.trans (KP.of_below b4 : KP (fun q => q = m ∨ q = k) wd w4) (fun i _ e => e))
    have HS4 : (w4.heap[ka]? = some (.cells #[.int .u8 x.n, .int .u16 x.l, .int .u32 x.s, .int .u8 x.d, .int .u8 x.a0, .int .u8 x.a1, .int .u8 x.b0, .int .u8 x.b1, .int .u8 x.c0, .int .u8 x.c1] 37 (0, 0)) ∧ w4.heap[kx]? = some (.cells #[.int .i64 4, .int .u8 x.n, .int .u16 x.l, .int .u32 x.s, .int .u8 x.d, .int .u8 x.a0, .int .u8 x.a1, .int .u8 x.b0, .int .u8 x.b1, .int .u8 x.c0, .int .u8 x.c1, .int .u8 code, .string val, .int .u32 n] 47 (0, 0))) := ⟨(b4.block _ (bltA HS.1)).trans HS.1, (b4.block _ (bltA HS.2)).trans HS.2⟩
    clear b4
    refine ⟨_, rfl, HS4, by kernel_rfl, ?_⟩
    simp only [Act.put, List.setIfInBounds_toArray, List.set_cons_zero, List.set_cons_succ, List.drop_succ_cons, List.drop_zero]
    have KE := Lib.hid (aEnd w4 b m k c t HP.out x HRX.out code val HRC.out HC.out)
    clear HS HS4 inv
    go_wp2_with (first | (go_at_call 14; refine KE.out.mono ?_; rintro e w5 ⟨rfl, P4, k4⟩; have P4 := Lib.hid P4; have K4 : Hid (KP (fun q => q = m ∨ q = k) W w5) := Lib.hid (KPW.out.trans k4 (fun i _ e => .inl e)); clear k4) | fail)
    go_ret
    rw [E1.out]
    exact ⟨rfl, P4.out, K4.out⟩
  by_cases k5 : kd = 5
  · subst k5
    have e1 : r = (false, t.rse x.n x.l n) := by rw [← HR.out]; simp [Tt.act]
    have E1 := Lib.hid e1
    have KB := Lib.hid (aRaise W3 b m k c t HP.out x.n x.l n HRX.out.n HRX.out.l HRN.out HC.out)
    clear e1
    go_wp2_with (first | (rw [HW3.out]; try rw [HKA.out]) | fail)
    try rw [HW3.out]
    refine KB.out.mono ?_
    rintro e w4 ⟨rfl, P4, k4⟩
    have P4 := Lib.hid P4
    have K4 : Hid (KP (fun q => q = m ∨ q = k) W w4) := Lib.hid (KPW.out.trans k4 (fun i _ e => e))
    clear k4
    go_wp2_with fail
    go_ret
    rw [E1.out]
    exact ⟨rfl, P4.out, K4.out⟩
  have e1 : r = (false, t) := by rw [← HR.out]; simp [Tt.act, k0, k1, k2, k3, k4, k5]
  have E1 := Lib.hid e1
  have d0 : decide (kd = 0) = false := by simpa using k0
  have d1 : decide (kd = 1) = false := by simpa using k1
  have d2 : decide (kd = 2) = false := by simpa using k2
  have d3 : decide (kd = 3) = false := by simpa using k3
  have d4 : decide (kd = 4) = false := by simpa using k4
  have d5 : decide (kd = 5) = false := by simpa using k5
  clear e1
  go_wp2_with (first | (rw [HW3.out]; try rw [HKA.out]) | fail)
  go_ret
  rw [E1.out]
  try rw [HW3.out]
  exact ⟨rfl, HP.out.mono (Nat.le_succ _), KPW.out⟩

end Go.Proofs.Ytldbmmganicliaa
