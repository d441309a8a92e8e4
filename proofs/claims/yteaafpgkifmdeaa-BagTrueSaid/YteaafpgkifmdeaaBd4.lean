/-
  The law's do, acts that double and spoil, and acts of no kind: by exact answers. Condition: both bags lie in memory, the act below them.
-/
import Derived.Test.YteaafpgkifmdeaaBd0
namespace Go.Proofs.Yteaafpgkifmdeaa
set_option linter.unusedSimpArgs false
set_option linter.unusedVariables false
open Go.RowKit Go.Sort

set_option maxRecDepth 100000 in
set_option maxHeartbeats 2000000 in
theorem do4 (base b l r most : Nat) (v u : Value) (L M : List Lp) (a : Ac) (W : World) (h : JB base W b l r most v u L M) (hE : L.map Lp.p = M.map Lp.p) (ha : a.Arg base W) (hb : base ≤ W.heap.size) (hk : a.kd = 4) :
    Calls Try.prog 11 #[.pointer (some ⟨b, 0, none⟩), .pointer (some ⟨r, 0, none⟩), .agg a.cs.toArray] W fun e W' => e = .returned (.bool true) ∧ JE base b l r most W' ∧ Below base W W' := by
  obtain ⟨kd, ai, aat, am, x⟩ := a
  obtain ⟨fn, fl, tn, tl, A, q, xc, bad, hxc, hrow⟩ : ∃ (fn fl tn tl : Nat) (A : Option Addr) (q xc : Nat) (bad : Bool), x.cs = #[.int .u8 fn, .int .u16 fl, .int .u8 tn, .int .u16 tl, .slice A q xc, .bool bad] ∧ (Ac.mk kd ai aat am x).cs.toArray = #[.int .i64 kd, .int .i64 ai, .int .i64 aat, .int .u32 am, .int .u8 fn, .int .u16 fl, .int .u8 tn, .int .u16 tl, .slice A q xc, .bool bad] := ⟨_, _, _, _, _, _, _, _, rfl, rfl⟩
  rw [hrow]
  obtain ⟨cs, hcs⟩ : ∃ cs : Array Value, #[.int .i64 kd, .int .i64 ai, .int .i64 aat, .int .u32 am, .int .u8 fn, .int .u16 fl, .int .u8 tn, .int .u16 tl, .slice A q xc, .bool bad] = cs := ⟨_, rfl⟩
  obtain ⟨W1, hW1⟩ : ∃ X, W.alloc (.cells cs 38) = X := ⟨_, rfl⟩
  have b1 : Below W.heap.size W W1 := by rw [← hW1]; exact (Below.refl _ _).alloc (Nat.le_refl _) _
  have r1 : W1.heap[W.heap.size]? = some (.cells cs 38 (0, 0)) := by rw [← hW1]; exact heap_alloc_new _ _
  have c0 := cell_of r1 0 (.int .i64 kd) (by rw [← hcs]; rfl)
  have c1 := cell_of r1 1 (.int .i64 ai) (by rw [← hcs]; rfl)
  have J1 := Lib.hid (h.below b1)
  have B1 := Lib.hid (b1.mono hb)
  have R1 := Lib.hid r1
  have HA := Lib.hid ha
  have HE := Lib.hid hE
  have HB := Lib.hid hb
  have HXC := Lib.hid hxc
  have HCS := Lib.hid hcs
  have HW1 := Lib.hid hW1
  rw [hcs]
  clear h b1 r1 ha hE hb hxc hrow hcs hW1
  obtain rfl : kd = 4 := hk

  go_enter Try.func11, Try.ntmps11
  go_wp2_with (refine wpList_bx rfl 38 (.tmp 2) rfl 5 rfl cs rfl ?_; rw [HW1.out])
  refine region_heldT (S := fun X => X.heap[W.heap.size]? = some (.cells cs 38 (0, 0))) 10 (by kernel_rfl) (by decide) (fun inv => ?_)
  change FirstH _ _ _ _ _ _ _ _ _ _ W1.drew
  obtain ⟨W2, hW2⟩ : ∃ X, W1.drew = X := ⟨_, rfl⟩
  have b2 : Below W1.heap.size W1 W2 := by rw [← hW2]; exact (Below.refl _ _).drew
  rw [hW2]
  have J2 := Lib.hid (J1.out.below b2)
  have B2 := Lib.hid (B1.out.trans (b2.mono (Nat.le_trans HB.out B1.out.size)))
  have HS : W2.heap[W.heap.size]? = some (.cells cs 38 (0, 0)) := (b2.block _ (Array.getElem?_eq_some_iff.1 R1.out).1).trans R1.out
  have R2 := Lib.hid HS
  clear hW2 b2 c0 c1
  refine FirstH.go (i := 0) (v := .pointer (some ⟨b, 0, none⟩)) rfl rfl _ rfl _ rfl (by kernel_rfl) (fun _ _ _ h => h) inv (fun X _ => by unfold bareO; go_simp) HS (fun inv => ?_)
  try simp only [Act.put, List.setIfInBounds_toArray, List.set_cons_zero, List.set_cons_succ]
  refine FirstH.go (i := 1) (v := .pointer (some ⟨W.heap.size, 1, none⟩)) rfl rfl _ rfl _ rfl (by kernel_rfl) (fun _ _ _ h => h) inv (fun X _ => by unfold bareO; go_simp) HS (fun inv => ?_)
  try simp only [Act.put, List.setIfInBounds_toArray, List.set_cons_zero, List.set_cons_succ]
  refine FirstH.go (i := 2) (v := .int .i64 ai) rfl rfl _ rfl _ rfl (by kernel_rfl) (fun _ _ _ h => h) inv (fun X hS => by have z1 := cell_of hS 1 (.int .i64 ai) (by rw [← HCS.out]; rfl); unfold bareO; go_simp) HS (fun inv => ?_)
  try simp only [Act.put, List.setIfInBounds_toArray, List.set_cons_zero, List.set_cons_succ]
  refine FirstH.go (i := 5) (v := .pointer (some ⟨r, 0, none⟩)) rfl rfl _ rfl _ rfl (by kernel_rfl) (fun _ _ _ h => h) inv (fun X _ => by unfold bareO; go_simp) HS (fun inv => ?_)
  try simp only [Act.put, List.setIfInBounds_toArray, List.set_cons_zero, List.set_cons_succ]
  refine FirstH.go (i := 6) (v := .pointer (some ⟨W.heap.size, 1, none⟩)) rfl rfl _ rfl _ rfl (by kernel_rfl) (fun _ _ _ h => h) inv (fun X _ => by unfold bareO; go_simp) HS (fun inv => ?_)
  try simp only [Act.put, List.setIfInBounds_toArray, List.set_cons_zero, List.set_cons_succ]
  refine FirstH.go (i := 7) (v := .int .i64 ai) rfl rfl _ rfl _ rfl (by kernel_rfl) (fun _ _ _ h => h) inv (fun X hS => by have z1 := cell_of hS 1 (.int .i64 ai) (by rw [← HCS.out]; rfl); unfold bareO; go_simp) HS (fun inv => ?_)
  try simp only [Act.put, List.setIfInBounds_toArray, List.set_cons_zero, List.set_cons_succ]
  clear HS
  have hok := HA.out.ok
  have KP := twiceP ai J2.out.pb
  obtain ⟨z, hz⟩ : ∃ z, (fTwice most ai (L.map Lp.p)).2 = z := ⟨_, rfl⟩
  obtain ⟨ps, hps⟩ : ∃ ps, (fTwice most ai (L.map Lp.p)).1 = ps := ⟨_, rfl⟩
  rw [hz, hps] at KP
  refine FirstH.only (i := 3) (by kernel_rfl) (by decide) inv (fun inv => wpOp_call (i := 3) rfl rfl 91 rfl _ rfl 20 #[.pointer (some ⟨b, 0, none⟩), .int .i64 ai] (by unfold bareO; go_simp) KP ?_)
  rintro e W4 ⟨rfl, s4⟩
  obtain ⟨v4, L4, j4, m4, b4, t4⟩ := J2.out.prog s4
  have J4 := Lib.hid j4
  have B4 := Lib.hid (B2.out.trans b4)
  have HS : W4.heap[W.heap.size]? = some (.cells cs 38 (0, 0)) := t4 _ _ _ R2.out (by decide) (by decide) (by decide)
  have R4 := Lib.hid HS
  have M4 := Lib.hid m4
  have HZ := Lib.hid hz
  have HPS := Lib.hid hps
  refine ⟨_, rfl, HS, ?_⟩
  clear HS KP s4 j4 b4 t4 m4 hz hps
  try simp only [Act.put, List.setIfInBounds_toArray, List.set_cons_zero, List.set_cons_succ]
  refine FirstH.only (i := 4) (by kernel_rfl) (by decide) inv (fun inv => wpOp_call (i := 4) rfl rfl 92 rfl _ rfl 14 #[.int .i64 z] (by unfold bareO; go_simp) (numE z _) ?_)
  rintro e W5 ⟨rfl, rfl⟩
  refine ⟨_, rfl, R4.out, ?_⟩
  try simp only [Act.put, List.setIfInBounds_toArray, List.set_cons_zero, List.set_cons_succ]
  have KD := twiceDP ai J4.out.db
  rw [← HE.out, HZ.out, HPS.out] at KD
  refine FirstH.only (i := 8) (by kernel_rfl) (by decide) inv (fun inv => wpOp_call (i := 8) rfl rfl 96 rfl _ rfl 28 #[.pointer (some ⟨r, 0, none⟩), .int .i64 ai] (by unfold bareO; go_simp) KD ?_)
  rintro e W6 ⟨rfl, s6⟩
  obtain ⟨u6, M6, j6, m6, b6, t6⟩ := J4.out.doc s6
  have HS : W6.heap[W.heap.size]? = some (.cells cs 38 (0, 0)) := t6 _ _ _ R4.out (by decide) (by decide)
  have J6 := Lib.hid j6
  have B6 := Lib.hid (B4.out.trans b6)
  have M6' := Lib.hid m6
  refine ⟨_, rfl, HS, ?_⟩
  clear KD s6 j6 b6 t6 m6
  try simp only [Act.put, List.setIfInBounds_toArray, List.set_cons_zero, List.set_cons_succ]
  refine FirstH.go (i := 9) (v := .bool true) rfl rfl _ rfl _ rfl (by kernel_rfl) (fun _ _ _ h => h) inv (fun X _ => by unfold bareO; go_simp) HS (fun inv => ?_)
  try simp only [Act.put, List.setIfInBounds_toArray, List.set_cons_zero, List.set_cons_succ]
  clear HS
  refine ⟨by kernel_rfl, ?_⟩
  simp only [List.drop_succ_cons, List.drop_zero]
  go_wp2
  go_ret
  exact ⟨rfl, ⟨v4, u6, L4, M6, J6.out, M4.out.trans M6'.out.symm⟩, B6.out⟩

set_option maxRecDepth 100000 in
set_option maxHeartbeats 2000000 in
theorem do5 (base b l r most : Nat) (v u : Value) (L M : List Lp) (a : Ac) (W : World) (h : JB base W b l r most v u L M) (hE : L.map Lp.p = M.map Lp.p) (ha : a.Arg base W) (hb : base ≤ W.heap.size) (hk : a.kd = 5) :
    Calls Try.prog 11 #[.pointer (some ⟨b, 0, none⟩), .pointer (some ⟨r, 0, none⟩), .agg a.cs.toArray] W fun e W' => e = .returned (.bool true) ∧ JE base b l r most W' ∧ Below base W W' := by
  obtain ⟨kd, ai, aat, am, x⟩ := a
  obtain ⟨fn, fl, tn, tl, A, q, xc, bad, hxc, hrow⟩ : ∃ (fn fl tn tl : Nat) (A : Option Addr) (q xc : Nat) (bad : Bool), x.cs = #[.int .u8 fn, .int .u16 fl, .int .u8 tn, .int .u16 tl, .slice A q xc, .bool bad] ∧ (Ac.mk kd ai aat am x).cs.toArray = #[.int .i64 kd, .int .i64 ai, .int .i64 aat, .int .u32 am, .int .u8 fn, .int .u16 fl, .int .u8 tn, .int .u16 tl, .slice A q xc, .bool bad] := ⟨_, _, _, _, _, _, _, _, rfl, rfl⟩
  rw [hrow]
  obtain ⟨cs, hcs⟩ : ∃ cs : Array Value, #[.int .i64 kd, .int .i64 ai, .int .i64 aat, .int .u32 am, .int .u8 fn, .int .u16 fl, .int .u8 tn, .int .u16 tl, .slice A q xc, .bool bad] = cs := ⟨_, rfl⟩
  obtain ⟨W1, hW1⟩ : ∃ X, W.alloc (.cells cs 38) = X := ⟨_, rfl⟩
  have b1 : Below W.heap.size W W1 := by rw [← hW1]; exact (Below.refl _ _).alloc (Nat.le_refl _) _
  have r1 : W1.heap[W.heap.size]? = some (.cells cs 38 (0, 0)) := by rw [← hW1]; exact heap_alloc_new _ _
  have c0 := cell_of r1 0 (.int .i64 kd) (by rw [← hcs]; rfl)
  have c1 := cell_of r1 1 (.int .i64 ai) (by rw [← hcs]; rfl)
  have J1 := Lib.hid (h.below b1)
  have B1 := Lib.hid (b1.mono hb)
  have R1 := Lib.hid r1
  have HA := Lib.hid ha
  have HE := Lib.hid hE
  have HB := Lib.hid hb
  have HXC := Lib.hid hxc
  have HCS := Lib.hid hcs
  have HW1 := Lib.hid hW1
  rw [hcs]
  clear h b1 r1 ha hE hb hxc hrow hcs hW1
  obtain rfl : kd = 5 := hk

  go_enter Try.func11, Try.ntmps11
  go_wp2_with (refine wpList_bx rfl 38 (.tmp 2) rfl 5 rfl cs rfl ?_; rw [HW1.out])
  refine region_heldT (S := fun X => X.heap[W.heap.size]? = some (.cells cs 38 (0, 0))) 18 (by kernel_rfl) (by decide) (fun inv => ?_)
  change FirstH _ _ _ _ _ _ _ _ _ _ W1.drew
  obtain ⟨W2, hW2⟩ : ∃ X, W1.drew = X := ⟨_, rfl⟩
  have b2 : Below W1.heap.size W1 W2 := by rw [← hW2]; exact (Below.refl _ _).drew
  rw [hW2]
  have J2 := Lib.hid (J1.out.below b2)
  have B2 := Lib.hid (B1.out.trans (b2.mono (Nat.le_trans HB.out B1.out.size)))
  have HS : W2.heap[W.heap.size]? = some (.cells cs 38 (0, 0)) := (b2.block _ (Array.getElem?_eq_some_iff.1 R1.out).1).trans R1.out
  have R2 := Lib.hid HS
  clear hW2 b2 c0 c1
  refine FirstH.go (i := 0) (v := .pointer (some ⟨b, 0, none⟩)) rfl rfl _ rfl _ rfl (by kernel_rfl) (fun _ _ _ h => h) inv (fun X _ => by unfold bareO; go_simp) HS (fun inv => ?_)
  try simp only [Act.put, List.setIfInBounds_toArray, List.set_cons_zero, List.set_cons_succ]
  refine FirstH.go (i := 1) (v := .pointer (some ⟨W.heap.size, 1, none⟩)) rfl rfl _ rfl _ rfl (by kernel_rfl) (fun _ _ _ h => h) inv (fun X _ => by unfold bareO; go_simp) HS (fun inv => ?_)
  try simp only [Act.put, List.setIfInBounds_toArray, List.set_cons_zero, List.set_cons_succ]
  refine FirstH.go (i := 2) (v := .int .i64 ai) rfl rfl _ rfl _ rfl (by kernel_rfl) (fun _ _ _ h => h) inv (fun X hS => by have z1 := cell_of hS 1 (.int .i64 ai) (by rw [← HCS.out]; rfl); unfold bareO; go_simp) HS (fun inv => ?_)
  try simp only [Act.put, List.setIfInBounds_toArray, List.set_cons_zero, List.set_cons_succ]
  refine FirstH.go (i := 3) (v := .pointer (some ⟨W.heap.size, 2, none⟩)) rfl rfl _ rfl _ rfl (by kernel_rfl) (fun _ _ _ h => h) inv (fun X _ => by unfold bareO; go_simp) HS (fun inv => ?_)
  try simp only [Act.put, List.setIfInBounds_toArray, List.set_cons_zero, List.set_cons_succ]
  refine FirstH.go (i := 4) (v := .int .i64 aat) rfl rfl _ rfl _ rfl (by kernel_rfl) (fun _ _ _ h => h) inv (fun X hS => by have z2 := cell_of hS 2 (.int .i64 aat) (by rw [← HCS.out]; rfl); unfold bareO; go_simp) HS (fun inv => ?_)
  try simp only [Act.put, List.setIfInBounds_toArray, List.set_cons_zero, List.set_cons_succ]
  refine FirstH.go (i := 5) (v := .pointer (some ⟨W.heap.size, 3, none⟩)) rfl rfl _ rfl _ rfl (by kernel_rfl) (fun _ _ _ h => h) inv (fun X _ => by unfold bareO; go_simp) HS (fun inv => ?_)
  try simp only [Act.put, List.setIfInBounds_toArray, List.set_cons_zero, List.set_cons_succ]
  refine FirstH.go (i := 6) (v := .int .u32 am) rfl rfl _ rfl _ rfl (by kernel_rfl) (fun _ _ _ h => h) inv (fun X hS => by have z3 := cell_of hS 3 (.int .u32 am) (by rw [← HCS.out]; rfl); unfold bareO; go_simp) HS (fun inv => ?_)
  try simp only [Act.put, List.setIfInBounds_toArray, List.set_cons_zero, List.set_cons_succ]
  refine FirstH.go (i := 9) (v := .pointer (some ⟨r, 0, none⟩)) rfl rfl _ rfl _ rfl (by kernel_rfl) (fun _ _ _ h => h) inv (fun X _ => by unfold bareO; go_simp) HS (fun inv => ?_)
  try simp only [Act.put, List.setIfInBounds_toArray, List.set_cons_zero, List.set_cons_succ]
  refine FirstH.go (i := 10) (v := .pointer (some ⟨W.heap.size, 1, none⟩)) rfl rfl _ rfl _ rfl (by kernel_rfl) (fun _ _ _ h => h) inv (fun X _ => by unfold bareO; go_simp) HS (fun inv => ?_)
  try simp only [Act.put, List.setIfInBounds_toArray, List.set_cons_zero, List.set_cons_succ]
  refine FirstH.go (i := 11) (v := .int .i64 ai) rfl rfl _ rfl _ rfl (by kernel_rfl) (fun _ _ _ h => h) inv (fun X hS => by have z1 := cell_of hS 1 (.int .i64 ai) (by rw [← HCS.out]; rfl); unfold bareO; go_simp) HS (fun inv => ?_)
  try simp only [Act.put, List.setIfInBounds_toArray, List.set_cons_zero, List.set_cons_succ]
  refine FirstH.go (i := 12) (v := .pointer (some ⟨W.heap.size, 2, none⟩)) rfl rfl _ rfl _ rfl (by kernel_rfl) (fun _ _ _ h => h) inv (fun X _ => by unfold bareO; go_simp) HS (fun inv => ?_)
  try simp only [Act.put, List.setIfInBounds_toArray, List.set_cons_zero, List.set_cons_succ]
  refine FirstH.go (i := 13) (v := .int .i64 aat) rfl rfl _ rfl _ rfl (by kernel_rfl) (fun _ _ _ h => h) inv (fun X hS => by have z2 := cell_of hS 2 (.int .i64 aat) (by rw [← HCS.out]; rfl); unfold bareO; go_simp) HS (fun inv => ?_)
  try simp only [Act.put, List.setIfInBounds_toArray, List.set_cons_zero, List.set_cons_succ]
  refine FirstH.go (i := 14) (v := .pointer (some ⟨W.heap.size, 3, none⟩)) rfl rfl _ rfl _ rfl (by kernel_rfl) (fun _ _ _ h => h) inv (fun X _ => by unfold bareO; go_simp) HS (fun inv => ?_)
  try simp only [Act.put, List.setIfInBounds_toArray, List.set_cons_zero, List.set_cons_succ]
  refine FirstH.go (i := 15) (v := .int .u32 am) rfl rfl _ rfl _ rfl (by kernel_rfl) (fun _ _ _ h => h) inv (fun X hS => by have z3 := cell_of hS 3 (.int .u32 am) (by rw [← HCS.out]; rfl); unfold bareO; go_simp) HS (fun inv => ?_)
  try simp only [Act.put, List.setIfInBounds_toArray, List.set_cons_zero, List.set_cons_succ]
  clear HS
  have hok := HA.out.ok
  have KP := spoilP ai aat am J2.out.pb hok.2.2 hok.2.1.1 hok.2.1.2
  obtain ⟨z, hz⟩ : ∃ z, (fSpoil ai aat am (L.map Lp.p)).2 = z := ⟨_, rfl⟩
  obtain ⟨ps, hps⟩ : ∃ ps, (fSpoil ai aat am (L.map Lp.p)).1 = ps := ⟨_, rfl⟩
  rw [hz, hps] at KP
  refine FirstH.only (i := 7) (by kernel_rfl) (by decide) inv (fun inv => wpOp_call (i := 7) rfl rfl 107 rfl _ rfl 21 #[.pointer (some ⟨b, 0, none⟩), .int .i64 ai, .int .i64 aat, .int .u32 am] (by unfold bareO; go_simp) KP ?_)
  rintro e W4 ⟨rfl, s4⟩
  obtain ⟨v4, L4, j4, m4, b4, t4⟩ := J2.out.prog s4
  have J4 := Lib.hid j4
  have B4 := Lib.hid (B2.out.trans b4)
  have HS : W4.heap[W.heap.size]? = some (.cells cs 38 (0, 0)) := t4 _ _ _ R2.out (by decide) (by decide) (by decide)
  have R4 := Lib.hid HS
  have M4 := Lib.hid m4
  have HZ := Lib.hid hz
  have HPS := Lib.hid hps
  refine ⟨_, rfl, HS, ?_⟩
  clear HS KP s4 j4 b4 t4 m4 hz hps
  try simp only [Act.put, List.setIfInBounds_toArray, List.set_cons_zero, List.set_cons_succ]
  refine FirstH.only (i := 8) (by kernel_rfl) (by decide) inv (fun inv => wpOp_call (i := 8) rfl rfl 108 rfl _ rfl 14 #[.int .i64 z] (by unfold bareO; go_simp) (numE z _) ?_)
  rintro e W5 ⟨rfl, rfl⟩
  refine ⟨_, rfl, R4.out, ?_⟩
  try simp only [Act.put, List.setIfInBounds_toArray, List.set_cons_zero, List.set_cons_succ]
  have KD := spoilDP ai aat am J4.out.db hok.2.2 hok.2.1.1 hok.2.1.2
  rw [← HE.out, HZ.out, HPS.out] at KD
  refine FirstH.only (i := 16) (by kernel_rfl) (by decide) inv (fun inv => wpOp_call (i := 16) rfl rfl 116 rfl _ rfl 29 #[.pointer (some ⟨r, 0, none⟩), .int .i64 ai, .int .i64 aat, .int .u32 am] (by unfold bareO; go_simp) KD ?_)
  rintro e W6 ⟨rfl, s6⟩
  obtain ⟨u6, M6, j6, m6, b6, t6⟩ := J4.out.doc s6
  have HS : W6.heap[W.heap.size]? = some (.cells cs 38 (0, 0)) := t6 _ _ _ R4.out (by decide) (by decide)
  have J6 := Lib.hid j6
  have B6 := Lib.hid (B4.out.trans b6)
  have M6' := Lib.hid m6
  refine ⟨_, rfl, HS, ?_⟩
  clear KD s6 j6 b6 t6 m6
  try simp only [Act.put, List.setIfInBounds_toArray, List.set_cons_zero, List.set_cons_succ]
  refine FirstH.go (i := 17) (v := .bool true) rfl rfl _ rfl _ rfl (by kernel_rfl) (fun _ _ _ h => h) inv (fun X _ => by unfold bareO; go_simp) HS (fun inv => ?_)
  try simp only [Act.put, List.setIfInBounds_toArray, List.set_cons_zero, List.set_cons_succ]
  clear HS
  refine ⟨by kernel_rfl, ?_⟩
  simp only [List.drop_succ_cons, List.drop_zero]
  go_wp2
  go_ret
  exact ⟨rfl, ⟨v4, u6, L4, M6, J6.out, M4.out.trans M6'.out.symm⟩, B6.out⟩

set_option maxRecDepth 100000 in
set_option maxHeartbeats 1000000 in
theorem doNo (base b l r most : Nat) (v u : Value) (L M : List Lp) (a : Ac) (W : World) (h : JB base W b l r most v u L M) (hE : L.map Lp.p = M.map Lp.p) (ha : a.Arg base W) (hb : base ≤ W.heap.size) (hk : a.kd ≠ 0 ∧ a.kd ≠ 1 ∧ a.kd ≠ 2 ∧ a.kd ≠ 3 ∧ a.kd ≠ 4 ∧ a.kd ≠ 5 ∧ a.kd ≠ 6) :
    Calls Try.prog 11 #[.pointer (some ⟨b, 0, none⟩), .pointer (some ⟨r, 0, none⟩), .agg a.cs.toArray] W fun e W' => e = .returned (.bool true) ∧ JE base b l r most W' ∧ Below base W W' := by
  obtain ⟨kd, ai, aat, am, x⟩ := a
  obtain ⟨fn, fl, tn, tl, A, q, xc, bad, hxc, hrow⟩ : ∃ (fn fl tn tl : Nat) (A : Option Addr) (q xc : Nat) (bad : Bool), x.cs = #[.int .u8 fn, .int .u16 fl, .int .u8 tn, .int .u16 tl, .slice A q xc, .bool bad] ∧ (Ac.mk kd ai aat am x).cs.toArray = #[.int .i64 kd, .int .i64 ai, .int .i64 aat, .int .u32 am, .int .u8 fn, .int .u16 fl, .int .u8 tn, .int .u16 tl, .slice A q xc, .bool bad] := ⟨_, _, _, _, _, _, _, _, rfl, rfl⟩
  rw [hrow]
  obtain ⟨cs, hcs⟩ : ∃ cs : Array Value, #[.int .i64 kd, .int .i64 ai, .int .i64 aat, .int .u32 am, .int .u8 fn, .int .u16 fl, .int .u8 tn, .int .u16 tl, .slice A q xc, .bool bad] = cs := ⟨_, rfl⟩
  obtain ⟨W1, hW1⟩ : ∃ X, W.alloc (.cells cs 38) = X := ⟨_, rfl⟩
  have b1 : Below W.heap.size W W1 := by rw [← hW1]; exact (Below.refl _ _).alloc (Nat.le_refl _) _
  have r1 : W1.heap[W.heap.size]? = some (.cells cs 38 (0, 0)) := by rw [← hW1]; exact heap_alloc_new _ _
  have c0 := cell_of r1 0 (.int .i64 kd) (by rw [← hcs]; rfl)
  have c1 := cell_of r1 1 (.int .i64 ai) (by rw [← hcs]; rfl)
  have J1 := Lib.hid (h.below b1)
  have B1 := Lib.hid (b1.mono hb)
  have R1 := Lib.hid r1
  have HA := Lib.hid ha
  have HE := Lib.hid hE
  have HB := Lib.hid hb
  have HXC := Lib.hid hxc
  have HCS := Lib.hid hcs
  have HW1 := Lib.hid hW1
  rw [hcs]
  clear h b1 r1 ha hE hb hxc hrow hcs hW1
  obtain ⟨k0, k1, k2, k3, k4, k5, k6⟩ := hk
  simp only at k0 k1 k2 k3 k4 k5 k6
  have q0 : (kd == 0) = false := by simpa using k0
  have q1 : (kd == 1) = false := by simpa using k1
  have q2 : (kd == 2) = false := by simpa using k2
  have q3 : (kd == 3) = false := by simpa using k3
  have q4 : (kd == 4) = false := by simpa using k4
  have q5 : (kd == 5) = false := by simpa using k5
  have q6 : (kd == 6) = false := by simpa using k6
  go_enter Try.func11, Try.ntmps11
  go_wp2_with (refine wpList_bx rfl 38 (.tmp 2) rfl 5 rfl cs rfl ?_; rw [HW1.out])
  go_ret
  exact ⟨rfl, ⟨v, u, L, M, J1.out, HE.out⟩, B1.out⟩

end Go.Proofs.Yteaafpgkifmdeaa
