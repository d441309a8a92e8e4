/-
  The law's do, an act that puts: by exact answers. Condition: both bags lie in memory, the act below them.
-/
import Derived.Test.YteaafpgkifmdeaaBj1
namespace Go.Proofs.Yteaafpgkifmdeaa
set_option linter.unusedSimpArgs false
set_option linter.unusedVariables false
open Go.RowKit Go.Sort

/-- an act that was handed in, below the bags. -/
structure Ac.Arg (a : Ac) (base : Nat) (W : World) : Prop where
  at_ : BytesAt W base a.x.A a.x.p.B
  le : a.x.p.B.length ≤ a.x.c
  mx : a.x.c ≤ maxLen
  nn : a.x.A = none → a.x.p.B.length = 0 ∧ a.x.c = 0
  len : a.x.p.B.length ≤ 6000
  ok : a.ok
theorem Ac.Arg.rd {a : Ac} {base : Nat} {W w : World} (h : a.Arg base W) (hb : Below base W w) (hw : base ≤ w.heap.size) : a.x.Rd w := ⟨(h.at_.below hb (Nat.le_refl _) (Nat.le_refl _)).up hw, by have := h.len; omega, h.nn⟩
/-- both bags hold the same. -/
def JE (base b l r most : Nat) (W : World) : Prop := ∃ v u L M, JB base W b l r most v u L M ∧ L.map Lp.p = M.map Lp.p
set_option maxRecDepth 100000 in
set_option maxHeartbeats 2000000 in
theorem do01 (base b l r most : Nat) (v u : Value) (L M : List Lp) (a : Ac) (W : World) (h : JB base W b l r most v u L M) (hE : L.map Lp.p = M.map Lp.p) (ha : a.Arg base W) (hb : base ≤ W.heap.size) (hk : a.kd = 0 ∨ a.kd = 1) :
    Calls Try.prog 11 #[.pointer (some ⟨b, 0, none⟩), .pointer (some ⟨r, 0, none⟩), .agg a.cs.toArray] W fun e W' => e = .returned (.bool true) ∧ JE base b l r most W' ∧ Below base W W' := by
  obtain ⟨kd, ai, aat, am, x⟩ := a
  obtain ⟨fn, fl, tn, tl, A, q, xc, bad, hxc, hrow⟩ : ∃ (fn fl tn tl : Nat) (A : Option Addr) (q xc : Nat) (bad : Bool), x.cs = #[.int .u8 fn, .int .u16 fl, .int .u8 tn, .int .u16 tl, .slice A q xc, .bool bad] ∧ (Ac.mk kd ai aat am x).cs.toArray = #[.int .i64 kd, .int .i64 ai, .int .i64 aat, .int .u32 am, .int .u8 fn, .int .u16 fl, .int .u8 tn, .int .u16 tl, .slice A q xc, .bool bad] := ⟨_, _, _, _, _, _, _, _, rfl, rfl⟩
  rw [hrow]
  obtain ⟨cs, hcs⟩ : ∃ cs : Array Value, #[.int .i64 kd, .int .i64 ai, .int .i64 aat, .int .u32 am, .int .u8 fn, .int .u16 fl, .int .u8 tn, .int .u16 tl, .slice A q xc, .bool bad] = cs := ⟨_, rfl⟩
  obtain ⟨W1, hW1⟩ : ∃ X, W.alloc (.cells cs 38) = X := ⟨_, rfl⟩
  have b1 : Below W.heap.size W W1 := by rw [← hW1]; exact (Below.refl _ _).alloc (Nat.le_refl _) _
  have r1 : W1.heap[W.heap.size]? = some (.cells cs 38 (0, 0)) := by rw [← hW1]; exact heap_alloc_new _ _
  have c0 := cell_of r1 0 (.int .i64 kd) (by rw [← hcs]; rfl)
  have c1 := cell_of r1 1 (.int .i64 ai) (by rw [← hcs]; rfl)
  have J1 := Lib.hid (h.below b1)
  have B1 := Lib.hid (b1.mono hb)
  have R1 := Lib.hid r1
  have HA := Lib.hid ha
  have HE := Lib.hid hE
  have HB := Lib.hid hb
  have HXC := Lib.hid hxc
  have HCS := Lib.hid hcs
  have HW1 := Lib.hid hW1
  rw [hcs]
  clear h b1 r1 ha hE hb hxc hrow hcs hW1
  have hk' : kd = 0 ∨ kd = 1 := hk
  clear hk
  rcases hk' with rfl | rfl
  all_goals
    go_enter Try.func11, Try.ntmps11
    go_wp2_with (refine wpList_bx rfl 38 (.tmp 2) rfl 5 rfl cs rfl ?_; rw [HW1.out])
    refine region_heldT (S := fun X => X.heap[W.heap.size]? = some (.cells cs 38 (0, 0))) 11 (by kernel_rfl) (by decide) (fun inv => ?_)
    change FirstH _ _ _ _ _ _ _ _ _ _ W1.drew
    obtain ⟨W2, hW2⟩ : ∃ X, W1.drew = X := ⟨_, rfl⟩
    have b2 : Below W1.heap.size W1 W2 := by rw [← hW2]; exact (Below.refl _ _).drew
    rw [hW2]
    have J2 := Lib.hid (J1.out.below b2)
    have B2 := Lib.hid (B1.out.trans (b2.mono (Nat.le_trans HB.out B1.out.size)))
    have HS : W2.heap[W.heap.size]? = some (.cells cs 38 (0, 0)) := (b2.block _ (Array.getElem?_eq_some_iff.1 R1.out).1).trans R1.out
    have R2 := Lib.hid HS
    clear hW2 b2 c0 c1
    refine FirstH.go (i := 0) (v := .pointer (some ⟨b, 0, none⟩)) rfl rfl _ rfl _ rfl (by kernel_rfl) (fun _ _ _ h => h) inv (fun X _ => by unfold bareO; go_simp) HS (fun inv => ?_)
    try simp only [Act.put, List.setIfInBounds_toArray, List.set_cons_zero, List.set_cons_succ]
    refine FirstH.go (i := 1) (v := .pointer (some ⟨W.heap.size, 4, none⟩)) rfl rfl _ rfl _ rfl (by kernel_rfl) (fun _ _ _ h => h) inv (fun X _ => by unfold bareO; go_simp) HS (fun inv => ?_)
    try simp only [Act.put, List.setIfInBounds_toArray, List.set_cons_zero, List.set_cons_succ]
    refine FirstH.go (i := 2) (v := .agg #[.int .u8 fn, .int .u16 fl, .int .u8 tn, .int .u16 tl, .slice A q xc, .bool bad]) rfl rfl _ rfl _ rfl (by kernel_rfl) (fun _ _ _ h => h) inv (fun X hS => by have z4 := cell_of hS 4 (.int .u8 fn) (by rw [← HCS.out]; rfl); have z5 := cell_of hS 5 (.int .u16 fl) (by rw [← HCS.out]; rfl); have z6 := cell_of hS 6 (.int .u8 tn) (by rw [← HCS.out]; rfl); have z7 := cell_of hS 7 (.int .u16 tl) (by rw [← HCS.out]; rfl); have z8 := cell_of hS 8 (.slice A q xc) (by rw [← HCS.out]; rfl); have z9 := cell_of hS 9 (.bool bad) (by rw [← HCS.out]; rfl); unfold bareO; go_simp) HS (fun inv => ?_)
    try simp only [Act.put, List.setIfInBounds_toArray, List.set_cons_zero, List.set_cons_succ]
    refine FirstH.go (i := 6) (v := .pointer (some ⟨r, 0, none⟩)) rfl rfl _ rfl _ rfl (by kernel_rfl) (fun _ _ _ h => h) inv (fun X _ => by unfold bareO; go_simp) HS (fun inv => ?_)
    try simp only [Act.put, List.setIfInBounds_toArray, List.set_cons_zero, List.set_cons_succ]
    refine FirstH.go (i := 7) (v := .pointer (some ⟨W.heap.size, 4, none⟩)) rfl rfl _ rfl _ rfl (by kernel_rfl) (fun _ _ _ h => h) inv (fun X _ => by unfold bareO; go_simp) HS (fun inv => ?_)
    try simp only [Act.put, List.setIfInBounds_toArray, List.set_cons_zero, List.set_cons_succ]
    refine FirstH.go (i := 8) (v := .agg #[.int .u8 fn, .int .u16 fl, .int .u8 tn, .int .u16 tl, .slice A q xc, .bool bad]) rfl rfl _ rfl _ rfl (by kernel_rfl) (fun _ _ _ h => h) inv (fun X hS => by have z4 := cell_of hS 4 (.int .u8 fn) (by rw [← HCS.out]; rfl); have z5 := cell_of hS 5 (.int .u16 fl) (by rw [← HCS.out]; rfl); have z6 := cell_of hS 6 (.int .u8 tn) (by rw [← HCS.out]; rfl); have z7 := cell_of hS 7 (.int .u16 tl) (by rw [← HCS.out]; rfl); have z8 := cell_of hS 8 (.slice A q xc) (by rw [← HCS.out]; rfl); have z9 := cell_of hS 9 (.bool bad) (by rw [← HCS.out]; rfl); unfold bareO; go_simp) HS (fun inv => ?_)
    try simp only [Act.put, List.setIfInBounds_toArray, List.set_cons_zero, List.set_cons_succ]
    clear HS
    have KO := ownL x W2 (HA.out.rd B2.out (Nat.le_trans HB.out B2.out.size)).at_ (HA.out.rd B2.out (Nat.le_trans HB.out B2.out.size)).len HA.out.nn
    rw [HXC.out] at KO
    refine FirstH.only (i := 3) (by kernel_rfl) (by decide) inv (fun inv => wpOp_call (i := 3) rfl rfl 26 rfl _ rfl 18 #[.agg #[.int .u8 fn, .int .u16 fl, .int .u8 tn, .int .u16 tl, .slice A q xc, .bool bad]] (by unfold bareO; go_simp) KO ?_)
    rintro e W3 ⟨y, rfl, hy, ok3, b3⟩
    have J3 := Lib.hid (J2.out.below b3)
    have B3 := Lib.hid (B2.out.trans (b3.mono (Nat.le_trans HB.out B2.out.size)))
    have HS : W3.heap[W.heap.size]? = some (.cells cs 38 (0, 0)) := (b3.block _ (Array.getElem?_eq_some_iff.1 R2.out).1).trans R2.out
    have R3 := Lib.hid HS
    have HY := Lib.hid hy
    have OK3 := Lib.hid ok3
    refine ⟨_, rfl, HS, ?_⟩
    clear HS KO ok3 b3 hy
    try simp only [Act.put, List.setIfInBounds_toArray, List.set_cons_zero, List.set_cons_succ]
    have KP := putP y J3.out.pb OK3.out.rd OK3.out.le OK3.out.mx
    rw [HY.out] at KP
    obtain ⟨z, hz⟩ : ∃ z, (fPut most x.p (L.map Lp.p)).2 = z := ⟨_, rfl⟩
    obtain ⟨ps, hps⟩ : ∃ ps, (fPut most x.p (L.map Lp.p)).1 = ps := ⟨_, rfl⟩
    rw [hz, hps] at KP
    obtain ⟨ys, hys⟩ : ∃ ys, y.cs = ys := ⟨_, rfl⟩
    rw [hys] at KP ⊢
    refine FirstH.only (i := 4) (by kernel_rfl) (by decide) inv (fun inv => wpOp_call (i := 4) rfl rfl 27 rfl _ rfl 17 #[.pointer (some ⟨b, 0, none⟩), .agg ys] (by unfold bareO; go_simp) KP ?_)
    rintro e W4 ⟨rfl, s4⟩
    obtain ⟨v4, L4, j4, m4, b4, t4⟩ := J3.out.prog s4
    have J4 := Lib.hid j4
    have B4 := Lib.hid (B3.out.trans b4)
    have HS : W4.heap[W.heap.size]? = some (.cells cs 38 (0, 0)) := t4 _ _ _ R3.out (by decide) (by decide) (by decide)
    have R4 := Lib.hid HS
    have M4 := Lib.hid m4
    have HZ := Lib.hid hz
    have HPS := Lib.hid hps
    refine ⟨_, rfl, HS, ?_⟩
    clear HS KP s4 j4 b4 t4 m4 hz hps hys
    try simp only [Act.put, List.setIfInBounds_toArray, List.set_cons_zero, List.set_cons_succ]
    refine FirstH.only (i := 5) (by kernel_rfl) (by decide) inv (fun inv => wpOp_call (i := 5) rfl rfl 28 rfl _ rfl 14 #[.int .i64 z] (by unfold bareO; go_simp) (numE z _) ?_)
    rintro e W5 ⟨rfl, rfl⟩
    refine ⟨_, rfl, R4.out, ?_⟩
    try simp only [Act.put, List.setIfInBounds_toArray, List.set_cons_zero, List.set_cons_succ]
    have KD := putDP x J4.out.db (HA.out.rd B4.out (Nat.le_trans HB.out B4.out.size))
    rw [← HE.out, HZ.out, HPS.out, HXC.out] at KD
    refine FirstH.only (i := 9) (by kernel_rfl) (by decide) inv (fun inv => wpOp_call (i := 9) rfl rfl 32 rfl _ rfl 25 #[.pointer (some ⟨r, 0, none⟩), .agg #[.int .u8 fn, .int .u16 fl, .int .u8 tn, .int .u16 tl, .slice A q xc, .bool bad]] (by unfold bareO; go_simp) KD ?_)
    rintro e W6 ⟨rfl, s6⟩
    obtain ⟨u6, M6, j6, m6, b6, t6⟩ := J4.out.doc s6
    have HS : W6.heap[W.heap.size]? = some (.cells cs 38 (0, 0)) := t6 _ _ _ R4.out (by decide) (by decide)
    have J6 := Lib.hid j6
    have B6 := Lib.hid (B4.out.trans b6)
    have M6' := Lib.hid m6
    refine ⟨_, rfl, HS, ?_⟩
    clear KD s6 j6 b6 t6 m6
    try simp only [Act.put, List.setIfInBounds_toArray, List.set_cons_zero, List.set_cons_succ]
    refine FirstH.go (i := 10) (v := .bool true) rfl rfl _ rfl _ rfl (by kernel_rfl) (fun _ _ _ h => h) inv (fun X _ => by unfold bareO; go_simp) HS (fun inv => ?_)
    try simp only [Act.put, List.setIfInBounds_toArray, List.set_cons_zero, List.set_cons_succ]
    clear HS
    refine ⟨by kernel_rfl, ?_⟩
    simp only [List.drop_succ_cons, List.drop_zero]
    go_wp2
    go_ret
    exact ⟨rfl, ⟨v4, u6, L4, M6, J6.out, M4.out.trans M6'.out.symm⟩, B6.out⟩

end Go.Proofs.Yteaafpgkifmdeaa
