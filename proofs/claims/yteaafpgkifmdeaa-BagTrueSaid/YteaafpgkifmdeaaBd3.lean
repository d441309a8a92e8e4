/-
  The law's do, an act that looks or takes: by exact answers. Condition: both bags lie in memory, the act below them.
-/
import Derived.Test.YteaafpgkifmdeaaBd0
namespace Go.Proofs.Yteaafpgkifmdeaa
set_option linter.unusedSimpArgs false
set_option linter.unusedVariables false
open Go.RowKit Go.Sort

set_option maxRecDepth 100000 in
set_option maxHeartbeats 4000000 in
theorem do3 (base b l r most : Nat) (v u : Value) (L M : List Lp) (a : Ac) (W : World) (h : JB base W b l r most v u L M) (hE : L.map Lp.p = M.map Lp.p) (ha : a.Arg base W) (hb : base ≤ W.heap.size) (hk : a.kd = 3) :
    Calls Try.prog 11 #[.pointer (some ⟨b, 0, none⟩), .pointer (some ⟨r, 0, none⟩), .agg a.cs.toArray] W fun e W' => e = .returned (.bool true) ∧ JE base b l r most W' ∧ Below base W W' := by
  obtain ⟨kd, ai, aat, am, x⟩ := a
  obtain ⟨fn, fl, tn, tl, A, q, xc, bad, hxc, hrow⟩ : ∃ (fn fl tn tl : Nat) (A : Option Addr) (q xc : Nat) (bad : Bool), x.cs = #[.int .u8 fn, .int .u16 fl, .int .u8 tn, .int .u16 tl, .slice A q xc, .bool bad] ∧ (Ac.mk kd ai aat am x).cs.toArray = #[.int .i64 kd, .int .i64 ai, .int .i64 aat, .int .u32 am, .int .u8 fn, .int .u16 fl, .int .u8 tn, .int .u16 tl, .slice A q xc, .bool bad] := ⟨_, _, _, _, _, _, _, _, rfl, rfl⟩
  rw [hrow]
  obtain ⟨cs, hcs⟩ : ∃ cs : Array Value, #[.int .i64 kd, .int .i64 ai, .int .i64 aat, .int .u32 am, .int .u8 fn, .int .u16 fl, .int .u8 tn, .int .u16 tl, .slice A q xc, .bool bad] = cs := ⟨_, rfl⟩
  obtain ⟨W1, hW1⟩ : ∃ X, W.alloc (.cells cs 38) = X := ⟨_, rfl⟩
  have b1 : Below W.heap.size W W1 := by rw [← hW1]; exact (Below.refl _ _).alloc (Nat.le_refl _) _
  have r1 : W1.heap[W.heap.size]? = some (.cells cs 38 (0, 0)) := by rw [← hW1]; exact heap_alloc_new _ _
  have c0 := cell_of r1 0 (.int .i64 kd) (by rw [← hcs]; rfl)
  have c1 := cell_of r1 1 (.int .i64 ai) (by rw [← hcs]; rfl)
  have J1 := Lib.hid (h.below b1)
  have B1 := Lib.hid (b1.mono hb)
  have R1 := Lib.hid r1
  have HA := Lib.hid ha
  have HE := Lib.hid hE
  have HB := Lib.hid hb
  have HXC := Lib.hid hxc
  have HCS := Lib.hid hcs
  have HW1 := Lib.hid hW1
  rw [hcs]
  clear h b1 r1 ha hE hb hxc hrow hcs hW1
  obtain rfl : kd = 3 := hk
  have KP := Lib.hid (takeP ai J1.out.pb)
  go_enter Try.func11, Try.ntmps11
  go_wp2_with (refine wpList_bx rfl 38 (.tmp 2) rfl 5 rfl cs rfl ?_; rw [HW1.out])
  refine KP.out.mono ?_
  rintro e w3 ⟨y, rfl, hy, oky, s3⟩
  obtain ⟨v3, L3, j3, m3, b3, t3⟩ := J1.out.prog s3
  have R3 := Lib.hid (t3 _ _ _ R1.out (by decide) (by decide) (by decide))
  obtain ⟨ys, hys⟩ : ∃ ys, y.cs = ys := ⟨_, rfl⟩
  obtain ⟨z, hz⟩ : ∃ z, (fLook ai (L.map Lp.p)).2 = z := ⟨_, rfl⟩
  rw [hys, hz]
  have YS := Lib.hid hys
  have HZ := Lib.hid hz
  have HY := Lib.hid hy
  have M3 := Lib.hid m3
  have B3 := Lib.hid (B1.out.trans b3)
  obtain ⟨w3a, hw3a⟩ : ∃ x, w3.alloc (.cells #[.int .u8 0, .int .u16 0, .int .u8 0, .int .u16 0, .slice none 0 0, .bool false] 45) = x := ⟨_, rfl⟩
  have rw3a : w3a.heap[w3.heap.size]? = some (.cells #[.int .u8 0, .int .u16 0, .int .u8 0, .int .u16 0, .slice none 0 0, .bool false] 45 (0, 0)) := by rw [← hw3a]; exact heap_alloc_new _ _
  obtain ⟨w4, hw4⟩ : ∃ x, w3a.setRow w3.heap.size ys = x := ⟨_, rfl⟩
  have bw4 : Below w3.heap.size w3 w4 := by rw [← hw4, ← hw3a]; exact below_row ((Below.refl _ _).alloc (Nat.le_refl _) _) (Nat.le_refl _) _
  have rw4 : w4.heap[w3.heap.size]? = some (.cells ys 45 (0, 0)) := by rw [← hw4]; exact setRow_heap _ _ _ _ _ _ rw3a
  have RAw4 := Lib.hid rw3a
  have HAw4 := Lib.hid hw3a
  have HBw4 := Lib.hid hw4
  have RXw4 := Lib.hid rw4
  clear hw3a rw3a hw4 rw4
  have J4 := Lib.hid (j3.below bw4)
  have B4 := Lib.hid (B3.out.trans (bw4.mono (Nat.le_trans HB.out (Nat.le_trans B1.out.size b3.size))))
  have OY4 := Lib.hid (oky.below bw4)
  have R4 := Lib.hid ((bw4.block _ (Array.getElem?_eq_some_iff.1 R3.out).1).trans R3.out)
  have HB4 := Lib.hid (Nat.le_trans HB.out B4.out.size)
  have q1 := cell_of R4.out 1 (.int .i64 ai) (by rw [← HCS.out]; rfl)
  clear hys hz hy oky s3 j3 m3 b3 t3 bw4 c0 c1 KP
  have KD := Lib.hid (takeDP ai J4.out.db)
  go_wp2_with (first
    | (rw [HAw4.out])
    | (refine wpList_store_row rfl 45 (.tmp 11) (.tmp 67) rfl w3.heap.size ys (by rfl) (by rfl) 45 #[.int .u8 0, .int .u16 0, .int .u8 0, .int .u16 0, .slice none 0 0, .bool false] RAw4.out (by rw [← YS.out]; kernel_rfl) (by rw [← YS.out]; rfl) (by rw [← YS.out]; simp [Lp.cs, Value.oneCell']) ?_; rw [HBw4.out]))
  refine KD.out.mono ?_
  rintro e w5 ⟨y', rfl, hy', oky', s5⟩
  obtain ⟨u5, M5, j5, m5, b5, t5⟩ := J4.out.doc s5
  have RY5 := Lib.hid (t5 _ _ _ RXw4.out (by decide) (by decide))
  have OY5 : Hid (y.Ok w5 base) := Lib.hid (OY4.out.keep fun k cur _ _ _ hc => t5 k cur _ hc (by decide) (by decide))
  obtain ⟨yt, hyt⟩ : ∃ ys, y'.cs = ys := ⟨_, rfl⟩
  rw [hyt, ← HE.out, HZ.out]
  rw [← HE.out] at hy' m5
  have YT := Lib.hid hyt
  have HYE : Hid (y.p = y'.p) := Lib.hid (HY.out.trans hy'.symm)
  have ME : Hid (L3.map Lp.p = M5.map Lp.p) := Lib.hid (M3.out.trans m5.symm)
  have B5 := Lib.hid (B4.out.trans b5)
  obtain ⟨w5a, hw5a⟩ : ∃ x, w5.alloc (.cells #[.int .u8 0, .int .u16 0, .int .u8 0, .int .u16 0, .slice none 0 0, .bool false] 36) = x := ⟨_, rfl⟩
  have rw5a : w5a.heap[w5.heap.size]? = some (.cells #[.int .u8 0, .int .u16 0, .int .u8 0, .int .u16 0, .slice none 0 0, .bool false] 36 (0, 0)) := by rw [← hw5a]; exact heap_alloc_new _ _
  obtain ⟨w6, hw6⟩ : ∃ x, w5a.setRow w5.heap.size yt = x := ⟨_, rfl⟩
  have bw6 : Below w5.heap.size w5 w6 := by rw [← hw6, ← hw5a]; exact below_row ((Below.refl _ _).alloc (Nat.le_refl _) _) (Nat.le_refl _) _
  have rw6 : w6.heap[w5.heap.size]? = some (.cells yt 36 (0, 0)) := by rw [← hw6]; exact setRow_heap _ _ _ _ _ _ rw5a
  have RAw6 := Lib.hid rw5a
  have HAw6 := Lib.hid hw5a
  have HBw6 := Lib.hid hw6
  have RXw6 := Lib.hid rw6
  clear hw5a rw5a hw6 rw6
  have J6 := Lib.hid (j5.below bw6)
  have B6 := Lib.hid (B5.out.trans (bw6.mono (Nat.le_trans HB4.out b5.size)))
  have OY6 := Lib.hid (OY5.out.below bw6)
  have OT6 := Lib.hid (oky'.below bw6)
  have RY6 := Lib.hid ((bw6.block _ (Array.getElem?_eq_some_iff.1 RY5.out).1).trans RY5.out)
  have HB6 := Lib.hid (Nat.le_trans HB.out B6.out.size)
  clear hyt hy' oky' s5 j5 m5 b5 t5 bw6 q1 KD HAw4 HBw4 RAw4
  go_wp2_with (first
    | (rw [HAw6.out])
    | (refine wpList_store_row rfl 36 (.tmp 13) (.tmp 74) rfl w5.heap.size yt (by rfl) (by rfl) 36 #[.int .u8 0, .int .u16 0, .int .u8 0, .int .u16 0, .slice none 0 0, .bool false] RAw6.out (by rw [← YT.out]; kernel_rfl) (by rw [← YT.out]; rfl) (by rw [← YT.out]; simp [Lp.cs, Value.oneCell']) ?_; rw [HBw6.out]))
  refine region_heldT (S := fun X => X.heap[w3.heap.size]? = some (.cells ys 45 (0, 0)) ∧ X.heap[w5.heap.size]? = some (.cells yt 36 (0, 0))) 10 (by kernel_rfl) (by decide) (fun inv => ?_)
  change FirstH _ _ _ _ _ _ _ _ _ _ w6.drew
  obtain ⟨w7, hw7⟩ : ∃ X, w6.drew = X := ⟨_, rfl⟩
  have b7 : Below w6.heap.size w6 w7 := by rw [← hw7]; exact (Below.refl _ _).drew
  rw [hw7]
  have J7 := Lib.hid (J6.out.below b7)
  have B7 := Lib.hid (B6.out.trans (b7.mono HB6.out))
  have OY7 := Lib.hid (OY6.out.below b7)
  have OT7 := Lib.hid (OT6.out.below b7)
  have HS : w7.heap[w3.heap.size]? = some (.cells ys 45 (0, 0)) ∧ w7.heap[w5.heap.size]? = some (.cells yt 36 (0, 0)) := ⟨(b7.block _ (Array.getElem?_eq_some_iff.1 RY6.out).1).trans RY6.out, (b7.block _ (Array.getElem?_eq_some_iff.1 RXw6.out).1).trans RXw6.out⟩
  have HS7 := Lib.hid HS
  have HB7 := Lib.hid (Nat.le_trans HB.out B7.out.size)
  clear hw7 b7
  refine FirstH.go (i := 0) (v := .agg ys) rfl rfl _ rfl _ rfl (by kernel_rfl) (fun _ _ _ h => h) inv (fun X hS => run_load_row 45 _ _ w3.heap.size rfl _ _ _ _ hS.1 Try.underlying45 rfl (by rw [← YS.out]; kernel_rfl)) HS (fun inv => ?_)
  try simp only [Act.put, List.setIfInBounds_toArray, List.set_cons_zero, List.set_cons_succ]
  refine FirstH.go (i := 2) (v := .agg yt) rfl rfl _ rfl _ rfl (by kernel_rfl) (fun _ _ _ h => h) inv (fun X hS => run_load_row 36 _ _ w5.heap.size rfl _ _ _ _ hS.2 Try.underlying36 rfl (by rw [← YT.out]; kernel_rfl)) HS (fun inv => ?_)
  try simp only [Act.put, List.setIfInBounds_toArray, List.set_cons_zero, List.set_cons_succ]
  clear HS
  have KR := refL y w7 OY7.out.own.at_ OY7.out.len OY7.out.nn
  rw [YS.out] at KR
  refine FirstH.only (i := 1) (by kernel_rfl) (by decide) inv (fun inv => wpOp_call (i := 1) rfl rfl 77 rfl _ rfl 16 #[.agg ys] (by unfold bareO; go_simp) KR ?_)
  rintro e w8 ⟨y8, rfl, hy8, ok8, b8⟩
  have J8 := Lib.hid (J7.out.below b8)
  have B8 := Lib.hid (B7.out.trans (b8.mono HB7.out))
  have HS : w8.heap[w3.heap.size]? = some (.cells ys 45 (0, 0)) ∧ w8.heap[w5.heap.size]? = some (.cells yt 36 (0, 0)) := ⟨(b8.block _ (Array.getElem?_eq_some_iff.1 HS7.out.1).1).trans HS7.out.1, (b8.block _ (Array.getElem?_eq_some_iff.1 HS7.out.2).1).trans HS7.out.2⟩
  have HS8 := Lib.hid HS
  have HB8 := Lib.hid (Nat.le_trans HB.out B8.out.size)
  have KM := sameP y8 y' w8 (hy8.trans HYE.out) ok8.own.at_ (OT7.out.below b8).own.at_
  rw [YT.out] at KM
  refine ⟨_, rfl, HS, ?_⟩
  clear HS hy8 ok8 b8 KR
  try simp only [Act.put, List.setIfInBounds_toArray, List.set_cons_zero, List.set_cons_succ]
  refine FirstH.only (i := 3) (by kernel_rfl) (by decide) inv (fun inv => wpOp_call (i := 3) rfl rfl 79 rfl _ rfl 15 #[.agg y8.cs, .agg yt] (by unfold bareO; go_simp) KM ?_)
  rintro e w9 ⟨rfl, b9⟩
  have J9 := Lib.hid (J8.out.below b9)
  have B9 := Lib.hid (B8.out.trans (b9.mono HB8.out))
  have HS : w9.heap[w3.heap.size]? = some (.cells ys 45 (0, 0)) ∧ w9.heap[w5.heap.size]? = some (.cells yt 36 (0, 0)) := ⟨(b9.block _ (Array.getElem?_eq_some_iff.1 HS8.out.1).1).trans HS8.out.1, (b9.block _ (Array.getElem?_eq_some_iff.1 HS8.out.2).1).trans HS8.out.2⟩
  have HS9 := Lib.hid HS
  refine ⟨_, rfl, HS, ?_⟩
  clear b9 KM
  try simp only [Act.put, List.setIfInBounds_toArray, List.set_cons_zero, List.set_cons_succ]
  refine FirstH.go (i := 4) (v := .bool true) rfl rfl _ rfl _ rfl (by kernel_rfl) (fun _ _ _ h => h) inv (fun X _ => by unfold bareO; go_simp) HS (fun inv => ?_)
  try simp only [Act.put, List.setIfInBounds_toArray, List.set_cons_zero, List.set_cons_succ]
  refine FirstH.goG (i := 5) (v := .int .i64 z) rfl (by kernel_rfl) _ rfl _ rfl (by kernel_rfl) (fun _ _ _ h => h) inv (fun X _ => by unfold bareO; go_simp) HS (fun inv => ?_)
  try simp only [Act.put, List.setIfInBounds_toArray, List.set_cons_zero, List.set_cons_succ]
  refine FirstH.goG (i := 7) (v := .int .i64 z) rfl (by kernel_rfl) _ rfl _ rfl (by kernel_rfl) (fun _ _ _ h => h) inv (fun X _ => by unfold bareO; go_simp) HS (fun inv => ?_)
  try simp only [Act.put, List.setIfInBounds_toArray, List.set_cons_zero, List.set_cons_succ]
  clear HS
  refine FirstH.only (i := 6) (by kernel_rfl) (by decide) inv (fun inv => wpOp_callG (i := 6) rfl (by kernel_rfl) 82 rfl _ rfl 14 #[.int .i64 z] (by unfold bareO; go_simp) (numE z _) ?_)
  rintro e w10 ⟨rfl, rfl⟩
  have HS := HS9.out
  refine ⟨_, rfl, HS, ?_⟩
  try simp only [Act.put, List.setIfInBounds_toArray, List.set_cons_zero, List.set_cons_succ]
  refine FirstH.goG (i := 8) (v := .bool true) rfl (by kernel_rfl) _ rfl _ rfl (by kernel_rfl) (fun _ _ _ h => h) inv (fun X _ => by unfold bareO; go_simp) HS (fun inv => ?_)
  try simp only [Act.put, List.setIfInBounds_toArray, List.set_cons_zero, List.set_cons_succ]
  refine FirstH.go (i := 9) (v := .bool true) rfl rfl _ rfl _ rfl (by kernel_rfl) (fun _ _ _ h => h) inv (fun X _ => by unfold bareO; go_simp) HS (fun inv => ?_)
  try simp only [Act.put, List.setIfInBounds_toArray, List.set_cons_zero, List.set_cons_succ]
  clear HS
  refine ⟨by kernel_rfl, ?_⟩
  simp only [List.drop_succ_cons, List.drop_zero]
  go_wp2
  go_ret
  exact ⟨rfl, ⟨v3, u5, L3, M5, J9.out, ME.out⟩, B9.out⟩

end Go.Proofs.Yteaafpgkifmdeaa
