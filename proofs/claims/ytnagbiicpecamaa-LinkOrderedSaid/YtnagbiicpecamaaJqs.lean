/-
  A step of the law's field of links: a packet is taken and comes. Condition: few steps before it.
-/
import Derived.Test.YtnagbiicpecamaaJqp
namespace Go.Proofs.Ytnagbiicpecamaa
set_option linter.unusedSimpArgs false
set_option linter.unusedVariables false
open Go.RowKit Go.Maps Go.Sort

set_option maxRecDepth 100000 in
set_option maxHeartbeats 4000000 in
theorem fstepKR0 (base : Nat) (W : World) (x : Fa) (y : Fc) (F k n : Nat) (h : Fm base W x y k) (g : Fg F y k n) (hn : n ≤ 900) (hF : F ≤ 9223372036854775807) (kd X Iv : Int) (hk1 : ¬ kd ≤ 1) (hk2 : ¬ kd = 2) (h0 : y.P.length ≠ 0) (hkd : ¬ kd = 5 ∧ ¬ kd = 6) (hto : ∀ p ∈ y.P, (fun i => y.P[i]? = some p) ((Iv.tmod y.P.length + y.P.length).tmod y.P.length).toNat → ¬ p.tn = 2) :
    Calls Try.prog 6 #[.pointer (some ⟨x.f, 0, none⟩), .agg #[.int .i64 kd, .int .i64 X, .int .i64 Iv]] W fun e W' => e = .returned (.tuple #[]) ∧ FstM base W x F n W' := by
  obtain ⟨W1, hW1⟩ : ∃ Y, W.alloc (.cells #[.int .i64 kd, .int .i64 X, .int .i64 Iv] 37) = Y := ⟨_, rfl⟩
  have r1 : W1.heap[W.heap.size]? = some (.cells #[.int .i64 kd, .int .i64 X, .int .i64 Iv] 37 (0, 0)) := by rw [← hW1]; exact heap_alloc_new _ _
  have bb1 : Below W.heap.size W W1 := by rw [← hW1]; exact (Below.refl _ _).alloc (Nat.le_refl _) _
  have J1 := Lib.hid (h.below bb1)
  have hbs : base ≤ W.heap.size := Nat.le_trans h.hb (Nat.le_of_lt (blt h.blk))
  have HBS := Lib.hid hbs
  have B1 := Lib.hid (bb1.mono hbs)
  have GG := Lib.hid g
  have HNN := Lib.hid hn
  have HFF := Lib.hid hF
  have hnow0 := g.now
  have hp120 := g.P
  have hs300 := g.S
  obtain ⟨fb, b0, m0, v0, b1, m1, v1, fv, sv0, sv1, cv0, cv1⟩ := x
  have lnk := J1.out.blk
  obtain ⟨now, hnow⟩ : ∃ z, y.now = z := ⟨_, rfl⟩
  have HNOW := Lib.hid hnow
  simp only [Fa.cs, hnow] at lnk
  rw [hnow] at hnow0
  obtain ⟨Af, cf, e9, hcf, hmf, hAf⟩ := J1.out.fly.slice
  simp only at e9
  subst e9
  obtain ⟨nf, hnf⟩ : ∃ z, y.P.length = z := ⟨_, rfl⟩
  have HNF := Lib.hid hnf
  rw [hnf] at hp120 hcf
  simp only [hnf] at lnk
  have c7 := cell_of lnk 7 (.int .i64 now) rfl
  have z7 := frz_row 7 lnk
  obtain ⟨W2, hW2⟩ : ∃ Y, W1.setCell ⟨fb, 7, none⟩ (.int .i64 (now + 1)) = Y := ⟨_, rfl⟩
  have l2 : W2.heap[fb]? = some (.cells #[.pointer (some ⟨b0, 0, none⟩), .pointer (some ⟨b1, 0, none⟩), .slice Af nf cf, sv0, sv1, cv0, cv1, .int .i64 (now + 1)] 32 (0, 0)) := by rw [← hW2]; exact (row_set lnk _).trans rfl
  have nfb : W.heap.size ≠ fb := fun e => by
    rw [e] at r1
    exact apart_of r1 lnk (by decide) rfl
  have r2 : W2.heap[W.heap.size]? = some (.cells #[.int .i64 kd, .int .i64 X, .int .i64 Iv] 37 (0, 0)) := by rw [← hW2]; exact other_set r1 nfb _
  have d0 := cell_of r2 0 (.int .i64 kd) rfl
  have d1 := cell_of r2 1 (.int .i64 X) rfl
  have d2 := cell_of r2 2 (.int .i64 Iv) rfl
  have f2 := cell_of l2 2 (.slice Af nf cf) rfl
  have kt : KP (fun g => g = fb) W1 W2 := by rw [← hW2]; exact KP.set (S := fun g => g = fb) W1 fb 7 _ rfl
  have J2 : Hid (Fm base W2 ⟨fb, b0, m0, v0, b1, m1, v1, .slice Af nf cf, sv0, sv1, cv0, cv1⟩ { y with now := now + 1 } k) := Lib.hid (by
    have q := J1.out.tick (W' := W2) (t := now + 1) kt (by simp only [Fa.cs, hnf]; exact l2)
    simp only [hnf] at q
    exact q)
  have B2 := Lib.hid (B1.out.trans (kt.below (Nat.le_trans hbs bb1.size) fun j hj => by have e : j = fb := hj; rw [e]; exact J1.out.hb))
  have G2 : Hid (Fg F { y with now := now + 1 } k (n + 1)) := Lib.hid (GG.out.tick (by rw [hnow]))
  obtain ⟨a, ha⟩ : ∃ a : Int, X.tmod 2 = a := ⟨_, rfl⟩
  have ha2 : -2 < a ∧ a < 2 := by rw [← ha]; exact ⟨by have := Int.lt_tmod_of_pos X (show (0 : Int) < 2 by decide); omega, Int.tmod_lt_of_pos X (by decide)⟩
  have hwa : wrap64 (a + 2) = a + 2 := IntWalk.wrap64_in _ (by omega)
  have hw1 : wrap64 (now + 1) = now + 1 := IntWalk.wrap64_in _ (by omega)
  have HW1 := Lib.hid hW1
  have HW2 := Lib.hid hW2
  have HAF := Lib.hid hAf
  have HCF := Lib.hid (And.intro hcf hmf)
  have HP := Lib.hid hp120
  have HS3 := Lib.hid hs300
  have L2 := Lib.hid l2
  have R2 := Lib.hid r2
  have S2 : Hid (base ≤ W2.heap.size) := Lib.hid (Nat.le_trans hbs (Nat.le_trans bb1.size kt.size))
  clear hcf hmf hAf h g hn hF kt bb1 r1 hnow hnf hs300 hbs hW1
  have hd1 : decide (kd ≤ 1) = false := by simpa using hk1
  have hd2 : (kd == 2) = false := by simpa using hk2
  have hd2' : ((2 : Int) == kd) = false := by simpa using fun e : (2 : Int) = kd => hk2 e.symm
  have n5 : (kd != 5) = true := by simp [hkd.1]
  have n6 : (kd != 6) = true := by simp [hkd.2]
  have hnf0 : 0 < nf := by rw [← HNF.out]; omega
  obtain ⟨r3, i, hr3, hr3a, hr3b, hi3, hin⟩ := rem_in2 Iv nf hnf0
  have hx : y.P[i]? = some (y.P[i]'(by rw [HNF.out]; exact hin)) := List.getElem?_eq_getElem _
  obtain ⟨p, hp⟩ : ∃ p, y.P[i]'(by rw [HNF.out]; exact hin) = p := ⟨_, rfl⟩
  rw [hp] at hx
  have hmem : p ∈ y.P := List.mem_of_getElem? hx
  have htn : ¬ p.tn = 2 := hto p hmem (by
    show y.P[_]? = some p
    rw [HNF.out, hr3, hi3]
    exact hx)
  have HMEM := Lib.hid hmem
  have HPX := Lib.hid hx
  have HIN := Lib.hid hin
  obtain ⟨g, o, rfl⟩ : ∃ g o, Af = some ⟨g, o, none⟩ := by
    rcases HAF.out with ⟨_, h1⟩ | h1
    · have := HCF.out.1
      omega
    · exact h1
  have rowF := J2.out.fly
  simp only [HNF.out] at rowF
  have okp := J2.out.ok p hmem
  obtain ⟨fn, fl, tn, tl, sq, ak, hs, ⟨xB, xA, xc⟩⟩ := p
  obtain ⟨xl, hxl⟩ : ∃ z, xB.length = z := ⟨_, rfl⟩
  have e0 := RowO.elem Pk.sz rowF hx (j := 0) (by decide)
  have e1 := RowO.elem Pk.sz rowF hx (j := 1) (by decide)
  have e2 := RowO.elem Pk.sz rowF hx (j := 2) (by decide)
  have e3 := RowO.elem Pk.sz rowF hx (j := 3) (by decide)
  have e4 := RowO.elem Pk.sz rowF hx (j := 4) (by decide)
  have e5 := RowO.elem Pk.sz rowF hx (j := 5) (by decide)
  have e6 := RowO.elem Pk.sz rowF hx (j := 6) (by decide)
  have e7 := RowO.elem Pk.sz rowF hx (j := 7) (by decide)
  simp only [Pk.cs, hxl, List.getElem?_toArray, List.getElem?_cons_zero, List.getElem?_cons_succ, Nat.add_zero] at e0 e1 e2 e3 e4 e5 e6 e7
  have HXL := Lib.hid hxl
  obtain ⟨kp, hkp⟩ : ∃ z, W2.heap.size = z := ⟨_, rfl⟩
  obtain ⟨WA, hWA⟩ : ∃ Y, W2.alloc (.cells #[.int .u8 0, .int .u16 0, .int .u8 0, .int .u16 0, .int .u64 0, .int .u64 0, .bool false, .slice none 0 0] 46) = Y := ⟨_, rfl⟩
  have rA : WA.heap[kp]? = some (.cells #[.int .u8 0, .int .u16 0, .int .u8 0, .int .u16 0, .int .u64 0, .int .u64 0, .bool false, .slice none 0 0] 46 (0, 0)) := by rw [← hWA, ← hkp]; exact heap_alloc_new _ _
  obtain ⟨WB, hWB⟩ : ∃ Y, WA.setRow kp #[.int .u8 fn, .int .u16 fl, .int .u8 tn, .int .u16 tl, .int .u64 sq, .int .u64 ak, .bool hs, .slice xA xl xc] = Y := ⟨_, rfl⟩
  have bB : Below W2.heap.size W2 WB := by
    rw [← hWB, ← hWA, ← hkp]
    exact ((Below.refl _ _).alloc (Nat.le_refl _) _).trans ⟨rfl, rfl, rfl, by simp [World.setRow], fun k hk => setRow_otherP _ W2.heap.size k _ (by omega)⟩
  have RB : Hid (WB.heap[kp]? = some (.cells #[.int .u8 fn, .int .u16 fl, .int .u8 tn, .int .u16 tl, .int .u64 sq, .int .u64 ak, .bool hs, .slice xA xl xc] 46 (0, 0))) := Lib.hid (by rw [← hWB]; exact setRow_heapG _ _ _ _ _ _ rA)
  have RA := Lib.hid rA
  have JY := Lib.hid (J2.out.below bB)
  have BB := Lib.hid (B2.out.trans (bB.mono S2.out))
  have SB : Hid (base ≤ WB.heap.size) := Lib.hid (Nat.le_trans S2.out bB.size)
  have LB : Hid (WB.heap[fb]? = some (.cells #[.pointer (some ⟨b0, 0, none⟩), .pointer (some ⟨b1, 0, none⟩), .slice (some ⟨g, o, none⟩) nf cf, sv0, sv1, cv0, cv1, .int .i64 (now + 1)] 32 (0, 0))) := Lib.hid ((bB.block _ (blt L2.out)).trans L2.out)
  have DB : Hid (WB.heap[W.heap.size]? = some (.cells #[.int .i64 kd, .int .i64 X, .int .i64 Iv] 37 (0, 0))) := Lib.hid ((bB.block _ (blt R2.out)).trans R2.out)
  have OKB := Lib.hid (okp.below bB)
  have HWA := Lib.hid hWA
  have HWB := Lib.hid hWB
  have HKP := Lib.hid hkp
  have ROWF := Lib.hid (rowF.below bB)
  have KPG : Hid (g < kp) := Lib.hid (by have := rowF.lt g rfl; omega)
  obtain ⟨xx, hxx⟩ : ∃ z : Int, (a + 2).tmod 2 = z := ⟨_, rfl⟩
  have hx01 : xx = 0 ∨ xx = 1 := by
    have h3 := Int.tmod_nonneg (a := a + 2) 2 (by omega)
    have h4 := Int.tmod_lt_of_pos (a + 2) (show (0 : Int) < 2 by decide)
    omega
  have hwx : wrap64 xx = xx := IntWalk.wrap64_in _ (by omega)
  have hnz : ¬ ((nf : Int) = 0) := by omega
  have hnp : (0 : Int) < (nf : Int) := by omega
  have hp1 := HP.out
  have hw3 : IntKind.i64.wrap r3 = r3 := IntWalk.i64_in _ (by omega)
  have hw4 : IntKind.i64.wrap (r3 + (nf : Int)) = r3 + (nf : Int) := IntWalk.i64_in _ (by omega)
  have hw5 : IntKind.i64.wrap (i : Int) = (i : Int) := IntWalk.i64_in _ (by omega)
  have hini : (i : Int) < (nf : Int) := by omega
  have hwi : IntKind.i64.wrap ((i : Int) + 1) = (i : Int) + 1 := IntWalk.i64_in _ (by omega)
  have HWI := Lib.hid hwi
  have k0b := cell_of DB.out 0 (.int .i64 kd) rfl
  have q0 := cell_of RB.out 0 (.int .u8 fn) rfl
  have q1 := cell_of RB.out 1 (.int .u16 fl) rfl
  have q2 := cell_of RB.out 2 (.int .u8 tn) rfl
  have q3 := cell_of RB.out 3 (.int .u16 tl) rfl
  have q4 := cell_of RB.out 4 (.int .u64 sq) rfl
  have q5 := cell_of RB.out 5 (.int .u64 ak) rfl
  have q6 := cell_of RB.out 6 (.bool hs) rfl
  have q7 := cell_of RB.out 7 (.slice xA xl xc) rfl
  clear l2 r2 hW2 hk1 hk2 h0 hkd hp hx hmem rowF okp hkp hWA rA hWB bB hx01 hwi hxl hto
  go_enter Try.func6, Try.ntmps6
  go_wp2_with (first | (refine wpList_bx rfl 37 (.tmp 1) rfl 3 rfl #[.int .i64 kd, .int .i64 X, .int .i64 Iv] rfl ?_; rw [HW1.out]) | (rw [HW2.out]) | (rw [HWA.out, HKP.out]) | (refine wpList_store_row rfl 46 (.tmp 8) (.tmp 108) rfl kp #[.int .u8 fn, .int .u16 fl, .int .u8 tn, .int .u16 tl, .int .u64 sq, .int .u64 ak, .bool hs, .slice xA xl xc] (by rfl) (by rfl) 46 _ RA.out (by kernel_rfl) rfl (by simp [Value.oneCell']) ?_; rw [HWB.out]))
  obtain ⟨o2, hsf, hA2⟩ := slFromP g o nf cf (i + 1) (by omega) HCF.out.1
  have hst := slToP (some ⟨g, o, none⟩) nf cf i (by omega) HCF.out.1 (.inr ⟨g, o, rfl⟩)
  rw [show (((i + 1 : Nat)) : Int) = (i : Int) + 1 by omega] at hsf
  have HSF := Lib.hid hsf
  have HST := Lib.hid hst
  have HA2 := Lib.hid hA2
  obtain ⟨B0, hB0⟩ : ∃ z, WB.heap.size = z := ⟨_, rfl⟩
  obtain ⟨w2, hw2⟩ : ∃ Y, WB.drew = Y := ⟨_, rfl⟩
  have b2 : Below B0 WB w2 := by rw [← hw2, ← hB0]; exact (Below.refl _ _).drew
  obtain ⟨w3, hw3⟩ : ∃ Y, w2.alloc (.cells #[] 46) = Y := ⟨_, rfl⟩
  have s2 : B0 ≤ w2.heap.size := by rw [← hB0]; rw [hB0]; have := b2.size; omega
  have b3 : Below B0 WB w3 := by rw [← hw3]; exact b2.alloc s2 _
  have ltB : ∀ {q : Nat} {ob : Obj}, WB.heap[q]? = some ob → q < B0 := fun h => by rw [← hB0]; exact blt h
  have L2' := Lib.hid ((b2.block fb (ltB LB.out)).trans LB.out)
  have L3 := Lib.hid ((b3.block fb (ltB LB.out)).trans LB.out)
  have O3 : Hid (w3.ownsRow B0 46 8 (.slice (some ⟨w2.heap.size, 0, none⟩) 0 0) 0 []) := Lib.hid (by rw [← hw3]; exact ⟨rfl, .inr ⟨w2.heap.size, 0, #[], rfl, s2, heap_alloc_new _ _, Nat.le_refl _, by unfold maxLen; omega, rfl, rfl⟩⟩)
  have ROW3 := Lib.hid (ROWF.out.below (hB0 ▸ b3))
  have HW2_ := Lib.hid hw2
  have HW3_ := Lib.hid hw3
  have B3 := Lib.hid b3
  have HB0 := Lib.hid hB0
  have LTB := Lib.hid (fun (q : Nat) (ob : Obj) (h : WB.heap[q]? = some ob) => ltB h)
  clear hsf hst hA2 hw2 b2 hw3 b3 s2 ltB hB0
  refine region_heldT (S := fun X => X.heap[fb]? = some (.cells #[.pointer (some ⟨b0, 0, none⟩), .pointer (some ⟨b1, 0, none⟩), .slice (some ⟨g, o, none⟩) nf cf, sv0, sv1, cv0, cv1, .int .i64 (now + 1)] 32 (0, 0))) 17 (by kernel_rfl) (by decide) (fun inv => ?_)
  change FirstH _ _ _ _ _ _ _ _ _ _ WB.drew
  rw [HW2_.out]
  have HS := L2'.out
  refine FirstH.go (i := 0) (v := .pointer (some ⟨fb, 0, none⟩)) rfl rfl _ rfl _ rfl (by kernel_rfl) (fun _ _ _ h => h) inv (fun X _ => by unfold bareO; go_simp) HS (fun inv => ?_)
  try simp only [Act.put, List.setIfInBounds_toArray, List.set_cons_zero, List.set_cons_succ]
  refine FirstH.go (i := 2) (v := .pointer (some ⟨fb, 0, none⟩)) rfl rfl _ rfl _ rfl (by kernel_rfl) (fun _ _ _ h => h) inv (fun X _ => by unfold bareO; go_simp) HS (fun inv => ?_)
  try simp only [Act.put, List.setIfInBounds_toArray, List.set_cons_zero, List.set_cons_succ]
  refine FirstH.go (i := 3) (v := .pointer (some ⟨fb, 0, none⟩)) rfl rfl _ rfl _ rfl (by kernel_rfl) (fun _ _ _ h => h) inv (fun X _ => by unfold bareO; go_simp) HS (fun inv => ?_)
  try simp only [Act.put, List.setIfInBounds_toArray, List.set_cons_zero, List.set_cons_succ]
  refine FirstH.go (i := 4) (v := .pointer (some ⟨fb, 2, none⟩)) rfl rfl _ rfl _ rfl (by kernel_rfl) (fun _ _ _ h => h) inv (fun X _ => by unfold bareO; go_simp) HS (fun inv => ?_)
  try simp only [Act.put, List.setIfInBounds_toArray, List.set_cons_zero, List.set_cons_succ]
  refine FirstH.go (i := 5) (v := .slice (some ⟨g, o, none⟩) nf cf) rfl rfl _ rfl _ rfl (by kernel_rfl) (fun _ _ _ h => h) inv (fun X hS => by have c1 := cell_of hS 2 (.slice (some ⟨g, o, none⟩) nf cf) rfl; unfold bareO; go_simp) HS (fun inv => ?_)
  try simp only [Act.put, List.setIfInBounds_toArray, List.set_cons_zero, List.set_cons_succ]
  refine FirstH.go (i := 6) (v := .int .i64 i) rfl rfl _ rfl _ rfl (by kernel_rfl) (fun _ _ _ h => h) inv (fun X _ => by unfold bareO; go_simp) HS (fun inv => ?_)
  try simp only [Act.put, List.setIfInBounds_toArray, List.set_cons_zero, List.set_cons_succ]
  refine FirstH.go (i := 7) (v := .slice (some ⟨g, o, none⟩) i cf) rfl rfl _ rfl _ rfl (by kernel_rfl) (fun _ _ _ h => h) inv (fun X _ => run_slB rfl rfl rfl (HST.out X)) HS (fun inv => ?_)
  try simp only [Act.put, List.setIfInBounds_toArray, List.set_cons_zero, List.set_cons_succ]
  refine FirstH.go (i := 9) (v := .pointer (some ⟨fb, 0, none⟩)) rfl rfl _ rfl _ rfl (by kernel_rfl) (fun _ _ _ h => h) inv (fun X _ => by unfold bareO; go_simp) HS (fun inv => ?_)
  try simp only [Act.put, List.setIfInBounds_toArray, List.set_cons_zero, List.set_cons_succ]
  refine FirstH.go (i := 10) (v := .pointer (some ⟨fb, 0, none⟩)) rfl rfl _ rfl _ rfl (by kernel_rfl) (fun _ _ _ h => h) inv (fun X _ => by unfold bareO; go_simp) HS (fun inv => ?_)
  try simp only [Act.put, List.setIfInBounds_toArray, List.set_cons_zero, List.set_cons_succ]
  refine FirstH.go (i := 11) (v := .pointer (some ⟨fb, 2, none⟩)) rfl rfl _ rfl _ rfl (by kernel_rfl) (fun _ _ _ h => h) inv (fun X _ => by unfold bareO; go_simp) HS (fun inv => ?_)
  try simp only [Act.put, List.setIfInBounds_toArray, List.set_cons_zero, List.set_cons_succ]
  refine FirstH.go (i := 12) (v := .slice (some ⟨g, o, none⟩) nf cf) rfl rfl _ rfl _ rfl (by kernel_rfl) (fun _ _ _ h => h) inv (fun X hS => by have c1 := cell_of hS 2 (.slice (some ⟨g, o, none⟩) nf cf) rfl; unfold bareO; go_simp) HS (fun inv => ?_)
  try simp only [Act.put, List.setIfInBounds_toArray, List.set_cons_zero, List.set_cons_succ]
  refine FirstH.go (i := 13) (v := .int .i64 i) rfl rfl _ rfl _ rfl (by kernel_rfl) (fun _ _ _ h => h) inv (fun X _ => by unfold bareO; go_simp) HS (fun inv => ?_)
  try simp only [Act.put, List.setIfInBounds_toArray, List.set_cons_zero, List.set_cons_succ]
  refine FirstH.go (i := 14) (v := .int .i64 ((i : Int) + 1)) rfl rfl _ rfl _ rfl (by kernel_rfl) (fun _ _ _ h => h) inv (fun X _ => by have hwr := HWI.out; unfold bareO; go_simp) HS (fun inv => ?_)
  try simp only [Act.put, List.setIfInBounds_toArray, List.set_cons_zero, List.set_cons_succ]
  refine FirstH.go (i := 15) (v := .slice (some ⟨g, o2, none⟩) (nf - (i + 1)) (cf - (i + 1))) rfl rfl _ rfl _ rfl (by kernel_rfl) (fun _ _ _ h => h) inv (fun X _ => run_slB rfl rfl rfl (HSF.out X)) HS (fun inv => ?_)
  try simp only [Act.put, List.setIfInBounds_toArray, List.set_cons_zero, List.set_cons_succ]
  clear HS
  refine FirstH.only (i := 1) (by kernel_rfl) (by decide) inv (fun inv => wpOp_vl (i := 1) (v := .slice (some ⟨w2.heap.size, 0, none⟩) 0 0) (w' := w2.alloc (.cells #[] 46)) rfl rfl 113 rfl _ rfl (by unfold bareO; go_simp) ?_)
  rw [HW3_.out]
  refine ⟨L3.out, ?_⟩
  try simp only [Act.put, List.setIfInBounds_toArray, List.set_cons_zero, List.set_cons_succ]
  obtain ⟨i0, hi0, hz0, hz1, hz2⟩ := info_parts pktI
  have lt : (y.P.take i).length = i := by rw [List.length_take, HNF.out]; have := HIN.out; omega
  have ld : (y.P.drop (i + 1)).length = nf - (i + 1) := by rw [List.length_drop, HNF.out]
  have hrow : ∀ (X : World), RowO X 46 8 (.slice (some ⟨g, o, none⟩) nf cf) nf (flat Pk.cs y.P) → (∀ j u, (flat Pk.cs (y.P.take i))[j]? = some u → X.cell? ⟨g, o + j, none⟩ = some u) ∧ (∀ j u, (flat Pk.cs (y.P.drop (i + 1)))[j]? = some u → X.cell? ⟨g, o + (i + 1) * 8 + j, none⟩ = some u) := fun X hX => by
    have e : flat Pk.cs y.P = flat Pk.cs (y.P.take (i + 1)) ++ flat Pk.cs (y.P.drop (i + 1)) := by rw [← flat_append, List.take_append_drop]
    have e' : flat Pk.cs y.P = flat Pk.cs (y.P.take i) ++ flat Pk.cs (y.P.drop i) := by rw [← flat_append, List.take_append_drop]
    have le : (flat Pk.cs (y.P.take (i + 1))).length = (i + 1) * 8 := by rw [flat_len Pk.sz, List.length_take, HNF.out]; have := HIN.out; omega
    refine ⟨fun j u hu => hX.cells j u ?_, fun j u hu => ?_⟩
    · rw [e', List.getElem?_append_left ((List.getElem?_eq_some_iff.1 hu).1)]
      exact hu
    · have := hX.cells ((i + 1) * 8 + j) u (by rw [e, List.getElem?_append_right (by omega), le, Nat.add_sub_cancel_left]; exact hu)
      rw [← Nat.add_assoc] at this
      exact this
  have HROW := Lib.hid hrow
  have LT := Lib.hid lt
  have LD := Lib.hid ld
  clear hrow lt ld
  refine FirstH.only (i := 8) (by kernel_rfl) (by decide) inv (fun inv => wpOp_any rfl rfl (wp_append_own w3 (.tmp 113) (.tmp 119) 28 rfl B0 46 i0 _ 8 56 Try.underlying28 hi0 hz0 hz1 hz2 rfl (by decide) _ 0 _ rfl O3.out ⟨g, o, none⟩ i cf (flat Pk.cs (y.P.take i)) rfl (by rw [flat_len Pk.sz, LT.out]) (fun j u hu => by rw [addr_add]; exact (HROW.out _ ROW3.out).1 j u hu) (flat_one Pk.one _) (by have := HIN.out; have := HP.out; unfold maxLen; omega) (by have := HIN.out; have := HP.out; omega) (by have := B3.out.size; have := HB0.out; omega) ?_))
  intro v8 w8 O8 g8 nn8
  have b8 : Below B0 WB w8 := B3.out.grown g8 (by have := B3.out.size; have := HB0.out; omega) fun k hk => (O3.out.lt k hk).1
  refine ⟨(b8.block fb (LTB.out _ _ LB.out)).trans LB.out, ?_⟩
  rw [Nat.zero_add, List.nil_append] at O8
  have O8' := Lib.hid O8
  have B8 := Lib.hid b8
  have ROW8 := Lib.hid (ROWF.out.below (HB0.out ▸ b8))
  have NN8 : Hid (v8 ≠ .slice none 0 0) := Lib.hid fun e => by
    have := nn8.1 e
    cases this.1
  clear O8 g8 b8 nn8
  try simp only [Act.put, List.setIfInBounds_toArray, List.set_cons_zero, List.set_cons_succ]
  have HNEW : Hid (∀ j u, (flat Pk.cs (y.P.drop (i + 1)))[j]? = some u → w8.cell? ((⟨g, o2, none⟩ : Addr).add j) = some u) := Lib.hid fun j u hu => by
    have hlt : i + 1 < nf := by
      have h1 := (List.getElem?_eq_some_iff.1 hu).1
      rw [flat_len Pk.sz, LD.out] at h1
      omega
    rw [addr_add, HA2.out hlt]
    exact (HROW.out _ ROW8.out).2 j u hu
  refine FirstH.only (i := 16) (by kernel_rfl) (by decide) inv (fun inv => wpOp_any rfl rfl (wp_append_own w8 (.tmp 120) (.tmp 127) 28 rfl B0 46 i0 _ 8 56 Try.underlying28 hi0 hz0 hz1 hz2 rfl (by decide) v8 i _ rfl O8'.out ⟨g, o2, none⟩ (nf - (i + 1)) (cf - (i + 1)) (flat Pk.cs (y.P.drop (i + 1))) rfl (by rw [flat_len Pk.sz, LD.out]) HNEW.out (flat_one Pk.one _) (by have := HIN.out; have := HP.out; unfold maxLen; omega) (by have := HIN.out; have := HP.out; omega) (by have := B8.out.size; have := HB0.out; omega) ?_))
  intro v9 w9 O9 g9 nn9
  have b9 : Below B0 WB w9 := B8.out.grown g9 (by have := B8.out.size; have := HB0.out; omega) fun k hk => (O8'.out.lt k hk).1
  have l9 := (b9.block fb (LTB.out _ _ LB.out)).trans LB.out
  refine ⟨l9, ?_⟩
  obtain ⟨g', c9, rfl⟩ : ∃ g' c9, v9 = .slice (some ⟨g', 0, none⟩) (i + (nf - (i + 1))) c9 := by
    rcases O9.2 with ⟨e, _⟩ | ⟨g', cap, cur, e, _⟩
    · exact absurd (nn9.1 e).1 NN8.out
    · exact ⟨g', cap, e⟩
  obtain ⟨m9, hm9⟩ : ∃ z, i + (nf - (i + 1)) = z := ⟨_, rfl⟩
  rw [hm9] at O9
  obtain ⟨w10, hw10⟩ : ∃ Y, w9.setCell ⟨fb, 2, none⟩ (.slice (some ⟨g', 0, none⟩) m9 c9) = Y := ⟨_, rfl⟩
  have k10 : KP (fun q => (Value.slice (some ⟨g, o, none⟩) nf cf).ownBlock = some q ∨ q = fb) WB w10 := (KP.of_below (HB0.out.symm ▸ b9)).trans (by rw [← hw10]; exact KP.set (S := fun q => (Value.slice (some ⟨g, o, none⟩) nf cf).ownBlock = some q ∨ q = fb) w9 fb 2 _ (Or.inr rfl)) fun _ _ h => h
  have R10 : RowO w10 46 8 (.slice (some ⟨g', 0, none⟩) m9 c9) m9 (flat Pk.cs (y.P.take i) ++ flat Pk.cs (y.P.drop (i + 1))) := (RowO.of_owns O9).keepK (by rw [← hw10]; exact KP.set (S := fun g => g = fb) w9 fb 2 _ rfl) fun q hq e => by
    obtain ⟨c2, h2⟩ := row_block O9 hq
    exact apart_of h2 l9 (by decide) e
  have hS : ∀ q, ((Value.slice (some ⟨g, o, none⟩) nf cf).ownBlock = some q ∨ q = fb) → ∃ cu t, WB.heap[q]? = some (.cells cu t (0, 0)) ∧ t ≠ 64 ∧ t ≠ 60 ∧ t ≠ 5 := by
    rintro q (e | rfl)
    · obtain ⟨c2, h2⟩ := ROWF.out.block q e
      exact ⟨c2, _, h2, by decide, by decide, by decide⟩
    · exact ⟨_, _, LB.out, by decide, by decide, by decide⟩
  have J10 : Hid (Fm base w10 ⟨fb, b0, m0, v0, b1, m1, v1, .slice (some ⟨g', 0, none⟩) m9 c9, sv0, sv1, cv0, cv1⟩ { y with now := now + 1, P := y.P.take i ++ y.P.drop (i + 1) } k) := Lib.hid (JY.out.fv_ (v' := .slice (some ⟨g', 0, none⟩) m9 c9) (P' := y.P.take i ++ y.P.drop (i + 1)) k10 (by
    simp only [Fa.cs]
    rw [← hw10]
    exact (row_set l9 _).trans rfl) (by
    rw [List.length_append, LT.out, LD.out, hm9, flat_append]
    exact R10) (fun p hp => (JY.out.ok p (by rcases List.mem_append.1 hp with h | h; exact List.mem_of_mem_take h; exact List.mem_of_mem_drop h)).offT k10 hS) (.inr ⟨g', rfl, by have := (O9.lt g' rfl).1; have := HB0.out; omega⟩))
  have B10 := Lib.hid (BB.out.trans (k10.below SB.out (by
    rintro q (e | rfl)
    · exact JY.out.hf q e
    · exact JY.out.hb)))
  have S10 : Hid (base ≤ w10.heap.size) := Lib.hid (Nat.le_trans SB.out k10.size)
  have OK10 := Lib.hid (OKB.out.offT k10 hS)
  have nkp : ∀ q, ((Value.slice (some ⟨g, o, none⟩) nf cf).ownBlock = some q ∨ q = fb) → q ≠ kp ∧ q ≠ W.heap.size := by
    rintro q (e | rfl)
    · refine ⟨fun e2 => ?_, fun e2 => ?_⟩
      · have e3 : g = q := by simpa [Value.ownBlock] using e
        have := KPG.out
        omega
      · obtain ⟨c2, h2⟩ := ROWF.out.block q e
        rw [e2] at h2
        exact apart_of h2 DB.out (by decide) rfl
    · refine ⟨fun e2 => ?_, fun e2 => ?_⟩
      · have h2 := LB.out
        rw [e2] at h2
        exact apart_of h2 RB.out (by decide) rfl
      · have h2 := LB.out
        rw [e2] at h2
        exact apart_of h2 DB.out (by decide) rfl
  have RB10 : Hid (w10.heap[kp]? = some (.cells #[.int .u8 fn, .int .u16 fl, .int .u8 tn, .int .u16 tl, .int .u64 sq, .int .u64 ak, .bool hs, .slice xA xl xc] 46 (0, 0))) := Lib.hid ((k10.block kp (blt RB.out) (fun e => (nkp kp e).1 rfl)).trans RB.out)
  have DB10 : Hid (w10.heap[W.heap.size]? = some (.cells #[.int .i64 kd, .int .i64 X, .int .i64 Iv] 37 (0, 0))) := Lib.hid ((k10.block _ (blt DB.out) (fun e => (nkp _ e).2 rfl)).trans DB.out)
  have HW10 := Lib.hid hw10
  have HM9 := Lib.hid hm9
  have cs9 := cell_of l9 2 (.slice (some ⟨g, o, none⟩) nf cf) rfl
  have zs9 := frz_row 2 l9
  clear k0b q0 q1 q2 q3 q4 q5 q6 q7
  have k0b := cell_of DB10.out 0 (.int .i64 kd) rfl
  have q0 := cell_of RB10.out 0 (.int .u8 fn) rfl
  have q1 := cell_of RB10.out 1 (.int .u16 fl) rfl
  have q2 := cell_of RB10.out 2 (.int .u8 tn) rfl
  have q3 := cell_of RB10.out 3 (.int .u16 tl) rfl
  have q4 := cell_of RB10.out 4 (.int .u64 sq) rfl
  have q5 := cell_of RB10.out 5 (.int .u64 ak) rfl
  have q6 := cell_of RB10.out 6 (.bool hs) rfl
  have q7 := cell_of RB10.out 7 (.slice xA xl xc) rfl
  clear hw10 k10 R10 hS nkp O9 g9 b9 nn9 l9 hi0 hz0 hz1 hz2 hm9
  have HMM : Hid ((y.P.take i ++ y.P.drop (i + 1)).length ≤ 120 ∧ ∀ p ∈ y.P.take i ++ y.P.drop (i + 1), p ∈ y.P) := Lib.hid ⟨by rw [List.length_append, LT.out, LD.out]; have := HP.out; have := HIN.out; omega, fun p hp => by rcases List.mem_append.1 hp with h | h; exact List.mem_of_mem_take h; exact List.mem_of_mem_drop h⟩
  rw [HM9.out]
  try simp only [Act.put, List.setIfInBounds_toArray, List.set_cons_zero, List.set_cons_succ]
  refine ⟨by kernel_rfl, ?_⟩
  simp only [List.drop_succ_cons, List.drop_zero]
  have HB_ := OK10.out.ownB
  have hk3 : k + 1 ≤ 1000 := by have := G2.out.k; have := HNN.out; omega
  have hC3 := G2.out.C
  have KH : Hid (Calls Try.prog 9 #[.pointer (some ⟨fb, 0, none⟩), .agg #[.int .u8 fn, .int .u16 fl, .int .u8 tn, .int .u16 tl, .int .u64 sq, .int .u64 ak, .bool hs, .slice xA xl xc]] w10 fun e W' => e = .returned (.tuple #[]) ∧ FheR0 base w10 ⟨fb, b0, m0, v0, b1, m1, v1, .slice (some ⟨g', 0, none⟩) m9 c9, sv0, sv1, cv0, cv1⟩ { y with now := now + 1, P := y.P.take i ++ y.P.drop (i + 1) } k ⟨fn, fl, tn, tl, sq, ak, hs, xB⟩ W') := Lib.hid (by
    have q := fhear0 base w10 ⟨fb, b0, m0, v0, b1, m1, v1, .slice (some ⟨g', 0, none⟩) m9 c9, sv0, sv1, cv0, cv1⟩ { y with now := now + 1, P := y.P.take i ++ y.P.drop (i + 1) } k J10.out ⟨fn, fl, tn, tl, sq, ak, hs, xB⟩ xA xc HB_.1 OK10.out.len HB_.2.1 HB_.2.2 (G2.out.q _ HMEM.out) (by omega) (Nat.le_trans G2.out.K.1 (by omega)) (Nat.le_trans hC3.2.2.1 (by have := HNN.out; omega)) htn
    unfold Hp.cs at q
    simp only [HXL.out] at q
    exact q)
  have HTN := Lib.hid htn
  clear htn hk3 hC3 HB_
  go_wp2_with (rw [HW10.out])
  refine KH.out.mono ?_
  rintro e W9 ⟨rfl, x', K', hx', eK, hFm, hb9, -⟩
  have GH := G2.out.hear0 (p := ⟨fn, fl, tn, tl, sq, ak, hs, xB⟩) (G2.out.to0 (p := ⟨fn, fl, tn, tl, sq, ak, hs, ⟨xB, xA, xc⟩⟩) HMEM.out HTN.out) eK rfl
  have FIN : Hid (FstM base W ⟨fb, b0, m0, v0, b1, m1, v1, .slice (some ⟨g, o, none⟩) nf cf, sv0, sv1, cv0, cv1⟩ F n W9) := Lib.hid ⟨x', _, k + 1, hx', hFm, GH.fewer (P := y.P.take i ++ y.P.drop (i + 1)) HMM.out.2 HMM.out.1 rfl, B10.out.trans hb9⟩
  clear hx' eK hFm hb9 GH
  go_wp2_with fail
  refine bodyPost_end (results_none rfl _ _ _) rfl ?_
  exact ⟨rfl, FIN.out⟩
set_option maxRecDepth 100000 in
set_option maxHeartbeats 4000000 in
theorem fstepKR1 (base : Nat) (W : World) (x : Fa) (y : Fc) (F k n : Nat) (h : Fm base W x y k) (g : Fg F y k n) (hn : n ≤ 900) (hF : F ≤ 9223372036854775807) (kd X Iv : Int) (hk1 : ¬ kd ≤ 1) (hk2 : ¬ kd = 2) (h0 : y.P.length ≠ 0) (hkd : ¬ kd = 5 ∧ ¬ kd = 6) (hto : ∀ p ∈ y.P, (fun i => y.P[i]? = some p) ((Iv.tmod y.P.length + y.P.length).tmod y.P.length).toNat → p.tn = 2) :
    Calls Try.prog 6 #[.pointer (some ⟨x.f, 0, none⟩), .agg #[.int .i64 kd, .int .i64 X, .int .i64 Iv]] W fun e W' => e = .returned (.tuple #[]) ∧ FstM base W x F n W' := by
  obtain ⟨W1, hW1⟩ : ∃ Y, W.alloc (.cells #[.int .i64 kd, .int .i64 X, .int .i64 Iv] 37) = Y := ⟨_, rfl⟩
  have r1 : W1.heap[W.heap.size]? = some (.cells #[.int .i64 kd, .int .i64 X, .int .i64 Iv] 37 (0, 0)) := by rw [← hW1]; exact heap_alloc_new _ _
  have bb1 : Below W.heap.size W W1 := by rw [← hW1]; exact (Below.refl _ _).alloc (Nat.le_refl _) _
  have J1 := Lib.hid (h.below bb1)
  have hbs : base ≤ W.heap.size := Nat.le_trans h.hb (Nat.le_of_lt (blt h.blk))
  have HBS := Lib.hid hbs
  have B1 := Lib.hid (bb1.mono hbs)
  have GG := Lib.hid g
  have HNN := Lib.hid hn
  have HFF := Lib.hid hF
  have hnow0 := g.now
  have hp120 := g.P
  have hs300 := g.S
  obtain ⟨fb, b0, m0, v0, b1, m1, v1, fv, sv0, sv1, cv0, cv1⟩ := x
  have lnk := J1.out.blk
  obtain ⟨now, hnow⟩ : ∃ z, y.now = z := ⟨_, rfl⟩
  have HNOW := Lib.hid hnow
  simp only [Fa.cs, hnow] at lnk
  rw [hnow] at hnow0
  obtain ⟨Af, cf, e9, hcf, hmf, hAf⟩ := J1.out.fly.slice
  simp only at e9
  subst e9
  obtain ⟨nf, hnf⟩ : ∃ z, y.P.length = z := ⟨_, rfl⟩
  have HNF := Lib.hid hnf
  rw [hnf] at hp120 hcf
  simp only [hnf] at lnk
  have c7 := cell_of lnk 7 (.int .i64 now) rfl
  have z7 := frz_row 7 lnk
  obtain ⟨W2, hW2⟩ : ∃ Y, W1.setCell ⟨fb, 7, none⟩ (.int .i64 (now + 1)) = Y := ⟨_, rfl⟩
  have l2 : W2.heap[fb]? = some (.cells #[.pointer (some ⟨b0, 0, none⟩), .pointer (some ⟨b1, 0, none⟩), .slice Af nf cf, sv0, sv1, cv0, cv1, .int .i64 (now + 1)] 32 (0, 0)) := by rw [← hW2]; exact (row_set lnk _).trans rfl
  have nfb : W.heap.size ≠ fb := fun e => by
    rw [e] at r1
    exact apart_of r1 lnk (by decide) rfl
  have r2 : W2.heap[W.heap.size]? = some (.cells #[.int .i64 kd, .int .i64 X, .int .i64 Iv] 37 (0, 0)) := by rw [← hW2]; exact other_set r1 nfb _
  have d0 := cell_of r2 0 (.int .i64 kd) rfl
  have d1 := cell_of r2 1 (.int .i64 X) rfl
  have d2 := cell_of r2 2 (.int .i64 Iv) rfl
  have f2 := cell_of l2 2 (.slice Af nf cf) rfl
  have kt : KP (fun g => g = fb) W1 W2 := by rw [← hW2]; exact KP.set (S := fun g => g = fb) W1 fb 7 _ rfl
  have J2 : Hid (Fm base W2 ⟨fb, b0, m0, v0, b1, m1, v1, .slice Af nf cf, sv0, sv1, cv0, cv1⟩ { y with now := now + 1 } k) := Lib.hid (by
    have q := J1.out.tick (W' := W2) (t := now + 1) kt (by simp only [Fa.cs, hnf]; exact l2)
    simp only [hnf] at q
    exact q)
  have B2 := Lib.hid (B1.out.trans (kt.below (Nat.le_trans hbs bb1.size) fun j hj => by have e : j = fb := hj; rw [e]; exact J1.out.hb))
  have G2 : Hid (Fg F { y with now := now + 1 } k (n + 1)) := Lib.hid (GG.out.tick (by rw [hnow]))
  obtain ⟨a, ha⟩ : ∃ a : Int, X.tmod 2 = a := ⟨_, rfl⟩
  have ha2 : -2 < a ∧ a < 2 := by rw [← ha]; exact ⟨by have := Int.lt_tmod_of_pos X (show (0 : Int) < 2 by decide); omega, Int.tmod_lt_of_pos X (by decide)⟩
  have hwa : wrap64 (a + 2) = a + 2 := IntWalk.wrap64_in _ (by omega)
  have hw1 : wrap64 (now + 1) = now + 1 := IntWalk.wrap64_in _ (by omega)
  have HW1 := Lib.hid hW1
  have HW2 := Lib.hid hW2
  have HAF := Lib.hid hAf
  have HCF := Lib.hid (And.intro hcf hmf)
  have HP := Lib.hid hp120
  have HS3 := Lib.hid hs300
  have L2 := Lib.hid l2
  have R2 := Lib.hid r2
  have S2 : Hid (base ≤ W2.heap.size) := Lib.hid (Nat.le_trans hbs (Nat.le_trans bb1.size kt.size))
  clear hcf hmf hAf h g hn hF kt bb1 r1 hnow hnf hs300 hbs hW1
  have hd1 : decide (kd ≤ 1) = false := by simpa using hk1
  have hd2 : (kd == 2) = false := by simpa using hk2
  have hd2' : ((2 : Int) == kd) = false := by simpa using fun e : (2 : Int) = kd => hk2 e.symm
  have n5 : (kd != 5) = true := by simp [hkd.1]
  have n6 : (kd != 6) = true := by simp [hkd.2]
  have hnf0 : 0 < nf := by rw [← HNF.out]; omega
  obtain ⟨r3, i, hr3, hr3a, hr3b, hi3, hin⟩ := rem_in2 Iv nf hnf0
  have hx : y.P[i]? = some (y.P[i]'(by rw [HNF.out]; exact hin)) := List.getElem?_eq_getElem _
  obtain ⟨p, hp⟩ : ∃ p, y.P[i]'(by rw [HNF.out]; exact hin) = p := ⟨_, rfl⟩
  rw [hp] at hx
  have hmem : p ∈ y.P := List.mem_of_getElem? hx
  have htn : p.tn = 2 := hto p hmem (by
    show y.P[_]? = some p
    rw [HNF.out, hr3, hi3]
    exact hx)
  have HMEM := Lib.hid hmem
  have HPX := Lib.hid hx
  have HIN := Lib.hid hin
  obtain ⟨g, o, rfl⟩ : ∃ g o, Af = some ⟨g, o, none⟩ := by
    rcases HAF.out with ⟨_, h1⟩ | h1
    · have := HCF.out.1
      omega
    · exact h1
  have rowF := J2.out.fly
  simp only [HNF.out] at rowF
  have okp := J2.out.ok p hmem
  obtain ⟨fn, fl, tn, tl, sq, ak, hs, ⟨xB, xA, xc⟩⟩ := p
  obtain ⟨xl, hxl⟩ : ∃ z, xB.length = z := ⟨_, rfl⟩
  have e0 := RowO.elem Pk.sz rowF hx (j := 0) (by decide)
  have e1 := RowO.elem Pk.sz rowF hx (j := 1) (by decide)
  have e2 := RowO.elem Pk.sz rowF hx (j := 2) (by decide)
  have e3 := RowO.elem Pk.sz rowF hx (j := 3) (by decide)
  have e4 := RowO.elem Pk.sz rowF hx (j := 4) (by decide)
  have e5 := RowO.elem Pk.sz rowF hx (j := 5) (by decide)
  have e6 := RowO.elem Pk.sz rowF hx (j := 6) (by decide)
  have e7 := RowO.elem Pk.sz rowF hx (j := 7) (by decide)
  simp only [Pk.cs, hxl, List.getElem?_toArray, List.getElem?_cons_zero, List.getElem?_cons_succ, Nat.add_zero] at e0 e1 e2 e3 e4 e5 e6 e7
  have HXL := Lib.hid hxl
  obtain ⟨kp, hkp⟩ : ∃ z, W2.heap.size = z := ⟨_, rfl⟩
  obtain ⟨WA, hWA⟩ : ∃ Y, W2.alloc (.cells #[.int .u8 0, .int .u16 0, .int .u8 0, .int .u16 0, .int .u64 0, .int .u64 0, .bool false, .slice none 0 0] 46) = Y := ⟨_, rfl⟩
  have rA : WA.heap[kp]? = some (.cells #[.int .u8 0, .int .u16 0, .int .u8 0, .int .u16 0, .int .u64 0, .int .u64 0, .bool false, .slice none 0 0] 46 (0, 0)) := by rw [← hWA, ← hkp]; exact heap_alloc_new _ _
  obtain ⟨WB, hWB⟩ : ∃ Y, WA.setRow kp #[.int .u8 fn, .int .u16 fl, .int .u8 tn, .int .u16 tl, .int .u64 sq, .int .u64 ak, .bool hs, .slice xA xl xc] = Y := ⟨_, rfl⟩
  have bB : Below W2.heap.size W2 WB := by
    rw [← hWB, ← hWA, ← hkp]
    exact ((Below.refl _ _).alloc (Nat.le_refl _) _).trans ⟨rfl, rfl, rfl, by simp [World.setRow], fun k hk => setRow_otherP _ W2.heap.size k _ (by omega)⟩
  have RB : Hid (WB.heap[kp]? = some (.cells #[.int .u8 fn, .int .u16 fl, .int .u8 tn, .int .u16 tl, .int .u64 sq, .int .u64 ak, .bool hs, .slice xA xl xc] 46 (0, 0))) := Lib.hid (by rw [← hWB]; exact setRow_heapG _ _ _ _ _ _ rA)
  have RA := Lib.hid rA
  have JY := Lib.hid (J2.out.below bB)
  have BB := Lib.hid (B2.out.trans (bB.mono S2.out))
  have SB : Hid (base ≤ WB.heap.size) := Lib.hid (Nat.le_trans S2.out bB.size)
  have LB : Hid (WB.heap[fb]? = some (.cells #[.pointer (some ⟨b0, 0, none⟩), .pointer (some ⟨b1, 0, none⟩), .slice (some ⟨g, o, none⟩) nf cf, sv0, sv1, cv0, cv1, .int .i64 (now + 1)] 32 (0, 0))) := Lib.hid ((bB.block _ (blt L2.out)).trans L2.out)
  have DB : Hid (WB.heap[W.heap.size]? = some (.cells #[.int .i64 kd, .int .i64 X, .int .i64 Iv] 37 (0, 0))) := Lib.hid ((bB.block _ (blt R2.out)).trans R2.out)
  have OKB := Lib.hid (okp.below bB)
  have HWA := Lib.hid hWA
  have HWB := Lib.hid hWB
  have HKP := Lib.hid hkp
  have ROWF := Lib.hid (rowF.below bB)
  have KPG : Hid (g < kp) := Lib.hid (by have := rowF.lt g rfl; omega)
  obtain ⟨xx, hxx⟩ : ∃ z : Int, (a + 2).tmod 2 = z := ⟨_, rfl⟩
  have hx01 : xx = 0 ∨ xx = 1 := by
    have h3 := Int.tmod_nonneg (a := a + 2) 2 (by omega)
    have h4 := Int.tmod_lt_of_pos (a + 2) (show (0 : Int) < 2 by decide)
    omega
  have hwx : wrap64 xx = xx := IntWalk.wrap64_in _ (by omega)
  have hnz : ¬ ((nf : Int) = 0) := by omega
  have hnp : (0 : Int) < (nf : Int) := by omega
  have hp1 := HP.out
  have hw3 : IntKind.i64.wrap r3 = r3 := IntWalk.i64_in _ (by omega)
  have hw4 : IntKind.i64.wrap (r3 + (nf : Int)) = r3 + (nf : Int) := IntWalk.i64_in _ (by omega)
  have hw5 : IntKind.i64.wrap (i : Int) = (i : Int) := IntWalk.i64_in _ (by omega)
  have hini : (i : Int) < (nf : Int) := by omega
  have hwi : IntKind.i64.wrap ((i : Int) + 1) = (i : Int) + 1 := IntWalk.i64_in _ (by omega)
  have HWI := Lib.hid hwi
  have k0b := cell_of DB.out 0 (.int .i64 kd) rfl
  have q0 := cell_of RB.out 0 (.int .u8 fn) rfl
  have q1 := cell_of RB.out 1 (.int .u16 fl) rfl
  have q2 := cell_of RB.out 2 (.int .u8 tn) rfl
  have q3 := cell_of RB.out 3 (.int .u16 tl) rfl
  have q4 := cell_of RB.out 4 (.int .u64 sq) rfl
  have q5 := cell_of RB.out 5 (.int .u64 ak) rfl
  have q6 := cell_of RB.out 6 (.bool hs) rfl
  have q7 := cell_of RB.out 7 (.slice xA xl xc) rfl
  clear l2 r2 hW2 hk1 hk2 h0 hkd hp hx hmem rowF okp hkp hWA rA hWB bB hx01 hwi hxl hto
  go_enter Try.func6, Try.ntmps6
  go_wp2_with (first | (refine wpList_bx rfl 37 (.tmp 1) rfl 3 rfl #[.int .i64 kd, .int .i64 X, .int .i64 Iv] rfl ?_; rw [HW1.out]) | (rw [HW2.out]) | (rw [HWA.out, HKP.out]) | (refine wpList_store_row rfl 46 (.tmp 8) (.tmp 108) rfl kp #[.int .u8 fn, .int .u16 fl, .int .u8 tn, .int .u16 tl, .int .u64 sq, .int .u64 ak, .bool hs, .slice xA xl xc] (by rfl) (by rfl) 46 _ RA.out (by kernel_rfl) rfl (by simp [Value.oneCell']) ?_; rw [HWB.out]))
  obtain ⟨o2, hsf, hA2⟩ := slFromP g o nf cf (i + 1) (by omega) HCF.out.1
  have hst := slToP (some ⟨g, o, none⟩) nf cf i (by omega) HCF.out.1 (.inr ⟨g, o, rfl⟩)
  rw [show (((i + 1 : Nat)) : Int) = (i : Int) + 1 by omega] at hsf
  have HSF := Lib.hid hsf
  have HST := Lib.hid hst
  have HA2 := Lib.hid hA2
  obtain ⟨B0, hB0⟩ : ∃ z, WB.heap.size = z := ⟨_, rfl⟩
  obtain ⟨w2, hw2⟩ : ∃ Y, WB.drew = Y := ⟨_, rfl⟩
  have b2 : Below B0 WB w2 := by rw [← hw2, ← hB0]; exact (Below.refl _ _).drew
  obtain ⟨w3, hw3⟩ : ∃ Y, w2.alloc (.cells #[] 46) = Y := ⟨_, rfl⟩
  have s2 : B0 ≤ w2.heap.size := by rw [← hB0]; rw [hB0]; have := b2.size; omega
  have b3 : Below B0 WB w3 := by rw [← hw3]; exact b2.alloc s2 _
  have ltB : ∀ {q : Nat} {ob : Obj}, WB.heap[q]? = some ob → q < B0 := fun h => by rw [← hB0]; exact blt h
  have L2' := Lib.hid ((b2.block fb (ltB LB.out)).trans LB.out)
  have L3 := Lib.hid ((b3.block fb (ltB LB.out)).trans LB.out)
  have O3 : Hid (w3.ownsRow B0 46 8 (.slice (some ⟨w2.heap.size, 0, none⟩) 0 0) 0 []) := Lib.hid (by rw [← hw3]; exact ⟨rfl, .inr ⟨w2.heap.size, 0, #[], rfl, s2, heap_alloc_new _ _, Nat.le_refl _, by unfold maxLen; omega, rfl, rfl⟩⟩)
  have ROW3 := Lib.hid (ROWF.out.below (hB0 ▸ b3))
  have HW2_ := Lib.hid hw2
  have HW3_ := Lib.hid hw3
  have B3 := Lib.hid b3
  have HB0 := Lib.hid hB0
  have LTB := Lib.hid (fun (q : Nat) (ob : Obj) (h : WB.heap[q]? = some ob) => ltB h)
  clear hsf hst hA2 hw2 b2 hw3 b3 s2 ltB hB0
  refine region_heldT (S := fun X => X.heap[fb]? = some (.cells #[.pointer (some ⟨b0, 0, none⟩), .pointer (some ⟨b1, 0, none⟩), .slice (some ⟨g, o, none⟩) nf cf, sv0, sv1, cv0, cv1, .int .i64 (now + 1)] 32 (0, 0))) 17 (by kernel_rfl) (by decide) (fun inv => ?_)
  change FirstH _ _ _ _ _ _ _ _ _ _ WB.drew
  rw [HW2_.out]
  have HS := L2'.out
  refine FirstH.go (i := 0) (v := .pointer (some ⟨fb, 0, none⟩)) rfl rfl _ rfl _ rfl (by kernel_rfl) (fun _ _ _ h => h) inv (fun X _ => by unfold bareO; go_simp) HS (fun inv => ?_)
  try simp only [Act.put, List.setIfInBounds_toArray, List.set_cons_zero, List.set_cons_succ]
  refine FirstH.go (i := 2) (v := .pointer (some ⟨fb, 0, none⟩)) rfl rfl _ rfl _ rfl (by kernel_rfl) (fun _ _ _ h => h) inv (fun X _ => by unfold bareO; go_simp) HS (fun inv => ?_)
  try simp only [Act.put, List.setIfInBounds_toArray, List.set_cons_zero, List.set_cons_succ]
  refine FirstH.go (i := 3) (v := .pointer (some ⟨fb, 0, none⟩)) rfl rfl _ rfl _ rfl (by kernel_rfl) (fun _ _ _ h => h) inv (fun X _ => by unfold bareO; go_simp) HS (fun inv => ?_)
  try simp only [Act.put, List.setIfInBounds_toArray, List.set_cons_zero, List.set_cons_succ]
  refine FirstH.go (i := 4) (v := .pointer (some ⟨fb, 2, none⟩)) rfl rfl _ rfl _ rfl (by kernel_rfl) (fun _ _ _ h => h) inv (fun X _ => by unfold bareO; go_simp) HS (fun inv => ?_)
  try simp only [Act.put, List.setIfInBounds_toArray, List.set_cons_zero, List.set_cons_succ]
  refine FirstH.go (i := 5) (v := .slice (some ⟨g, o, none⟩) nf cf) rfl rfl _ rfl _ rfl (by kernel_rfl) (fun _ _ _ h => h) inv (fun X hS => by have c1 := cell_of hS 2 (.slice (some ⟨g, o, none⟩) nf cf) rfl; unfold bareO; go_simp) HS (fun inv => ?_)
  try simp only [Act.put, List.setIfInBounds_toArray, List.set_cons_zero, List.set_cons_succ]
  refine FirstH.go (i := 6) (v := .int .i64 i) rfl rfl _ rfl _ rfl (by kernel_rfl) (fun _ _ _ h => h) inv (fun X _ => by unfold bareO; go_simp) HS (fun inv => ?_)
  try simp only [Act.put, List.setIfInBounds_toArray, List.set_cons_zero, List.set_cons_succ]
  refine FirstH.go (i := 7) (v := .slice (some ⟨g, o, none⟩) i cf) rfl rfl _ rfl _ rfl (by kernel_rfl) (fun _ _ _ h => h) inv (fun X _ => run_slB rfl rfl rfl (HST.out X)) HS (fun inv => ?_)
  try simp only [Act.put, List.setIfInBounds_toArray, List.set_cons_zero, List.set_cons_succ]
  refine FirstH.go (i := 9) (v := .pointer (some ⟨fb, 0, none⟩)) rfl rfl _ rfl _ rfl (by kernel_rfl) (fun _ _ _ h => h) inv (fun X _ => by unfold bareO; go_simp) HS (fun inv => ?_)
  try simp only [Act.put, List.setIfInBounds_toArray, List.set_cons_zero, List.set_cons_succ]
  refine FirstH.go (i := 10) (v := .pointer (some ⟨fb, 0, none⟩)) rfl rfl _ rfl _ rfl (by kernel_rfl) (fun _ _ _ h => h) inv (fun X _ => by unfold bareO; go_simp) HS (fun inv => ?_)
  try simp only [Act.put, List.setIfInBounds_toArray, List.set_cons_zero, List.set_cons_succ]
  refine FirstH.go (i := 11) (v := .pointer (some ⟨fb, 2, none⟩)) rfl rfl _ rfl _ rfl (by kernel_rfl) (fun _ _ _ h => h) inv (fun X _ => by unfold bareO; go_simp) HS (fun inv => ?_)
  try simp only [Act.put, List.setIfInBounds_toArray, List.set_cons_zero, List.set_cons_succ]
  refine FirstH.go (i := 12) (v := .slice (some ⟨g, o, none⟩) nf cf) rfl rfl _ rfl _ rfl (by kernel_rfl) (fun _ _ _ h => h) inv (fun X hS => by have c1 := cell_of hS 2 (.slice (some ⟨g, o, none⟩) nf cf) rfl; unfold bareO; go_simp) HS (fun inv => ?_)
  try simp only [Act.put, List.setIfInBounds_toArray, List.set_cons_zero, List.set_cons_succ]
  refine FirstH.go (i := 13) (v := .int .i64 i) rfl rfl _ rfl _ rfl (by kernel_rfl) (fun _ _ _ h => h) inv (fun X _ => by unfold bareO; go_simp) HS (fun inv => ?_)
  try simp only [Act.put, List.setIfInBounds_toArray, List.set_cons_zero, List.set_cons_succ]
  refine FirstH.go (i := 14) (v := .int .i64 ((i : Int) + 1)) rfl rfl _ rfl _ rfl (by kernel_rfl) (fun _ _ _ h => h) inv (fun X _ => by have hwr := HWI.out; unfold bareO; go_simp) HS (fun inv => ?_)
  try simp only [Act.put, List.setIfInBounds_toArray, List.set_cons_zero, List.set_cons_succ]
  refine FirstH.go (i := 15) (v := .slice (some ⟨g, o2, none⟩) (nf - (i + 1)) (cf - (i + 1))) rfl rfl _ rfl _ rfl (by kernel_rfl) (fun _ _ _ h => h) inv (fun X _ => run_slB rfl rfl rfl (HSF.out X)) HS (fun inv => ?_)
  try simp only [Act.put, List.setIfInBounds_toArray, List.set_cons_zero, List.set_cons_succ]
  clear HS
  refine FirstH.only (i := 1) (by kernel_rfl) (by decide) inv (fun inv => wpOp_vl (i := 1) (v := .slice (some ⟨w2.heap.size, 0, none⟩) 0 0) (w' := w2.alloc (.cells #[] 46)) rfl rfl 113 rfl _ rfl (by unfold bareO; go_simp) ?_)
  rw [HW3_.out]
  refine ⟨L3.out, ?_⟩
  try simp only [Act.put, List.setIfInBounds_toArray, List.set_cons_zero, List.set_cons_succ]
  obtain ⟨i0, hi0, hz0, hz1, hz2⟩ := info_parts pktI
  have lt : (y.P.take i).length = i := by rw [List.length_take, HNF.out]; have := HIN.out; omega
  have ld : (y.P.drop (i + 1)).length = nf - (i + 1) := by rw [List.length_drop, HNF.out]
  have hrow : ∀ (X : World), RowO X 46 8 (.slice (some ⟨g, o, none⟩) nf cf) nf (flat Pk.cs y.P) → (∀ j u, (flat Pk.cs (y.P.take i))[j]? = some u → X.cell? ⟨g, o + j, none⟩ = some u) ∧ (∀ j u, (flat Pk.cs (y.P.drop (i + 1)))[j]? = some u → X.cell? ⟨g, o + (i + 1) * 8 + j, none⟩ = some u) := fun X hX => by
    have e : flat Pk.cs y.P = flat Pk.cs (y.P.take (i + 1)) ++ flat Pk.cs (y.P.drop (i + 1)) := by rw [← flat_append, List.take_append_drop]
    have e' : flat Pk.cs y.P = flat Pk.cs (y.P.take i) ++ flat Pk.cs (y.P.drop i) := by rw [← flat_append, List.take_append_drop]
    have le : (flat Pk.cs (y.P.take (i + 1))).length = (i + 1) * 8 := by rw [flat_len Pk.sz, List.length_take, HNF.out]; have := HIN.out; omega
    refine ⟨fun j u hu => hX.cells j u ?_, fun j u hu => ?_⟩
    · rw [e', List.getElem?_append_left ((List.getElem?_eq_some_iff.1 hu).1)]
      exact hu
    · have := hX.cells ((i + 1) * 8 + j) u (by rw [e, List.getElem?_append_right (by omega), le, Nat.add_sub_cancel_left]; exact hu)
      rw [← Nat.add_assoc] at this
      exact this
  have HROW := Lib.hid hrow
  have LT := Lib.hid lt
  have LD := Lib.hid ld
  clear hrow lt ld
  refine FirstH.only (i := 8) (by kernel_rfl) (by decide) inv (fun inv => wpOp_any rfl rfl (wp_append_own w3 (.tmp 113) (.tmp 119) 28 rfl B0 46 i0 _ 8 56 Try.underlying28 hi0 hz0 hz1 hz2 rfl (by decide) _ 0 _ rfl O3.out ⟨g, o, none⟩ i cf (flat Pk.cs (y.P.take i)) rfl (by rw [flat_len Pk.sz, LT.out]) (fun j u hu => by rw [addr_add]; exact (HROW.out _ ROW3.out).1 j u hu) (flat_one Pk.one _) (by have := HIN.out; have := HP.out; unfold maxLen; omega) (by have := HIN.out; have := HP.out; omega) (by have := B3.out.size; have := HB0.out; omega) ?_))
  intro v8 w8 O8 g8 nn8
  have b8 : Below B0 WB w8 := B3.out.grown g8 (by have := B3.out.size; have := HB0.out; omega) fun k hk => (O3.out.lt k hk).1
  refine ⟨(b8.block fb (LTB.out _ _ LB.out)).trans LB.out, ?_⟩
  rw [Nat.zero_add, List.nil_append] at O8
  have O8' := Lib.hid O8
  have B8 := Lib.hid b8
  have ROW8 := Lib.hid (ROWF.out.below (HB0.out ▸ b8))
  have NN8 : Hid (v8 ≠ .slice none 0 0) := Lib.hid fun e => by
    have := nn8.1 e
    cases this.1
  clear O8 g8 b8 nn8
  try simp only [Act.put, List.setIfInBounds_toArray, List.set_cons_zero, List.set_cons_succ]
  have HNEW : Hid (∀ j u, (flat Pk.cs (y.P.drop (i + 1)))[j]? = some u → w8.cell? ((⟨g, o2, none⟩ : Addr).add j) = some u) := Lib.hid fun j u hu => by
    have hlt : i + 1 < nf := by
      have h1 := (List.getElem?_eq_some_iff.1 hu).1
      rw [flat_len Pk.sz, LD.out] at h1
      omega
    rw [addr_add, HA2.out hlt]
    exact (HROW.out _ ROW8.out).2 j u hu
  refine FirstH.only (i := 16) (by kernel_rfl) (by decide) inv (fun inv => wpOp_any rfl rfl (wp_append_own w8 (.tmp 120) (.tmp 127) 28 rfl B0 46 i0 _ 8 56 Try.underlying28 hi0 hz0 hz1 hz2 rfl (by decide) v8 i _ rfl O8'.out ⟨g, o2, none⟩ (nf - (i + 1)) (cf - (i + 1)) (flat Pk.cs (y.P.drop (i + 1))) rfl (by rw [flat_len Pk.sz, LD.out]) HNEW.out (flat_one Pk.one _) (by have := HIN.out; have := HP.out; unfold maxLen; omega) (by have := HIN.out; have := HP.out; omega) (by have := B8.out.size; have := HB0.out; omega) ?_))
  intro v9 w9 O9 g9 nn9
  have b9 : Below B0 WB w9 := B8.out.grown g9 (by have := B8.out.size; have := HB0.out; omega) fun k hk => (O8'.out.lt k hk).1
  have l9 := (b9.block fb (LTB.out _ _ LB.out)).trans LB.out
  refine ⟨l9, ?_⟩
  obtain ⟨g', c9, rfl⟩ : ∃ g' c9, v9 = .slice (some ⟨g', 0, none⟩) (i + (nf - (i + 1))) c9 := by
    rcases O9.2 with ⟨e, _⟩ | ⟨g', cap, cur, e, _⟩
    · exact absurd (nn9.1 e).1 NN8.out
    · exact ⟨g', cap, e⟩
  obtain ⟨m9, hm9⟩ : ∃ z, i + (nf - (i + 1)) = z := ⟨_, rfl⟩
  rw [hm9] at O9
  obtain ⟨w10, hw10⟩ : ∃ Y, w9.setCell ⟨fb, 2, none⟩ (.slice (some ⟨g', 0, none⟩) m9 c9) = Y := ⟨_, rfl⟩
  have k10 : KP (fun q => (Value.slice (some ⟨g, o, none⟩) nf cf).ownBlock = some q ∨ q = fb) WB w10 := (KP.of_below (HB0.out.symm ▸ b9)).trans (by rw [← hw10]; exact KP.set (S := fun q => (Value.slice (some ⟨g, o, none⟩) nf cf).ownBlock = some q ∨ q = fb) w9 fb 2 _ (Or.inr rfl)) fun _ _ h => h
  have R10 : RowO w10 46 8 (.slice (some ⟨g', 0, none⟩) m9 c9) m9 (flat Pk.cs (y.P.take i) ++ flat Pk.cs (y.P.drop (i + 1))) := (RowO.of_owns O9).keepK (by rw [← hw10]; exact KP.set (S := fun g => g = fb) w9 fb 2 _ rfl) fun q hq e => by
    obtain ⟨c2, h2⟩ := row_block O9 hq
    exact apart_of h2 l9 (by decide) e
  have hS : ∀ q, ((Value.slice (some ⟨g, o, none⟩) nf cf).ownBlock = some q ∨ q = fb) → ∃ cu t, WB.heap[q]? = some (.cells cu t (0, 0)) ∧ t ≠ 64 ∧ t ≠ 60 ∧ t ≠ 5 := by
    rintro q (e | rfl)
    · obtain ⟨c2, h2⟩ := ROWF.out.block q e
      exact ⟨c2, _, h2, by decide, by decide, by decide⟩
    · exact ⟨_, _, LB.out, by decide, by decide, by decide⟩
  have J10 : Hid (Fm base w10 ⟨fb, b0, m0, v0, b1, m1, v1, .slice (some ⟨g', 0, none⟩) m9 c9, sv0, sv1, cv0, cv1⟩ { y with now := now + 1, P := y.P.take i ++ y.P.drop (i + 1) } k) := Lib.hid (JY.out.fv_ (v' := .slice (some ⟨g', 0, none⟩) m9 c9) (P' := y.P.take i ++ y.P.drop (i + 1)) k10 (by
    simp only [Fa.cs]
    rw [← hw10]
    exact (row_set l9 _).trans rfl) (by
    rw [List.length_append, LT.out, LD.out, hm9, flat_append]
    exact R10) (fun p hp => (JY.out.ok p (by rcases List.mem_append.1 hp with h | h; exact List.mem_of_mem_take h; exact List.mem_of_mem_drop h)).offT k10 hS) (.inr ⟨g', rfl, by have := (O9.lt g' rfl).1; have := HB0.out; omega⟩))
  have B10 := Lib.hid (BB.out.trans (k10.below SB.out (by
    rintro q (e | rfl)
    · exact JY.out.hf q e
    · exact JY.out.hb)))
  have S10 : Hid (base ≤ w10.heap.size) := Lib.hid (Nat.le_trans SB.out k10.size)
  have OK10 := Lib.hid (OKB.out.offT k10 hS)
  have nkp : ∀ q, ((Value.slice (some ⟨g, o, none⟩) nf cf).ownBlock = some q ∨ q = fb) → q ≠ kp ∧ q ≠ W.heap.size := by
    rintro q (e | rfl)
    · refine ⟨fun e2 => ?_, fun e2 => ?_⟩
      · have e3 : g = q := by simpa [Value.ownBlock] using e
        have := KPG.out
        omega
      · obtain ⟨c2, h2⟩ := ROWF.out.block q e
        rw [e2] at h2
        exact apart_of h2 DB.out (by decide) rfl
    · refine ⟨fun e2 => ?_, fun e2 => ?_⟩
      · have h2 := LB.out
        rw [e2] at h2
        exact apart_of h2 RB.out (by decide) rfl
      · have h2 := LB.out
        rw [e2] at h2
        exact apart_of h2 DB.out (by decide) rfl
  have RB10 : Hid (w10.heap[kp]? = some (.cells #[.int .u8 fn, .int .u16 fl, .int .u8 tn, .int .u16 tl, .int .u64 sq, .int .u64 ak, .bool hs, .slice xA xl xc] 46 (0, 0))) := Lib.hid ((k10.block kp (blt RB.out) (fun e => (nkp kp e).1 rfl)).trans RB.out)
  have DB10 : Hid (w10.heap[W.heap.size]? = some (.cells #[.int .i64 kd, .int .i64 X, .int .i64 Iv] 37 (0, 0))) := Lib.hid ((k10.block _ (blt DB.out) (fun e => (nkp _ e).2 rfl)).trans DB.out)
  have HW10 := Lib.hid hw10
  have HM9 := Lib.hid hm9
  have cs9 := cell_of l9 2 (.slice (some ⟨g, o, none⟩) nf cf) rfl
  have zs9 := frz_row 2 l9
  clear k0b q0 q1 q2 q3 q4 q5 q6 q7
  have k0b := cell_of DB10.out 0 (.int .i64 kd) rfl
  have q0 := cell_of RB10.out 0 (.int .u8 fn) rfl
  have q1 := cell_of RB10.out 1 (.int .u16 fl) rfl
  have q2 := cell_of RB10.out 2 (.int .u8 tn) rfl
  have q3 := cell_of RB10.out 3 (.int .u16 tl) rfl
  have q4 := cell_of RB10.out 4 (.int .u64 sq) rfl
  have q5 := cell_of RB10.out 5 (.int .u64 ak) rfl
  have q6 := cell_of RB10.out 6 (.bool hs) rfl
  have q7 := cell_of RB10.out 7 (.slice xA xl xc) rfl
  clear hw10 k10 R10 hS nkp O9 g9 b9 nn9 l9 hi0 hz0 hz1 hz2 hm9
  have HMM : Hid ((y.P.take i ++ y.P.drop (i + 1)).length ≤ 120 ∧ ∀ p ∈ y.P.take i ++ y.P.drop (i + 1), p ∈ y.P) := Lib.hid ⟨by rw [List.length_append, LT.out, LD.out]; have := HP.out; have := HIN.out; omega, fun p hp => by rcases List.mem_append.1 hp with h | h; exact List.mem_of_mem_take h; exact List.mem_of_mem_drop h⟩
  rw [HM9.out]
  try simp only [Act.put, List.setIfInBounds_toArray, List.set_cons_zero, List.set_cons_succ]
  refine ⟨by kernel_rfl, ?_⟩
  simp only [List.drop_succ_cons, List.drop_zero]
  have HB_ := OK10.out.ownB
  have hk3 : k + 1 ≤ 1000 := by have := G2.out.k; have := HNN.out; omega
  have hC3 := G2.out.C
  have KH : Hid (Calls Try.prog 9 #[.pointer (some ⟨fb, 0, none⟩), .agg #[.int .u8 fn, .int .u16 fl, .int .u8 tn, .int .u16 tl, .int .u64 sq, .int .u64 ak, .bool hs, .slice xA xl xc]] w10 fun e W' => e = .returned (.tuple #[]) ∧ FheR1 base w10 ⟨fb, b0, m0, v0, b1, m1, v1, .slice (some ⟨g', 0, none⟩) m9 c9, sv0, sv1, cv0, cv1⟩ { y with now := now + 1, P := y.P.take i ++ y.P.drop (i + 1) } k ⟨fn, fl, tn, tl, sq, ak, hs, xB⟩ W') := Lib.hid (by
    have q := fhear1 base w10 ⟨fb, b0, m0, v0, b1, m1, v1, .slice (some ⟨g', 0, none⟩) m9 c9, sv0, sv1, cv0, cv1⟩ { y with now := now + 1, P := y.P.take i ++ y.P.drop (i + 1) } k J10.out ⟨fn, fl, tn, tl, sq, ak, hs, xB⟩ xA xc HB_.1 OK10.out.len HB_.2.1 HB_.2.2 (G2.out.q _ HMEM.out) (by omega) (Nat.le_trans G2.out.K.2 (by omega)) (Nat.le_trans hC3.2.2.2 (by have := HNN.out; omega)) htn
    unfold Hp.cs at q
    simp only [HXL.out] at q
    exact q)
  have HTN := Lib.hid htn
  clear htn hk3 hC3 HB_
  go_wp2_with (rw [HW10.out])
  refine KH.out.mono ?_
  rintro e W9 ⟨rfl, x', K', hx', eK, hFm, hb9, -⟩
  have GH := G2.out.hear1 (p := ⟨fn, fl, tn, tl, sq, ak, hs, xB⟩) (G2.out.to1 (p := ⟨fn, fl, tn, tl, sq, ak, hs, ⟨xB, xA, xc⟩⟩) HMEM.out HTN.out) eK rfl
  have FIN : Hid (FstM base W ⟨fb, b0, m0, v0, b1, m1, v1, .slice (some ⟨g, o, none⟩) nf cf, sv0, sv1, cv0, cv1⟩ F n W9) := Lib.hid ⟨x', _, k + 1, hx', hFm, GH.fewer (P := y.P.take i ++ y.P.drop (i + 1)) HMM.out.2 HMM.out.1 rfl, B10.out.trans hb9⟩
  clear hx' eK hFm hb9 GH
  go_wp2_with fail
  refine bodyPost_end (results_none rfl _ _ _) rfl ?_
  exact ⟨rfl, FIN.out⟩

end Go.Proofs.Ytnagbiicpecamaa
