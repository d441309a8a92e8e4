/-
  A step of the law's field of links: an end tells. Condition: few steps before it.
-/
import Derived.Test.YtnagbiicpecamaaJqn
namespace Go.Proofs.Ytnagbiicpecamaa
set_option linter.unusedSimpArgs false
set_option linter.unusedVariables false
open Go.RowKit Go.Maps Go.Sort

set_option maxRecDepth 100000 in
set_option maxHeartbeats 4000000 in
theorem fstepT0 (base : Nat) (W : World) (x : Fa) (y : Fc) (F k n : Nat) (h : Fm base W x y k) (g : Fg F y k n) (hn : n ≤ 900) (hF : F ≤ 9223372036854775807) (kd X Iv : Int) (hk2 : kd = 2) (hxx : (X.tmod 2 + 2).tmod 2 = 0) (h100 : y.P.length < 100) :
    Calls Try.prog 6 #[.pointer (some ⟨x.f, 0, none⟩), .agg #[.int .i64 kd, .int .i64 X, .int .i64 Iv]] W fun e W' => e = .returned (.tuple #[]) ∧ FstM base W x F n W' := by
  obtain ⟨W1, hW1⟩ : ∃ Y, W.alloc (.cells #[.int .i64 kd, .int .i64 X, .int .i64 Iv] 37) = Y := ⟨_, rfl⟩
  have r1 : W1.heap[W.heap.size]? = some (.cells #[.int .i64 kd, .int .i64 X, .int .i64 Iv] 37 (0, 0)) := by rw [← hW1]; exact heap_alloc_new _ _
  have bb1 : Below W.heap.size W W1 := by rw [← hW1]; exact (Below.refl _ _).alloc (Nat.le_refl _) _
  have J1 := Lib.hid (h.below bb1)
  have hbs : base ≤ W.heap.size := Nat.le_trans h.hb (Nat.le_of_lt (blt h.blk))
  have HBS := Lib.hid hbs
  have B1 := Lib.hid (bb1.mono hbs)
  have GG := Lib.hid g
  have HNN := Lib.hid hn
  have HFF := Lib.hid hF
  have hnow0 := g.now
  have hp120 := g.P
  have hs300 := g.S
  obtain ⟨fb, b0, m0, v0, b1, m1, v1, fv, sv0, sv1, cv0, cv1⟩ := x
  have lnk := J1.out.blk
  obtain ⟨now, hnow⟩ : ∃ z, y.now = z := ⟨_, rfl⟩
  have HNOW := Lib.hid hnow
  simp only [Fa.cs, hnow] at lnk
  rw [hnow] at hnow0
  obtain ⟨Af, cf, e9, hcf, hmf, hAf⟩ := J1.out.fly.slice
  simp only at e9
  subst e9
  obtain ⟨nf, hnf⟩ : ∃ z, y.P.length = z := ⟨_, rfl⟩
  have HNF := Lib.hid hnf
  rw [hnf] at hp120 hcf
  simp only [hnf] at lnk
  have c7 := cell_of lnk 7 (.int .i64 now) rfl
  have z7 := frz_row 7 lnk
  obtain ⟨W2, hW2⟩ : ∃ Y, W1.setCell ⟨fb, 7, none⟩ (.int .i64 (now + 1)) = Y := ⟨_, rfl⟩
  have l2 : W2.heap[fb]? = some (.cells #[.pointer (some ⟨b0, 0, none⟩), .pointer (some ⟨b1, 0, none⟩), .slice Af nf cf, sv0, sv1, cv0, cv1, .int .i64 (now + 1)] 32 (0, 0)) := by rw [← hW2]; exact (row_set lnk _).trans rfl
  have nfb : W.heap.size ≠ fb := fun e => by
    rw [e] at r1
    exact apart_of r1 lnk (by decide) rfl
  have r2 : W2.heap[W.heap.size]? = some (.cells #[.int .i64 kd, .int .i64 X, .int .i64 Iv] 37 (0, 0)) := by rw [← hW2]; exact other_set r1 nfb _
  have d0 := cell_of r2 0 (.int .i64 kd) rfl
  have d1 := cell_of r2 1 (.int .i64 X) rfl
  have d2 := cell_of r2 2 (.int .i64 Iv) rfl
  have f2 := cell_of l2 2 (.slice Af nf cf) rfl
  have kt : KP (fun g => g = fb) W1 W2 := by rw [← hW2]; exact KP.set (S := fun g => g = fb) W1 fb 7 _ rfl
  have J2 : Hid (Fm base W2 ⟨fb, b0, m0, v0, b1, m1, v1, .slice Af nf cf, sv0, sv1, cv0, cv1⟩ { y with now := now + 1 } k) := Lib.hid (by
    have q := J1.out.tick (W' := W2) (t := now + 1) kt (by simp only [Fa.cs, hnf]; exact l2)
    simp only [hnf] at q
    exact q)
  have B2 := Lib.hid (B1.out.trans (kt.below (Nat.le_trans hbs bb1.size) fun j hj => by have e : j = fb := hj; rw [e]; exact J1.out.hb))
  have G2 : Hid (Fg F { y with now := now + 1 } k (n + 1)) := Lib.hid (GG.out.tick (by rw [hnow]))
  obtain ⟨a, ha⟩ : ∃ a : Int, X.tmod 2 = a := ⟨_, rfl⟩
  have ha2 : -2 < a ∧ a < 2 := by rw [← ha]; exact ⟨by have := Int.lt_tmod_of_pos X (show (0 : Int) < 2 by decide); omega, Int.tmod_lt_of_pos X (by decide)⟩
  have hwa : wrap64 (a + 2) = a + 2 := IntWalk.wrap64_in _ (by omega)
  have hw1 : wrap64 (now + 1) = now + 1 := IntWalk.wrap64_in _ (by omega)
  have HW1 := Lib.hid hW1
  have HW2 := Lib.hid hW2
  have HAF := Lib.hid hAf
  have HCF := Lib.hid (And.intro hcf hmf)
  have HP := Lib.hid hp120
  have HS3 := Lib.hid hs300
  have L2 := Lib.hid l2
  have R2 := Lib.hid r2
  have S2 : Hid (base ≤ W2.heap.size) := Lib.hid (Nat.le_trans hbs (Nat.le_trans bb1.size kt.size))
  clear hcf hmf hAf h g hn hF kt bb1 r1 hnow hnf hs300 hbs hW1
  rw [ha] at hxx
  subst hk2
  have hf100 : nf < 100 := by rw [← HNF.out]; exact h100
  have hfi : (nf : Int) < 100 := by omega
  have H100 := Lib.hid h100
  clear h100
  have hn1 : (-9223372036854775808 : Int) ≤ now + 1 ∧ now + 1 ≤ 9223372036854775807 := by have := HNN.out; omega
  have HN1 := Lib.hid hn1
  obtain ⟨u2, hu2⟩ : ∃ z, W2.drew = z := ⟨_, rfl⟩
  have bu : Below W2.heap.size W2 u2 := by rw [← hu2]; exact (Below.refl _ _).drew
  have J3 := Lib.hid (J2.out.below bu)
  have B3 := Lib.hid (B2.out.trans (bu.mono S2.out))
  have S3 : Hid (base ≤ u2.heap.size) := Lib.hid (Nat.le_trans S2.out bu.size)
  have H3 : Hid (u2.heap[fb]? = some (.cells #[.pointer (some ⟨b0, 0, none⟩), .pointer (some ⟨b1, 0, none⟩), .slice Af nf cf, sv0, sv1, cv0, cv1, .int .i64 (now + 1)] 32 (0, 0))) := Lib.hid ((bu.block _ (blt L2.out)).trans L2.out)
  have HU2 := Lib.hid hu2
  have KO := Lib.hid (outW _ _ _ _ _ _ _ _ _ J3.out.p0 (now + 1) hn1)
  clear hu2 bu l2 r2 hn1 hW2
  go_enter Try.func6, Try.ntmps6
  go_wp2_with (first | (refine wpList_bx rfl 37 (.tmp 1) rfl 3 rfl #[.int .i64 2, .int .i64 X, .int .i64 Iv] rfl ?_; rw [HW1.out]) | (rw [HW2.out]))
  refine region_heldT (S := fun X => X.heap[fb]? = some (.cells #[.pointer (some ⟨b0, 0, none⟩), .pointer (some ⟨b1, 0, none⟩), .slice Af nf cf, sv0, sv1, cv0, cv1, .int .i64 (now + 1)] 32 (0, 0))) 17 (by kernel_rfl) (by decide) (fun inv => ?_)
  change FirstH _ _ _ _ _ _ _ _ _ _ W2.drew
  rw [HU2.out]
  have HS := H3.out
  refine FirstH.go (i := 0) (v := .pointer (some ⟨fb, 0, none⟩)) rfl rfl _ rfl _ rfl (by kernel_rfl) (fun _ _ _ h => h) inv (fun X _ => by unfold bareO; go_simp) HS (fun inv => ?_)
  try simp only [Act.put, List.setIfInBounds_toArray, List.set_cons_zero, List.set_cons_succ]
  refine FirstH.go (i := 1) (v := .pointer (some ⟨fb, 0, none⟩)) rfl rfl _ rfl _ rfl (by kernel_rfl) (fun _ _ _ h => h) inv (fun X _ => by unfold bareO; go_simp) HS (fun inv => ?_)
  try simp only [Act.put, List.setIfInBounds_toArray, List.set_cons_zero, List.set_cons_succ]
  refine FirstH.go (i := 2) (v := .pointer (some ⟨fb, 0, none⟩)) rfl rfl _ rfl _ rfl (by kernel_rfl) (fun _ _ _ h => h) inv (fun X _ => by unfold bareO; go_simp) HS (fun inv => ?_)
  try simp only [Act.put, List.setIfInBounds_toArray, List.set_cons_zero, List.set_cons_succ]
  refine FirstH.go (i := 3) (v := .pointer (some ⟨fb, 2, none⟩)) rfl rfl _ rfl _ rfl (by kernel_rfl) (fun _ _ _ h => h) inv (fun X _ => by unfold bareO; go_simp) HS (fun inv => ?_)
  try simp only [Act.put, List.setIfInBounds_toArray, List.set_cons_zero, List.set_cons_succ]
  refine FirstH.go (i := 4) (v := .slice Af nf cf) rfl rfl _ rfl _ rfl (by kernel_rfl) (fun _ _ _ h => h) inv (fun X hS => by have c1 := cell_of hS 2 (.slice Af nf cf) rfl; unfold bareO; go_simp) HS (fun inv => ?_)
  try simp only [Act.put, List.setIfInBounds_toArray, List.set_cons_zero, List.set_cons_succ]
  refine FirstH.go (i := 5) (v := .pointer (some ⟨fb, 0, none⟩)) rfl rfl _ rfl _ rfl (by kernel_rfl) (fun _ _ _ h => h) inv (fun X _ => by unfold bareO; go_simp) HS (fun inv => ?_)
  try simp only [Act.put, List.setIfInBounds_toArray, List.set_cons_zero, List.set_cons_succ]
  refine FirstH.go (i := 6) (v := .int .i64 0) rfl rfl _ rfl _ rfl (by kernel_rfl) (fun _ _ _ h => h) inv (fun X _ => by unfold bareO; go_simp) HS (fun inv => ?_)
  try simp only [Act.put, List.setIfInBounds_toArray, List.set_cons_zero, List.set_cons_succ]
  refine FirstH.go (i := 7) (v := .pointer (some ⟨fb, 0, none⟩)) rfl rfl _ rfl _ rfl (by kernel_rfl) (fun _ _ _ h => h) inv (fun X _ => by unfold bareO; go_simp) HS (fun inv => ?_)
  try simp only [Act.put, List.setIfInBounds_toArray, List.set_cons_zero, List.set_cons_succ]
  refine FirstH.go (i := 8) (v := .pointer (some ⟨fb, 0, none⟩)) rfl rfl _ rfl _ rfl (by kernel_rfl) (fun _ _ _ h => h) inv (fun X _ => by unfold bareO; go_simp) HS (fun inv => ?_)
  try simp only [Act.put, List.setIfInBounds_toArray, List.set_cons_zero, List.set_cons_succ]
  refine FirstH.go (i := 9) (v := .pointer (some ⟨fb, 0, none⟩)) rfl rfl _ rfl _ rfl (by kernel_rfl) (fun _ _ _ h => h) inv (fun X _ => by unfold bareO; go_simp) HS (fun inv => ?_)
  try simp only [Act.put, List.setIfInBounds_toArray, List.set_cons_zero, List.set_cons_succ]
  refine FirstH.go (i := 10) (v := .pointer (some ⟨b0, 0, none⟩)) rfl rfl _ rfl _ rfl (by kernel_rfl) (fun _ _ _ h => h) inv (fun X hS => by have c1 := cell_of hS 0 (.pointer (some ⟨b0, 0, none⟩)) rfl; unfold bareO; go_simp) HS (fun inv => ?_)
  try simp only [Act.put, List.setIfInBounds_toArray, List.set_cons_zero, List.set_cons_succ]
  refine FirstH.go (i := 11) (v := .pointer (some ⟨fb, 0, none⟩)) rfl rfl _ rfl _ rfl (by kernel_rfl) (fun _ _ _ h => h) inv (fun X _ => by unfold bareO; go_simp) HS (fun inv => ?_)
  try simp only [Act.put, List.setIfInBounds_toArray, List.set_cons_zero, List.set_cons_succ]
  refine FirstH.go (i := 12) (v := .pointer (some ⟨fb, 0, none⟩)) rfl rfl _ rfl _ rfl (by kernel_rfl) (fun _ _ _ h => h) inv (fun X _ => by unfold bareO; go_simp) HS (fun inv => ?_)
  try simp only [Act.put, List.setIfInBounds_toArray, List.set_cons_zero, List.set_cons_succ]
  refine FirstH.go (i := 13) (v := .pointer (some ⟨fb, 7, none⟩)) rfl rfl _ rfl _ rfl (by kernel_rfl) (fun _ _ _ h => h) inv (fun X _ => by unfold bareO; go_simp) HS (fun inv => ?_)
  try simp only [Act.put, List.setIfInBounds_toArray, List.set_cons_zero, List.set_cons_succ]
  refine FirstH.go (i := 14) (v := .int .i64 (now + 1)) rfl rfl _ rfl _ rfl (by kernel_rfl) (fun _ _ _ h => h) inv (fun X hS => by have c1 := cell_of hS 7 (.int .i64 (now + 1)) rfl; unfold bareO; go_simp) HS (fun inv => ?_)
  try simp only [Act.put, List.setIfInBounds_toArray, List.set_cons_zero, List.set_cons_succ]
  clear HS
  refine FirstH.only (i := 15) (by kernel_rfl) (by decide) inv (fun inv => wpOp_call (i := 15) rfl rfl 87 rfl _ rfl 8 #[.pointer (some ⟨b0, 0, none⟩), .int .i64 (now + 1)] (by unfold bareO; go_simp) KO.out ?_)
  rintro e W4 ⟨pv, P, rfl, own4, ok4, hpu, p4, k4⟩
  have J4 := Lib.hid (J3.out.link0 (Nat.le_refl _) p4 k4 J3.out.av)
  have B4 := Lib.hid (B3.out.trans (J3.out.p0.kbelow k4 S3.out))
  have S4 : Hid (base ≤ W4.heap.size) := Lib.hid (Nat.le_trans S3.out k4.size)
  have H4 : W4.heap[fb]? = some (.cells #[.pointer (some ⟨b0, 0, none⟩), .pointer (some ⟨b1, 0, none⟩), .slice Af nf cf, sv0, sv1, cv0, cv1, .int .i64 (now + 1)] 32 (0, 0)) := by
    have q := J4.out.blk
    simp only [Fa.cs] at q
    exact q
  refine ⟨_, rfl, H4, ?_⟩
  try simp only [Act.put, List.setIfInBounds_toArray, List.set_cons_zero, List.set_cons_succ]
  have hsz := k4.size
  obtain ⟨m, hm⟩ : ∃ z, P.length = z := ⟨_, rfl⟩
  have hm8 : m ≤ 8 := by
    have q := fOut_len y.s0 (now + 1) y.L0
    rw [← hpu, List.length_map, hm] at q
    exact q
  have OK4 := Lib.hid ok4
  have HPU := Lib.hid hpu
  have HM := Lib.hid hm
  have Q4 := J4.out.fly
  simp only [HNF.out] at Q4
  have Q4 := Lib.hid Q4
  have HH4 := Lib.hid H4
  have RO4 : Hid (RowO W4 46 8 pv m (flat Pk.cs P)) := Lib.hid (by rw [← hm]; exact RowO.of_owns own4)
  clear own4 ok4 hpu p4 k4 hm H4 hsz
  obtain ⟨i0, hi0, hz0, hz1, hz2⟩ := info_parts pktI
  have fin : ∀ v7 W7, RowO W7 46 8 v7 (nf + m) (flat Pk.cs y.P ++ flat Pk.cs P) → W4.grownBy W7 (Value.slice Af nf cf).ownBlock → (v7.ownBlock = (Value.slice Af nf cf).ownBlock ∨ ∃ k, v7.ownBlock = some k ∧ W4.heap.size ≤ k) → W7.heap[fb]? = some (.cells #[.pointer (some ⟨b0, 0, none⟩), .pointer (some ⟨b1, 0, none⟩), .slice Af nf cf, sv0, sv1, cv0, cv1, .int .i64 (now + 1)] 32 (0, 0)) ∧ FstM base W ⟨fb, b0, m0, v0, b1, m1, v1, .slice Af nf cf, sv0, sv1, cv0, cv1⟩ F n (W7.setCell ⟨fb, 2, none⟩ v7) := by
    intro v7 W7 O7 g7 f7
    have k7 : KP (fun g => (Value.slice Af nf cf).ownBlock = some g) W4 W7 := KP.grown g7 fun k hk => hk
    have n7 : ∀ (g : Nat) (cu : Array Value) (t : TypeId), W4.heap[g]? = some (.cells cu t (0, 0)) → 46 ≠ t → ¬ (Value.slice Af nf cf).ownBlock = some g := fun g cu t hg ht e => by
      obtain ⟨c2, h2⟩ := Q4.out.block g e
      exact apart_of h2 hg ht rfl
    have l7 := (k7.block _ (blt HH4.out) (n7 _ _ _ HH4.out (by decide))).trans HH4.out
    refine ⟨l7, ?_⟩
    have k8 : KP (fun g => (Value.slice Af nf cf).ownBlock = some g ∨ g = fb) W4 (W7.setCell ⟨fb, 2, none⟩ v7) := (k7.mono fun _ h => Or.inl h).trans (KP.set (S := fun g => (Value.slice Af nf cf).ownBlock = some g ∨ g = fb) W7 fb 2 _ (Or.inr rfl)) fun _ _ h => h
    have O8 : RowO (W7.setCell ⟨fb, 2, none⟩ v7) 46 8 v7 (nf + m) (flat Pk.cs y.P ++ flat Pk.cs P) := O7.keepK (KP.set (S := fun g => g = fb) W7 fb 2 _ rfl) fun g hg e => by
      obtain ⟨c2, h2⟩ := O7.block g hg
      exact apart_of h2 l7 (by decide) e
    have hS : ∀ g, ((Value.slice Af nf cf).ownBlock = some g ∨ g = fb) → ∃ cu t, W4.heap[g]? = some (.cells cu t (0, 0)) ∧ t ≠ 64 ∧ t ≠ 60 ∧ t ≠ 5 := by
      rintro g (e | rfl)
      · obtain ⟨c2, h2⟩ := Q4.out.block g e
        exact ⟨c2, _, h2, by decide, by decide, by decide⟩
      · exact ⟨_, _, HH4.out, by decide, by decide, by decide⟩
    have q := J4.out.fv_ (v' := v7) (P' := y.P ++ P) k8 (by
      simp only [Fa.cs]
      exact (row_set l7 _).trans rfl) (by
      rw [List.length_append, HNF.out, HM.out, flat_append]
      exact O8) (fun p hp => by
      rcases List.mem_append.1 hp with hp | hp
      · exact (J4.out.ok p hp).offT k8 hS
      · exact (OK4.out p hp).offT k8 hS) f7
    refine ⟨_, _, k, ?ff, q, ?gg, B4.out.trans (k8.below S4.out (by
      rintro g (e | rfl)
      · exact J4.out.hf g e
      · exact J4.out.hb))⟩
    case ff => rfl
    case gg => exact (G2.out.out0 (P := P) (by rw [HNF.out]; exact hf100) HPU.out rfl).later (Nat.le_succ _)
  have FIN := Lib.hid fin
  clear fin
  obtain ⟨pA, pc, rfl, _, _, hpA⟩ := RO4.out.slice
  have hnews : m ≠ 0 → ∃ ad, pA = some ad ∧ ∀ j u, (flat Pk.cs P)[j]? = some u → W4.cell? (ad.add j) = some u := fun hm => by
    rcases hpA with ⟨rfl, _⟩ | ⟨gg, oo, rfl⟩
    · have h1 := RO4.out.2
      rcases h1 with ⟨_, h0⟩ | ⟨g', o', cap, cur, h1, _⟩
      · exact absurd h0 hm
      · cases h1
    · exact ⟨_, rfl, fun j u hu => by rw [addr_add]; exact RO4.out.cells j u hu⟩
  have hl : (flat Pk.cs P).length = m * 8 := by rw [flat_len Pk.sz, HM.out]
  have HNEWS := Lib.hid hnews
  clear hnews hpA
  refine FirstH.only (i := 16) (by kernel_rfl) (by decide) inv (fun inv => wpOp_any rfl rfl (wp_appZ 88 rfl (.tmp 76) (.tmp 87) 28 46 rfl i0 _ 8 56 Try.underlying28 hi0 hz0 hz1 hz2 rfl (by decide) (.slice Af nf cf) nf _ rfl Q4.out pA m pc (flat Pk.cs P) rfl hl HNEWS.out (flat_one Pk.one _) (by omega) (by decide) ?_))
  intro v7 W7 O7 g7 f7
  have FR := FIN.out v7 W7 O7 g7 f7
  obtain ⟨A7, c7', rfl, _, _, _⟩ := O7.slice
  refine ⟨FR.1, ?_⟩
  obtain ⟨W8, hW8⟩ : ∃ Y, W7.setCell ⟨fb, 2, none⟩ (.slice A7 (nf + m) c7') = Y := ⟨_, rfl⟩
  have HW8 := Lib.hid hW8
  have l7 := FR.1
  have J8 := Lib.hid FR.2
  rw [hW8] at J8
  have cs7 := cell_of l7 2 (.slice Af nf cf) rfl
  have zs7 := frz_row 2 l7
  clear hW8 FR l7 O7 g7 f7 hi0 hz0 hz1 hz2 FIN hl
  try simp only [Act.put, List.setIfInBounds_toArray, List.set_cons_zero, List.set_cons_succ]
  refine ⟨by kernel_rfl, ?_⟩
  simp only [List.drop_succ_cons, List.drop_zero]
  go_wp2_with (rw [HW8.out])
  refine bodyPost_end (results_none rfl _ _ _) rfl ?_
  exact ⟨rfl, J8.out⟩
set_option maxRecDepth 100000 in
set_option maxHeartbeats 4000000 in
theorem fstepT1 (base : Nat) (W : World) (x : Fa) (y : Fc) (F k n : Nat) (h : Fm base W x y k) (g : Fg F y k n) (hn : n ≤ 900) (hF : F ≤ 9223372036854775807) (kd X Iv : Int) (hk2 : kd = 2) (hxx : (X.tmod 2 + 2).tmod 2 = 1) (h100 : y.P.length < 100) :
    Calls Try.prog 6 #[.pointer (some ⟨x.f, 0, none⟩), .agg #[.int .i64 kd, .int .i64 X, .int .i64 Iv]] W fun e W' => e = .returned (.tuple #[]) ∧ FstM base W x F n W' := by
  obtain ⟨W1, hW1⟩ : ∃ Y, W.alloc (.cells #[.int .i64 kd, .int .i64 X, .int .i64 Iv] 37) = Y := ⟨_, rfl⟩
  have r1 : W1.heap[W.heap.size]? = some (.cells #[.int .i64 kd, .int .i64 X, .int .i64 Iv] 37 (0, 0)) := by rw [← hW1]; exact heap_alloc_new _ _
  have bb1 : Below W.heap.size W W1 := by rw [← hW1]; exact (Below.refl _ _).alloc (Nat.le_refl _) _
  have J1 := Lib.hid (h.below bb1)
  have hbs : base ≤ W.heap.size := Nat.le_trans h.hb (Nat.le_of_lt (blt h.blk))
  have HBS := Lib.hid hbs
  have B1 := Lib.hid (bb1.mono hbs)
  have GG := Lib.hid g
  have HNN := Lib.hid hn
  have HFF := Lib.hid hF
  have hnow0 := g.now
  have hp120 := g.P
  have hs300 := g.S
  obtain ⟨fb, b0, m0, v0, b1, m1, v1, fv, sv0, sv1, cv0, cv1⟩ := x
  have lnk := J1.out.blk
  obtain ⟨now, hnow⟩ : ∃ z, y.now = z := ⟨_, rfl⟩
  have HNOW := Lib.hid hnow
  simp only [Fa.cs, hnow] at lnk
  rw [hnow] at hnow0
  obtain ⟨Af, cf, e9, hcf, hmf, hAf⟩ := J1.out.fly.slice
  simp only at e9
  subst e9
  obtain ⟨nf, hnf⟩ : ∃ z, y.P.length = z := ⟨_, rfl⟩
  have HNF := Lib.hid hnf
  rw [hnf] at hp120 hcf
  simp only [hnf] at lnk
  have c7 := cell_of lnk 7 (.int .i64 now) rfl
  have z7 := frz_row 7 lnk
  obtain ⟨W2, hW2⟩ : ∃ Y, W1.setCell ⟨fb, 7, none⟩ (.int .i64 (now + 1)) = Y := ⟨_, rfl⟩
  have l2 : W2.heap[fb]? = some (.cells #[.pointer (some ⟨b0, 0, none⟩), .pointer (some ⟨b1, 0, none⟩), .slice Af nf cf, sv0, sv1, cv0, cv1, .int .i64 (now + 1)] 32 (0, 0)) := by rw [← hW2]; exact (row_set lnk _).trans rfl
  have nfb : W.heap.size ≠ fb := fun e => by
    rw [e] at r1
    exact apart_of r1 lnk (by decide) rfl
  have r2 : W2.heap[W.heap.size]? = some (.cells #[.int .i64 kd, .int .i64 X, .int .i64 Iv] 37 (0, 0)) := by rw [← hW2]; exact other_set r1 nfb _
  have d0 := cell_of r2 0 (.int .i64 kd) rfl
  have d1 := cell_of r2 1 (.int .i64 X) rfl
  have d2 := cell_of r2 2 (.int .i64 Iv) rfl
  have f2 := cell_of l2 2 (.slice Af nf cf) rfl
  have kt : KP (fun g => g = fb) W1 W2 := by rw [← hW2]; exact KP.set (S := fun g => g = fb) W1 fb 7 _ rfl
  have J2 : Hid (Fm base W2 ⟨fb, b0, m0, v0, b1, m1, v1, .slice Af nf cf, sv0, sv1, cv0, cv1⟩ { y with now := now + 1 } k) := Lib.hid (by
    have q := J1.out.tick (W' := W2) (t := now + 1) kt (by simp only [Fa.cs, hnf]; exact l2)
    simp only [hnf] at q
    exact q)
  have B2 := Lib.hid (B1.out.trans (kt.below (Nat.le_trans hbs bb1.size) fun j hj => by have e : j = fb := hj; rw [e]; exact J1.out.hb))
  have G2 : Hid (Fg F { y with now := now + 1 } k (n + 1)) := Lib.hid (GG.out.tick (by rw [hnow]))
  obtain ⟨a, ha⟩ : ∃ a : Int, X.tmod 2 = a := ⟨_, rfl⟩
  have ha2 : -2 < a ∧ a < 2 := by rw [← ha]; exact ⟨by have := Int.lt_tmod_of_pos X (show (0 : Int) < 2 by decide); omega, Int.tmod_lt_of_pos X (by decide)⟩
  have hwa : wrap64 (a + 2) = a + 2 := IntWalk.wrap64_in _ (by omega)
  have hw1 : wrap64 (now + 1) = now + 1 := IntWalk.wrap64_in _ (by omega)
  have HW1 := Lib.hid hW1
  have HW2 := Lib.hid hW2
  have HAF := Lib.hid hAf
  have HCF := Lib.hid (And.intro hcf hmf)
  have HP := Lib.hid hp120
  have HS3 := Lib.hid hs300
  have L2 := Lib.hid l2
  have R2 := Lib.hid r2
  have S2 : Hid (base ≤ W2.heap.size) := Lib.hid (Nat.le_trans hbs (Nat.le_trans bb1.size kt.size))
  clear hcf hmf hAf h g hn hF kt bb1 r1 hnow hnf hs300 hbs hW1
  rw [ha] at hxx
  subst hk2
  have hf100 : nf < 100 := by rw [← HNF.out]; exact h100
  have hfi : (nf : Int) < 100 := by omega
  have H100 := Lib.hid h100
  clear h100
  have hn1 : (-9223372036854775808 : Int) ≤ now + 1 ∧ now + 1 ≤ 9223372036854775807 := by have := HNN.out; omega
  have HN1 := Lib.hid hn1
  obtain ⟨u2, hu2⟩ : ∃ z, W2.drew = z := ⟨_, rfl⟩
  have bu : Below W2.heap.size W2 u2 := by rw [← hu2]; exact (Below.refl _ _).drew
  have J3 := Lib.hid (J2.out.below bu)
  have B3 := Lib.hid (B2.out.trans (bu.mono S2.out))
  have S3 : Hid (base ≤ u2.heap.size) := Lib.hid (Nat.le_trans S2.out bu.size)
  have H3 : Hid (u2.heap[fb]? = some (.cells #[.pointer (some ⟨b0, 0, none⟩), .pointer (some ⟨b1, 0, none⟩), .slice Af nf cf, sv0, sv1, cv0, cv1, .int .i64 (now + 1)] 32 (0, 0))) := Lib.hid ((bu.block _ (blt L2.out)).trans L2.out)
  have HU2 := Lib.hid hu2
  have KO := Lib.hid (outW _ _ _ _ _ _ _ _ _ J3.out.p1 (now + 1) hn1)
  clear hu2 bu l2 r2 hn1 hW2
  go_enter Try.func6, Try.ntmps6
  go_wp2_with (first | (refine wpList_bx rfl 37 (.tmp 1) rfl 3 rfl #[.int .i64 2, .int .i64 X, .int .i64 Iv] rfl ?_; rw [HW1.out]) | (rw [HW2.out]))
  refine region_heldT (S := fun X => X.heap[fb]? = some (.cells #[.pointer (some ⟨b0, 0, none⟩), .pointer (some ⟨b1, 0, none⟩), .slice Af nf cf, sv0, sv1, cv0, cv1, .int .i64 (now + 1)] 32 (0, 0))) 17 (by kernel_rfl) (by decide) (fun inv => ?_)
  change FirstH _ _ _ _ _ _ _ _ _ _ W2.drew
  rw [HU2.out]
  have HS := H3.out
  refine FirstH.go (i := 0) (v := .pointer (some ⟨fb, 0, none⟩)) rfl rfl _ rfl _ rfl (by kernel_rfl) (fun _ _ _ h => h) inv (fun X _ => by unfold bareO; go_simp) HS (fun inv => ?_)
  try simp only [Act.put, List.setIfInBounds_toArray, List.set_cons_zero, List.set_cons_succ]
  refine FirstH.go (i := 1) (v := .pointer (some ⟨fb, 0, none⟩)) rfl rfl _ rfl _ rfl (by kernel_rfl) (fun _ _ _ h => h) inv (fun X _ => by unfold bareO; go_simp) HS (fun inv => ?_)
  try simp only [Act.put, List.setIfInBounds_toArray, List.set_cons_zero, List.set_cons_succ]
  refine FirstH.go (i := 2) (v := .pointer (some ⟨fb, 0, none⟩)) rfl rfl _ rfl _ rfl (by kernel_rfl) (fun _ _ _ h => h) inv (fun X _ => by unfold bareO; go_simp) HS (fun inv => ?_)
  try simp only [Act.put, List.setIfInBounds_toArray, List.set_cons_zero, List.set_cons_succ]
  refine FirstH.go (i := 3) (v := .pointer (some ⟨fb, 2, none⟩)) rfl rfl _ rfl _ rfl (by kernel_rfl) (fun _ _ _ h => h) inv (fun X _ => by unfold bareO; go_simp) HS (fun inv => ?_)
  try simp only [Act.put, List.setIfInBounds_toArray, List.set_cons_zero, List.set_cons_succ]
  refine FirstH.go (i := 4) (v := .slice Af nf cf) rfl rfl _ rfl _ rfl (by kernel_rfl) (fun _ _ _ h => h) inv (fun X hS => by have c1 := cell_of hS 2 (.slice Af nf cf) rfl; unfold bareO; go_simp) HS (fun inv => ?_)
  try simp only [Act.put, List.setIfInBounds_toArray, List.set_cons_zero, List.set_cons_succ]
  refine FirstH.go (i := 5) (v := .pointer (some ⟨fb, 0, none⟩)) rfl rfl _ rfl _ rfl (by kernel_rfl) (fun _ _ _ h => h) inv (fun X _ => by unfold bareO; go_simp) HS (fun inv => ?_)
  try simp only [Act.put, List.setIfInBounds_toArray, List.set_cons_zero, List.set_cons_succ]
  refine FirstH.go (i := 6) (v := .int .i64 1) rfl rfl _ rfl _ rfl (by kernel_rfl) (fun _ _ _ h => h) inv (fun X _ => by unfold bareO; go_simp) HS (fun inv => ?_)
  try simp only [Act.put, List.setIfInBounds_toArray, List.set_cons_zero, List.set_cons_succ]
  refine FirstH.go (i := 7) (v := .pointer (some ⟨fb, 0, none⟩)) rfl rfl _ rfl _ rfl (by kernel_rfl) (fun _ _ _ h => h) inv (fun X _ => by unfold bareO; go_simp) HS (fun inv => ?_)
  try simp only [Act.put, List.setIfInBounds_toArray, List.set_cons_zero, List.set_cons_succ]
  refine FirstH.go (i := 8) (v := .pointer (some ⟨fb, 0, none⟩)) rfl rfl _ rfl _ rfl (by kernel_rfl) (fun _ _ _ h => h) inv (fun X _ => by unfold bareO; go_simp) HS (fun inv => ?_)
  try simp only [Act.put, List.setIfInBounds_toArray, List.set_cons_zero, List.set_cons_succ]
  refine FirstH.go (i := 9) (v := .pointer (some ⟨fb, 1, none⟩)) rfl rfl _ rfl _ rfl (by kernel_rfl) (fun _ _ _ h => h) inv (fun X _ => by unfold bareO; go_simp) HS (fun inv => ?_)
  try simp only [Act.put, List.setIfInBounds_toArray, List.set_cons_zero, List.set_cons_succ]
  refine FirstH.go (i := 10) (v := .pointer (some ⟨b1, 0, none⟩)) rfl rfl _ rfl _ rfl (by kernel_rfl) (fun _ _ _ h => h) inv (fun X hS => by have c1 := cell_of hS 1 (.pointer (some ⟨b1, 0, none⟩)) rfl; unfold bareO; go_simp) HS (fun inv => ?_)
  try simp only [Act.put, List.setIfInBounds_toArray, List.set_cons_zero, List.set_cons_succ]
  refine FirstH.go (i := 11) (v := .pointer (some ⟨fb, 0, none⟩)) rfl rfl _ rfl _ rfl (by kernel_rfl) (fun _ _ _ h => h) inv (fun X _ => by unfold bareO; go_simp) HS (fun inv => ?_)
  try simp only [Act.put, List.setIfInBounds_toArray, List.set_cons_zero, List.set_cons_succ]
  refine FirstH.go (i := 12) (v := .pointer (some ⟨fb, 0, none⟩)) rfl rfl _ rfl _ rfl (by kernel_rfl) (fun _ _ _ h => h) inv (fun X _ => by unfold bareO; go_simp) HS (fun inv => ?_)
  try simp only [Act.put, List.setIfInBounds_toArray, List.set_cons_zero, List.set_cons_succ]
  refine FirstH.go (i := 13) (v := .pointer (some ⟨fb, 7, none⟩)) rfl rfl _ rfl _ rfl (by kernel_rfl) (fun _ _ _ h => h) inv (fun X _ => by unfold bareO; go_simp) HS (fun inv => ?_)
  try simp only [Act.put, List.setIfInBounds_toArray, List.set_cons_zero, List.set_cons_succ]
  refine FirstH.go (i := 14) (v := .int .i64 (now + 1)) rfl rfl _ rfl _ rfl (by kernel_rfl) (fun _ _ _ h => h) inv (fun X hS => by have c1 := cell_of hS 7 (.int .i64 (now + 1)) rfl; unfold bareO; go_simp) HS (fun inv => ?_)
  try simp only [Act.put, List.setIfInBounds_toArray, List.set_cons_zero, List.set_cons_succ]
  clear HS
  refine FirstH.only (i := 15) (by kernel_rfl) (by decide) inv (fun inv => wpOp_call (i := 15) rfl rfl 87 rfl _ rfl 8 #[.pointer (some ⟨b1, 0, none⟩), .int .i64 (now + 1)] (by unfold bareO; go_simp) KO.out ?_)
  rintro e W4 ⟨pv, P, rfl, own4, ok4, hpu, p4, k4⟩
  have J4 := Lib.hid (J3.out.link1 (Nat.le_refl _) p4 k4 J3.out.av)
  have B4 := Lib.hid (B3.out.trans (J3.out.p1.kbelow k4 S3.out))
  have S4 : Hid (base ≤ W4.heap.size) := Lib.hid (Nat.le_trans S3.out k4.size)
  have H4 : W4.heap[fb]? = some (.cells #[.pointer (some ⟨b0, 0, none⟩), .pointer (some ⟨b1, 0, none⟩), .slice Af nf cf, sv0, sv1, cv0, cv1, .int .i64 (now + 1)] 32 (0, 0)) := by
    have q := J4.out.blk
    simp only [Fa.cs] at q
    exact q
  refine ⟨_, rfl, H4, ?_⟩
  try simp only [Act.put, List.setIfInBounds_toArray, List.set_cons_zero, List.set_cons_succ]
  have hsz := k4.size
  obtain ⟨m, hm⟩ : ∃ z, P.length = z := ⟨_, rfl⟩
  have hm8 : m ≤ 8 := by
    have q := fOut_len y.s1 (now + 1) y.L1
    rw [← hpu, List.length_map, hm] at q
    exact q
  have OK4 := Lib.hid ok4
  have HPU := Lib.hid hpu
  have HM := Lib.hid hm
  have Q4 := J4.out.fly
  simp only [HNF.out] at Q4
  have Q4 := Lib.hid Q4
  have HH4 := Lib.hid H4
  have RO4 : Hid (RowO W4 46 8 pv m (flat Pk.cs P)) := Lib.hid (by rw [← hm]; exact RowO.of_owns own4)
  clear own4 ok4 hpu p4 k4 hm H4 hsz
  obtain ⟨i0, hi0, hz0, hz1, hz2⟩ := info_parts pktI
  have fin : ∀ v7 W7, RowO W7 46 8 v7 (nf + m) (flat Pk.cs y.P ++ flat Pk.cs P) → W4.grownBy W7 (Value.slice Af nf cf).ownBlock → (v7.ownBlock = (Value.slice Af nf cf).ownBlock ∨ ∃ k, v7.ownBlock = some k ∧ W4.heap.size ≤ k) → W7.heap[fb]? = some (.cells #[.pointer (some ⟨b0, 0, none⟩), .pointer (some ⟨b1, 0, none⟩), .slice Af nf cf, sv0, sv1, cv0, cv1, .int .i64 (now + 1)] 32 (0, 0)) ∧ FstM base W ⟨fb, b0, m0, v0, b1, m1, v1, .slice Af nf cf, sv0, sv1, cv0, cv1⟩ F n (W7.setCell ⟨fb, 2, none⟩ v7) := by
    intro v7 W7 O7 g7 f7
    have k7 : KP (fun g => (Value.slice Af nf cf).ownBlock = some g) W4 W7 := KP.grown g7 fun k hk => hk
    have n7 : ∀ (g : Nat) (cu : Array Value) (t : TypeId), W4.heap[g]? = some (.cells cu t (0, 0)) → 46 ≠ t → ¬ (Value.slice Af nf cf).ownBlock = some g := fun g cu t hg ht e => by
      obtain ⟨c2, h2⟩ := Q4.out.block g e
      exact apart_of h2 hg ht rfl
    have l7 := (k7.block _ (blt HH4.out) (n7 _ _ _ HH4.out (by decide))).trans HH4.out
    refine ⟨l7, ?_⟩
    have k8 : KP (fun g => (Value.slice Af nf cf).ownBlock = some g ∨ g = fb) W4 (W7.setCell ⟨fb, 2, none⟩ v7) := (k7.mono fun _ h => Or.inl h).trans (KP.set (S := fun g => (Value.slice Af nf cf).ownBlock = some g ∨ g = fb) W7 fb 2 _ (Or.inr rfl)) fun _ _ h => h
    have O8 : RowO (W7.setCell ⟨fb, 2, none⟩ v7) 46 8 v7 (nf + m) (flat Pk.cs y.P ++ flat Pk.cs P) := O7.keepK (KP.set (S := fun g => g = fb) W7 fb 2 _ rfl) fun g hg e => by
      obtain ⟨c2, h2⟩ := O7.block g hg
      exact apart_of h2 l7 (by decide) e
    have hS : ∀ g, ((Value.slice Af nf cf).ownBlock = some g ∨ g = fb) → ∃ cu t, W4.heap[g]? = some (.cells cu t (0, 0)) ∧ t ≠ 64 ∧ t ≠ 60 ∧ t ≠ 5 := by
      rintro g (e | rfl)
      · obtain ⟨c2, h2⟩ := Q4.out.block g e
        exact ⟨c2, _, h2, by decide, by decide, by decide⟩
      · exact ⟨_, _, HH4.out, by decide, by decide, by decide⟩
    have q := J4.out.fv_ (v' := v7) (P' := y.P ++ P) k8 (by
      simp only [Fa.cs]
      exact (row_set l7 _).trans rfl) (by
      rw [List.length_append, HNF.out, HM.out, flat_append]
      exact O8) (fun p hp => by
      rcases List.mem_append.1 hp with hp | hp
      · exact (J4.out.ok p hp).offT k8 hS
      · exact (OK4.out p hp).offT k8 hS) f7
    refine ⟨_, _, k, ?ff, q, ?gg, B4.out.trans (k8.below S4.out (by
      rintro g (e | rfl)
      · exact J4.out.hf g e
      · exact J4.out.hb))⟩
    case ff => rfl
    case gg => exact (G2.out.out1 (P := P) (by rw [HNF.out]; exact hf100) HPU.out rfl).later (Nat.le_succ _)
  have FIN := Lib.hid fin
  clear fin
  obtain ⟨pA, pc, rfl, _, _, hpA⟩ := RO4.out.slice
  have hnews : m ≠ 0 → ∃ ad, pA = some ad ∧ ∀ j u, (flat Pk.cs P)[j]? = some u → W4.cell? (ad.add j) = some u := fun hm => by
    rcases hpA with ⟨rfl, _⟩ | ⟨gg, oo, rfl⟩
    · have h1 := RO4.out.2
      rcases h1 with ⟨_, h0⟩ | ⟨g', o', cap, cur, h1, _⟩
      · exact absurd h0 hm
      · cases h1
    · exact ⟨_, rfl, fun j u hu => by rw [addr_add]; exact RO4.out.cells j u hu⟩
  have hl : (flat Pk.cs P).length = m * 8 := by rw [flat_len Pk.sz, HM.out]
  have HNEWS := Lib.hid hnews
  clear hnews hpA
  refine FirstH.only (i := 16) (by kernel_rfl) (by decide) inv (fun inv => wpOp_any rfl rfl (wp_appZ 88 rfl (.tmp 76) (.tmp 87) 28 46 rfl i0 _ 8 56 Try.underlying28 hi0 hz0 hz1 hz2 rfl (by decide) (.slice Af nf cf) nf _ rfl Q4.out pA m pc (flat Pk.cs P) rfl hl HNEWS.out (flat_one Pk.one _) (by omega) (by decide) ?_))
  intro v7 W7 O7 g7 f7
  have FR := FIN.out v7 W7 O7 g7 f7
  obtain ⟨A7, c7', rfl, _, _, _⟩ := O7.slice
  refine ⟨FR.1, ?_⟩
  obtain ⟨W8, hW8⟩ : ∃ Y, W7.setCell ⟨fb, 2, none⟩ (.slice A7 (nf + m) c7') = Y := ⟨_, rfl⟩
  have HW8 := Lib.hid hW8
  have l7 := FR.1
  have J8 := Lib.hid FR.2
  rw [hW8] at J8
  have cs7 := cell_of l7 2 (.slice Af nf cf) rfl
  have zs7 := frz_row 2 l7
  clear hW8 FR l7 O7 g7 f7 hi0 hz0 hz1 hz2 FIN hl
  try simp only [Act.put, List.setIfInBounds_toArray, List.set_cons_zero, List.set_cons_succ]
  refine ⟨by kernel_rfl, ?_⟩
  simp only [List.drop_succ_cons, List.drop_zero]
  go_wp2_with (rw [HW8.out])
  refine bodyPost_end (results_none rfl _ _ _) rfl ?_
  exact ⟨rfl, J8.out⟩
set_option maxRecDepth 100000 in
set_option maxHeartbeats 4000000 in
theorem fstepI (base : Nat) (W : World) (x : Fa) (y : Fc) (F k n : Nat) (h : Fm base W x y k) (g : Fg F y k n) (hn : n ≤ 900) (hF : F ≤ 9223372036854775807) (kd X Iv : Int) (hk2 : kd = 2) (h100 : 100 ≤ y.P.length) :
    Calls Try.prog 6 #[.pointer (some ⟨x.f, 0, none⟩), .agg #[.int .i64 kd, .int .i64 X, .int .i64 Iv]] W fun e W' => e = .returned (.tuple #[]) ∧ FstM base W x F n W' := by
  obtain ⟨W1, hW1⟩ : ∃ Y, W.alloc (.cells #[.int .i64 kd, .int .i64 X, .int .i64 Iv] 37) = Y := ⟨_, rfl⟩
  have r1 : W1.heap[W.heap.size]? = some (.cells #[.int .i64 kd, .int .i64 X, .int .i64 Iv] 37 (0, 0)) := by rw [← hW1]; exact heap_alloc_new _ _
  have bb1 : Below W.heap.size W W1 := by rw [← hW1]; exact (Below.refl _ _).alloc (Nat.le_refl _) _
  have J1 := Lib.hid (h.below bb1)
  have hbs : base ≤ W.heap.size := Nat.le_trans h.hb (Nat.le_of_lt (blt h.blk))
  have HBS := Lib.hid hbs
  have B1 := Lib.hid (bb1.mono hbs)
  have GG := Lib.hid g
  have HNN := Lib.hid hn
  have HFF := Lib.hid hF
  have hnow0 := g.now
  have hp120 := g.P
  have hs300 := g.S
  obtain ⟨fb, b0, m0, v0, b1, m1, v1, fv, sv0, sv1, cv0, cv1⟩ := x
  have lnk := J1.out.blk
  obtain ⟨now, hnow⟩ : ∃ z, y.now = z := ⟨_, rfl⟩
  have HNOW := Lib.hid hnow
  simp only [Fa.cs, hnow] at lnk
  rw [hnow] at hnow0
  obtain ⟨Af, cf, e9, hcf, hmf, hAf⟩ := J1.out.fly.slice
  simp only at e9
  subst e9
  obtain ⟨nf, hnf⟩ : ∃ z, y.P.length = z := ⟨_, rfl⟩
  have HNF := Lib.hid hnf
  rw [hnf] at hp120 hcf
  simp only [hnf] at lnk
  have c7 := cell_of lnk 7 (.int .i64 now) rfl
  have z7 := frz_row 7 lnk
  obtain ⟨W2, hW2⟩ : ∃ Y, W1.setCell ⟨fb, 7, none⟩ (.int .i64 (now + 1)) = Y := ⟨_, rfl⟩
  have l2 : W2.heap[fb]? = some (.cells #[.pointer (some ⟨b0, 0, none⟩), .pointer (some ⟨b1, 0, none⟩), .slice Af nf cf, sv0, sv1, cv0, cv1, .int .i64 (now + 1)] 32 (0, 0)) := by rw [← hW2]; exact (row_set lnk _).trans rfl
  have nfb : W.heap.size ≠ fb := fun e => by
    rw [e] at r1
    exact apart_of r1 lnk (by decide) rfl
  have r2 : W2.heap[W.heap.size]? = some (.cells #[.int .i64 kd, .int .i64 X, .int .i64 Iv] 37 (0, 0)) := by rw [← hW2]; exact other_set r1 nfb _
  have d0 := cell_of r2 0 (.int .i64 kd) rfl
  have d1 := cell_of r2 1 (.int .i64 X) rfl
  have d2 := cell_of r2 2 (.int .i64 Iv) rfl
  have f2 := cell_of l2 2 (.slice Af nf cf) rfl
  have kt : KP (fun g => g = fb) W1 W2 := by rw [← hW2]; exact KP.set (S := fun g => g = fb) W1 fb 7 _ rfl
  have J2 : Hid (Fm base W2 ⟨fb, b0, m0, v0, b1, m1, v1, .slice Af nf cf, sv0, sv1, cv0, cv1⟩ { y with now := now + 1 } k) := Lib.hid (by
    have q := J1.out.tick (W' := W2) (t := now + 1) kt (by simp only [Fa.cs, hnf]; exact l2)
    simp only [hnf] at q
    exact q)
  have B2 := Lib.hid (B1.out.trans (kt.below (Nat.le_trans hbs bb1.size) fun j hj => by have e : j = fb := hj; rw [e]; exact J1.out.hb))
  have G2 : Hid (Fg F { y with now := now + 1 } k (n + 1)) := Lib.hid (GG.out.tick (by rw [hnow]))
  obtain ⟨a, ha⟩ : ∃ a : Int, X.tmod 2 = a := ⟨_, rfl⟩
  have ha2 : -2 < a ∧ a < 2 := by rw [← ha]; exact ⟨by have := Int.lt_tmod_of_pos X (show (0 : Int) < 2 by decide); omega, Int.tmod_lt_of_pos X (by decide)⟩
  have hwa : wrap64 (a + 2) = a + 2 := IntWalk.wrap64_in _ (by omega)
  have hw1 : wrap64 (now + 1) = now + 1 := IntWalk.wrap64_in _ (by omega)
  have HW1 := Lib.hid hW1
  have HW2 := Lib.hid hW2
  have HAF := Lib.hid hAf
  have HCF := Lib.hid (And.intro hcf hmf)
  have HP := Lib.hid hp120
  have HS3 := Lib.hid hs300
  have L2 := Lib.hid l2
  have R2 := Lib.hid r2
  have S2 : Hid (base ≤ W2.heap.size) := Lib.hid (Nat.le_trans hbs (Nat.le_trans bb1.size kt.size))
  clear hcf hmf hAf h g hn hF kt bb1 r1 hnow hnf hs300 hbs hW1
  subst hk2
  have hf100 : 100 ≤ nf := by rw [← HNF.out]; exact h100
  have hfi : ¬ (nf : Int) < 100 := by omega
  obtain ⟨xx, hxx⟩ : ∃ z : Int, (a + 2).tmod 2 = z := ⟨_, rfl⟩
  have hx01 : xx = 0 ∨ xx = 1 := by
    have h3 := Int.tmod_nonneg (a := a + 2) 2 (by omega)
    have h4 := Int.tmod_lt_of_pos (a + 2) (show (0 : Int) < 2 by decide)
    omega
  have hwx : wrap64 xx = xx := IntWalk.wrap64_in _ (by omega)
  clear l2 r2 hW2 h100 hx01
  go_enter Try.func6, Try.ntmps6
  go_wp2_with (first | (refine wpList_bx rfl 37 (.tmp 1) rfl 3 rfl #[.int .i64 2, .int .i64 X, .int .i64 Iv] rfl ?_; rw [HW1.out]) | (rw [HW2.out]))
  refine bodyPost_end (results_none rfl _ _ _) rfl ?_
  refine ⟨rfl, _, _, k, ?ff, J2.out, ?gg, B2.out⟩
  case ff => rfl
  case gg => exact G2.out.later (Nat.le_succ _)
set_option maxRecDepth 100000 in
set_option maxHeartbeats 4000000 in
theorem fstepN (base : Nat) (W : World) (x : Fa) (y : Fc) (F k n : Nat) (h : Fm base W x y k) (g : Fg F y k n) (hn : n ≤ 900) (hF : F ≤ 9223372036854775807) (kd X Iv : Int) (hk1 : ¬ kd ≤ 1) (hk2 : ¬ kd = 2) (h0 : y.P.length = 0) :
    Calls Try.prog 6 #[.pointer (some ⟨x.f, 0, none⟩), .agg #[.int .i64 kd, .int .i64 X, .int .i64 Iv]] W fun e W' => e = .returned (.tuple #[]) ∧ FstM base W x F n W' := by
  obtain ⟨W1, hW1⟩ : ∃ Y, W.alloc (.cells #[.int .i64 kd, .int .i64 X, .int .i64 Iv] 37) = Y := ⟨_, rfl⟩
  have r1 : W1.heap[W.heap.size]? = some (.cells #[.int .i64 kd, .int .i64 X, .int .i64 Iv] 37 (0, 0)) := by rw [← hW1]; exact heap_alloc_new _ _
  have bb1 : Below W.heap.size W W1 := by rw [← hW1]; exact (Below.refl _ _).alloc (Nat.le_refl _) _
  have J1 := Lib.hid (h.below bb1)
  have hbs : base ≤ W.heap.size := Nat.le_trans h.hb (Nat.le_of_lt (blt h.blk))
  have HBS := Lib.hid hbs
  have B1 := Lib.hid (bb1.mono hbs)
  have GG := Lib.hid g
  have HNN := Lib.hid hn
  have HFF := Lib.hid hF
  have hnow0 := g.now
  have hp120 := g.P
  have hs300 := g.S
  obtain ⟨fb, b0, m0, v0, b1, m1, v1, fv, sv0, sv1, cv0, cv1⟩ := x
  have lnk := J1.out.blk
  obtain ⟨now, hnow⟩ : ∃ z, y.now = z := ⟨_, rfl⟩
  have HNOW := Lib.hid hnow
  simp only [Fa.cs, hnow] at lnk
  rw [hnow] at hnow0
  obtain ⟨Af, cf, e9, hcf, hmf, hAf⟩ := J1.out.fly.slice
  simp only at e9
  subst e9
  obtain ⟨nf, hnf⟩ : ∃ z, y.P.length = z := ⟨_, rfl⟩
  have HNF := Lib.hid hnf
  rw [hnf] at hp120 hcf
  simp only [hnf] at lnk
  have c7 := cell_of lnk 7 (.int .i64 now) rfl
  have z7 := frz_row 7 lnk
  obtain ⟨W2, hW2⟩ : ∃ Y, W1.setCell ⟨fb, 7, none⟩ (.int .i64 (now + 1)) = Y := ⟨_, rfl⟩
  have l2 : W2.heap[fb]? = some (.cells #[.pointer (some ⟨b0, 0, none⟩), .pointer (some ⟨b1, 0, none⟩), .slice Af nf cf, sv0, sv1, cv0, cv1, .int .i64 (now + 1)] 32 (0, 0)) := by rw [← hW2]; exact (row_set lnk _).trans rfl
  have nfb : W.heap.size ≠ fb := fun e => by
    rw [e] at r1
    exact apart_of r1 lnk (by decide) rfl
  have r2 : W2.heap[W.heap.size]? = some (.cells #[.int .i64 kd, .int .i64 X, .int .i64 Iv] 37 (0, 0)) := by rw [← hW2]; exact other_set r1 nfb _
  have d0 := cell_of r2 0 (.int .i64 kd) rfl
  have d1 := cell_of r2 1 (.int .i64 X) rfl
  have d2 := cell_of r2 2 (.int .i64 Iv) rfl
  have f2 := cell_of l2 2 (.slice Af nf cf) rfl
  have kt : KP (fun g => g = fb) W1 W2 := by rw [← hW2]; exact KP.set (S := fun g => g = fb) W1 fb 7 _ rfl
  have J2 : Hid (Fm base W2 ⟨fb, b0, m0, v0, b1, m1, v1, .slice Af nf cf, sv0, sv1, cv0, cv1⟩ { y with now := now + 1 } k) := Lib.hid (by
    have q := J1.out.tick (W' := W2) (t := now + 1) kt (by simp only [Fa.cs, hnf]; exact l2)
    simp only [hnf] at q
    exact q)
  have B2 := Lib.hid (B1.out.trans (kt.below (Nat.le_trans hbs bb1.size) fun j hj => by have e : j = fb := hj; rw [e]; exact J1.out.hb))
  have G2 : Hid (Fg F { y with now := now + 1 } k (n + 1)) := Lib.hid (GG.out.tick (by rw [hnow]))
  obtain ⟨a, ha⟩ : ∃ a : Int, X.tmod 2 = a := ⟨_, rfl⟩
  have ha2 : -2 < a ∧ a < 2 := by rw [← ha]; exact ⟨by have := Int.lt_tmod_of_pos X (show (0 : Int) < 2 by decide); omega, Int.tmod_lt_of_pos X (by decide)⟩
  have hwa : wrap64 (a + 2) = a + 2 := IntWalk.wrap64_in _ (by omega)
  have hw1 : wrap64 (now + 1) = now + 1 := IntWalk.wrap64_in _ (by omega)
  have HW1 := Lib.hid hW1
  have HW2 := Lib.hid hW2
  have HAF := Lib.hid hAf
  have HCF := Lib.hid (And.intro hcf hmf)
  have HP := Lib.hid hp120
  have HS3 := Lib.hid hs300
  have L2 := Lib.hid l2
  have R2 := Lib.hid r2
  have S2 : Hid (base ≤ W2.heap.size) := Lib.hid (Nat.le_trans hbs (Nat.le_trans bb1.size kt.size))
  clear hcf hmf hAf h g hn hF kt bb1 r1 hnow hnf hs300 hbs hW1
  have hd1 : decide (kd ≤ 1) = false := by simpa using hk1
  have hd2 : (kd == 2) = false := by simpa using hk2
  have hd2' : ((2 : Int) == kd) = false := by simpa using fun e : (2 : Int) = kd => hk2 e.symm
  have hf0 : nf = 0 := by rw [← HNF.out]; exact h0
  subst hf0
  obtain ⟨xx, hxx⟩ : ∃ z : Int, (a + 2).tmod 2 = z := ⟨_, rfl⟩
  have hx01 : xx = 0 ∨ xx = 1 := by
    have h3 := Int.tmod_nonneg (a := a + 2) 2 (by omega)
    have h4 := Int.tmod_lt_of_pos (a + 2) (show (0 : Int) < 2 by decide)
    omega
  have hwx : wrap64 xx = xx := IntWalk.wrap64_in _ (by omega)
  clear l2 r2 hW2 h0 hx01 hk1 hk2
  go_enter Try.func6, Try.ntmps6
  go_wp2_with (first | (refine wpList_bx rfl 37 (.tmp 1) rfl 3 rfl #[.int .i64 kd, .int .i64 X, .int .i64 Iv] rfl ?_; rw [HW1.out]) | (rw [HW2.out]))
  refine bodyPost_end (results_none rfl _ _ _) rfl ?_
  refine ⟨rfl, _, _, k, ?ff, J2.out, ?gg, B2.out⟩
  case ff => rfl
  case gg => exact G2.out.later (Nat.le_succ _)

end Go.Proofs.Ytnagbiicpecamaa
