/-
  A step of the law's field of links: what a step leaves; something is sent. Condition: few steps before it.
-/
import Derived.Test.YtnagbiicpecamaaJqm
namespace Go.Proofs.Ytnagbiicpecamaa
set_option linter.unusedSimpArgs false
set_option linter.unusedVariables false
open Go.RowKit Go.Maps Go.Sort

/-- what a step leaves. -/
def FstM (base : Nat) (W : World) (x : Fa) (F n : Nat) (W' : World) : Prop := ∃ (x' : Fa) (y' : Fc) (k' : Nat), x'.f = x.f ∧ Fm base W' x' y' k' ∧ Fg F y' k' (n + 2) ∧ Below base W W'
set_option maxRecDepth 100000 in
set_option maxHeartbeats 4000000 in
theorem fstepS0 (base : Nat) (W : World) (x : Fa) (y : Fc) (F k n : Nat) (h : Fm base W x y k) (g : Fg F y k n) (hn : n ≤ 900) (hF : F ≤ 9223372036854775807) (kd X Iv : Int) (hk1 : kd ≤ 1) (hxx : (X.tmod 2 + 2).tmod 2 = 0) :
    Calls Try.prog 6 #[.pointer (some ⟨x.f, 0, none⟩), .agg #[.int .i64 kd, .int .i64 X, .int .i64 Iv]] W fun e W' => e = .returned (.tuple #[]) ∧ FstM base W x F n W' := by
  obtain ⟨W1, hW1⟩ : ∃ Y, W.alloc (.cells #[.int .i64 kd, .int .i64 X, .int .i64 Iv] 37) = Y := ⟨_, rfl⟩
  have r1 : W1.heap[W.heap.size]? = some (.cells #[.int .i64 kd, .int .i64 X, .int .i64 Iv] 37 (0, 0)) := by rw [← hW1]; exact heap_alloc_new _ _
  have bb1 : Below W.heap.size W W1 := by rw [← hW1]; exact (Below.refl _ _).alloc (Nat.le_refl _) _
  have J1 := Lib.hid (h.below bb1)
  have hbs : base ≤ W.heap.size := Nat.le_trans h.hb (Nat.le_of_lt (blt h.blk))
  have HBS := Lib.hid hbs
  have B1 := Lib.hid (bb1.mono hbs)
  have GG := Lib.hid g
  have HNN := Lib.hid hn
  have HFF := Lib.hid hF
  have hnow0 := g.now
  have hp120 := g.P
  have hs300 := g.S
  obtain ⟨fb, b0, m0, v0, b1, m1, v1, fv, sv0, sv1, cv0, cv1⟩ := x
  have lnk := J1.out.blk
  obtain ⟨now, hnow⟩ : ∃ z, y.now = z := ⟨_, rfl⟩
  have HNOW := Lib.hid hnow
  simp only [Fa.cs, hnow] at lnk
  rw [hnow] at hnow0
  obtain ⟨Af, cf, e9, hcf, hmf, hAf⟩ := J1.out.fly.slice
  simp only at e9
  subst e9
  obtain ⟨nf, hnf⟩ : ∃ z, y.P.length = z := ⟨_, rfl⟩
  have HNF := Lib.hid hnf
  rw [hnf] at hp120 hcf
  simp only [hnf] at lnk
  have c7 := cell_of lnk 7 (.int .i64 now) rfl
  have z7 := frz_row 7 lnk
  obtain ⟨W2, hW2⟩ : ∃ Y, W1.setCell ⟨fb, 7, none⟩ (.int .i64 (now + 1)) = Y := ⟨_, rfl⟩
  have l2 : W2.heap[fb]? = some (.cells #[.pointer (some ⟨b0, 0, none⟩), .pointer (some ⟨b1, 0, none⟩), .slice Af nf cf, sv0, sv1, cv0, cv1, .int .i64 (now + 1)] 32 (0, 0)) := by rw [← hW2]; exact (row_set lnk _).trans rfl
  have nfb : W.heap.size ≠ fb := fun e => by
    rw [e] at r1
    exact apart_of r1 lnk (by decide) rfl
  have r2 : W2.heap[W.heap.size]? = some (.cells #[.int .i64 kd, .int .i64 X, .int .i64 Iv] 37 (0, 0)) := by rw [← hW2]; exact other_set r1 nfb _
  have d0 := cell_of r2 0 (.int .i64 kd) rfl
  have d1 := cell_of r2 1 (.int .i64 X) rfl
  have d2 := cell_of r2 2 (.int .i64 Iv) rfl
  have f2 := cell_of l2 2 (.slice Af nf cf) rfl
  have kt : KP (fun g => g = fb) W1 W2 := by rw [← hW2]; exact KP.set (S := fun g => g = fb) W1 fb 7 _ rfl
  have J2 : Hid (Fm base W2 ⟨fb, b0, m0, v0, b1, m1, v1, .slice Af nf cf, sv0, sv1, cv0, cv1⟩ { y with now := now + 1 } k) := Lib.hid (by
    have q := J1.out.tick (W' := W2) (t := now + 1) kt (by simp only [Fa.cs, hnf]; exact l2)
    simp only [hnf] at q
    exact q)
  have B2 := Lib.hid (B1.out.trans (kt.below (Nat.le_trans hbs bb1.size) fun j hj => by have e : j = fb := hj; rw [e]; exact J1.out.hb))
  have G2 : Hid (Fg F { y with now := now + 1 } k (n + 1)) := Lib.hid (GG.out.tick (by rw [hnow]))
  obtain ⟨a, ha⟩ : ∃ a : Int, X.tmod 2 = a := ⟨_, rfl⟩
  have ha2 : -2 < a ∧ a < 2 := by rw [← ha]; exact ⟨by have := Int.lt_tmod_of_pos X (show (0 : Int) < 2 by decide); omega, Int.tmod_lt_of_pos X (by decide)⟩
  have hwa : wrap64 (a + 2) = a + 2 := IntWalk.wrap64_in _ (by omega)
  have hw1 : wrap64 (now + 1) = now + 1 := IntWalk.wrap64_in _ (by omega)
  have HW1 := Lib.hid hW1
  have HW2 := Lib.hid hW2
  have HAF := Lib.hid hAf
  have HCF := Lib.hid (And.intro hcf hmf)
  have HP := Lib.hid hp120
  have HS3 := Lib.hid hs300
  have L2 := Lib.hid l2
  have R2 := Lib.hid r2
  have S2 : Hid (base ≤ W2.heap.size) := Lib.hid (Nat.le_trans hbs (Nat.le_trans bb1.size kt.size))
  clear hcf hmf hAf h g hn hF kt bb1 r1 hnow hnf hs300 hbs hW1
  rw [ha] at hxx
  obtain ⟨As, cs, e8, hcs, hms, _⟩ := J2.out.r0.slice
  simp only at e8
  subst e8
  obtain ⟨ns, hns⟩ : ∃ z, y.S0.length = z := ⟨_, rfl⟩
  simp only [hns] at l2 L2 J2
  have hns3 : ns ≤ 1000 := by have h1 := HS3.out; have h2 := HNN.out; omega
  have HNS := Lib.hid hns
  have fS := cell_of l2 3 (.slice As ns cs) rfl
  have fB := cell_of l2 0 (.pointer (some ⟨b0, 0, none⟩)) rfl
  obtain ⟨W3, hW3⟩ : ∃ Y, W2.alloc (.cells #[.int .u8 0, .int .u8 ((ns : Int) % 256)] 5) = Y := ⟨_, rfl⟩
  have HW3 := Lib.hid hW3
  have b3 : Below W2.heap.size W2 W3 := by rw [← hW3]; exact (Below.refl _ _).alloc (Nat.le_refl _) _
  have l3 := (b3.block _ (blt l2)).trans l2
  have fB3 := cell_of l3 0 (.pointer (some ⟨b0, 0, none⟩)) rfl
  have J3 := Lib.hid (J2.out.below b3)
  have B3 := Lib.hid (B2.out.trans (b3.mono S2.out))
  have S3 : Hid (base ≤ W3.heap.size) := Lib.hid (Nat.le_trans S2.out b3.size)
  obtain ⟨nb, hnb⟩ : ∃ z, W2.heap.size = z := ⟨_, rfl⟩
  have hby : OwnB W3 0 (some ⟨nb, 0, none⟩) [UInt8.ofNat 0, UInt8.ofNat (ns % 256)] := fun _ => ⟨nb, #[.int .u8 0, .int .u8 ((ns : Int) % 256)], rfl, Nat.zero_le _, by rw [← hW3, ← hnb]; exact heap_alloc_new _ _, by simp [Lib.byteCells, toNat_of (show ns % 256 < 256 by omega)]⟩
  have HBY := Lib.hid hby
  have KS := sendPA _ _ _ _ _ _ _ _ _ J3.out.p0 (some ⟨nb, 0, none⟩) [UInt8.ofNat 0, UInt8.ofNat (ns % 256)] 2 hby.at_ (by simp) (by simp) (by decide)
  have HNB := Lib.hid hnb
  clear fB l3 hby b3 hcs hms hW3 l2 r2 hW2
  obtain ⟨fr, hfr⟩ : ∃ z, fSendR y.s0 y.L0.length = z := ⟨_, rfl⟩
  have HFR := Lib.hid hfr
  simp only [hfr] at KS
  have KNU := Lib.hid (fun w => numE fr w)
  clear hfr
  have hd1 : decide (kd ≤ 1) = true := by simpa using hk1
  by_cases hf0 : fr = 0
  · subst hf0
    go_enter Try.func6, Try.ntmps6
    go_wp2_with (first | (refine wpList_bx rfl 37 (.tmp 1) rfl 3 rfl #[.int .i64 kd, .int .i64 X, .int .i64 Iv] rfl ?_; rw [HW1.out]) | (rw [HW2.out]) | (rw [HW3.out]) | (rw [HNB.out]) | (go_at_call 11; refine KS.mono ?_; rintro e W4 ⟨rfl, v4, L4, p4, k4, e4, o4⟩; have P4 := Lib.hid p4; have K4 := Lib.hid k4; have E4 := Lib.hid e4; have V4 := Lib.hid o4; clear p4 k4 e4 o4) | (go_at_call 12; refine (KNU.out _).mono ?_; rintro e5 w5 ⟨rfl, rfl⟩))
    have J4 := Lib.hid (J3.out.link0 (Nat.le_refl _) P4.out K4.out (Ap.fresh J3.out.av J3.out.p1.row.lt V4.out))
    have B4 := Lib.hid (B3.out.trans (J3.out.p0.kbelow K4.out S3.out))
    have S4 : Hid (base ≤ W4.heap.size) := Lib.hid (Nat.le_trans S3.out K4.out.size)
    have Y4 := Lib.hid (HBY.out.keepK K4.out J3.out.p0.u8)
    have R4 : Hid (W4.heap[fb]? = some (.cells #[.pointer (some ⟨b0, 0, none⟩), .pointer (some ⟨b1, 0, none⟩), .slice Af nf cf, (Value.slice As ns cs), sv1, cv0, cv1, .int .i64 (now + 1)] 32 (0, 0))) := Lib.hid (by
      have q := J4.out.blk
      simp only [Fa.cs] at q
      exact q)
    clear P4
    obtain ⟨W5, hW5⟩ : ∃ Y, W4.drew = Y := ⟨_, rfl⟩
    have b5 : Below W4.heap.size W4 W5 := by rw [← hW5]; exact (Below.refl _ _).drew
    have HS : W5.heap[fb]? = some (.cells #[.pointer (some ⟨b0, 0, none⟩), .pointer (some ⟨b1, 0, none⟩), .slice Af nf cf, (Value.slice As ns cs), sv1, cv0, cv1, .int .i64 (now + 1)] 32 (0, 0)) := (b5.block _ (blt R4.out)).trans R4.out
    have cv5 := conv_bytes (Y4.out.keep fun g cur _ hg => (b5.block g (blt hg)).trans hg).at_ 2
    have J5 := Lib.hid (J4.out.below b5)
    have B5 := Lib.hid (B4.out.trans (b5.mono S4.out))
    have S5 : Hid (base ≤ W5.heap.size) := Lib.hid (Nat.le_trans S4.out b5.size)
    have H5 := Lib.hid HS
    have HW5 := Lib.hid hW5
    clear hW5 b5 J4 B4 S4 Y4 R4 HS
    refine region_heldT (S := fun X => X.heap[fb]? = some (.cells #[.pointer (some ⟨b0, 0, none⟩), .pointer (some ⟨b1, 0, none⟩), .slice Af nf cf, (Value.slice As ns cs), sv1, cv0, cv1, .int .i64 (now + 1)] 32 (0, 0))) 14 (by kernel_rfl) (by decide) (fun inv => ?_)
    change FirstH _ _ _ _ _ _ _ _ _ _ W4.drew
    rw [HW5.out]
    have HS := H5.out
    refine FirstH.go (i := 0) (v := .pointer (some ⟨fb, 0, none⟩)) rfl rfl _ rfl _ rfl (by kernel_rfl) (fun _ _ _ h => h) inv (fun X _ => by unfold bareO; go_simp) HS (fun inv => ?_)
    try simp only [Act.put, List.setIfInBounds_toArray, List.set_cons_zero, List.set_cons_succ]
    refine FirstH.go (i := 1) (v := .int .i64 0) rfl rfl _ rfl _ rfl (by kernel_rfl) (fun _ _ _ h => h) inv (fun X _ => by unfold bareO; go_simp) HS (fun inv => ?_)
    try simp only [Act.put, List.setIfInBounds_toArray, List.set_cons_zero, List.set_cons_succ]
    refine FirstH.go (i := 2) (v := .pointer (some ⟨fb, 0, none⟩)) rfl rfl _ rfl _ rfl (by kernel_rfl) (fun _ _ _ h => h) inv (fun X _ => by unfold bareO; go_simp) HS (fun inv => ?_)
    try simp only [Act.put, List.setIfInBounds_toArray, List.set_cons_zero, List.set_cons_succ]
    refine FirstH.go (i := 3) (v := .int .i64 0) rfl rfl _ rfl _ rfl (by kernel_rfl) (fun _ _ _ h => h) inv (fun X _ => by unfold bareO; go_simp) HS (fun inv => ?_)
    try simp only [Act.put, List.setIfInBounds_toArray, List.set_cons_zero, List.set_cons_succ]
    refine FirstH.go (i := 4) (v := .pointer (some ⟨fb, 0, none⟩)) rfl rfl _ rfl _ rfl (by kernel_rfl) (fun _ _ _ h => h) inv (fun X _ => by unfold bareO; go_simp) HS (fun inv => ?_)
    try simp only [Act.put, List.setIfInBounds_toArray, List.set_cons_zero, List.set_cons_succ]
    refine FirstH.go (i := 5) (v := .pointer (some ⟨fb, 3, none⟩)) rfl rfl _ rfl _ rfl (by kernel_rfl) (fun _ _ _ h => h) inv (fun X _ => by unfold bareO; go_simp) HS (fun inv => ?_)
    try simp only [Act.put, List.setIfInBounds_toArray, List.set_cons_zero, List.set_cons_succ]
    refine FirstH.go (i := 6) (v := .pointer (some ⟨fb, 3, none⟩)) rfl rfl _ rfl _ rfl (by kernel_rfl) (fun _ _ _ h => h) inv (fun X _ => by unfold bareO; go_simp) HS (fun inv => ?_)
    try simp only [Act.put, List.setIfInBounds_toArray, List.set_cons_zero, List.set_cons_succ]
    refine FirstH.go (i := 7) (v := .slice As ns cs) rfl rfl _ rfl _ rfl (by kernel_rfl) (fun _ _ _ h => h) inv (fun X hS => by have c1 := cell_of hS 3 (.slice As ns cs) rfl; unfold bareO; go_simp) HS (fun inv => ?_)
    try simp only [Act.put, List.setIfInBounds_toArray, List.set_cons_zero, List.set_cons_succ]
    refine FirstH.go (i := 8) (v := .slice (some ⟨nb, 0, none⟩) 2 2) rfl rfl _ rfl _ rfl (by kernel_rfl) (fun _ _ _ h => h) inv (fun X _ => by unfold bareO; go_simp) HS (fun inv => ?_)
    try simp only [Act.put, List.setIfInBounds_toArray, List.set_cons_zero, List.set_cons_succ]
    refine FirstH.go (i := 12) (v := .pointer (some ⟨fb, 0, none⟩)) rfl rfl _ rfl _ rfl (by kernel_rfl) (fun _ _ _ h => h) inv (fun X _ => by unfold bareO; go_simp) HS (fun inv => ?_)
    try simp only [Act.put, List.setIfInBounds_toArray, List.set_cons_zero, List.set_cons_succ]
    refine FirstH.go (i := 13) (v := .pointer (some ⟨fb, 3, none⟩)) rfl rfl _ rfl _ rfl (by kernel_rfl) (fun _ _ _ h => h) inv (fun X _ => by unfold bareO; go_simp) HS (fun inv => ?_)
    try simp only [Act.put, List.setIfInBounds_toArray, List.set_cons_zero, List.set_cons_succ]
    clear HS
    obtain ⟨dB, hdB⟩ : ∃ z, [UInt8.ofNat 0, UInt8.ofNat (ns % 256)] = z := ⟨_, rfl⟩
    have hdl : dB.length = 2 := by rw [← hdB]; rfl
    rw [hdB] at cv5
    rw [hdl] at cv5
    have HDB := Lib.hid hdB
    refine FirstH.only (i := 9) (by kernel_rfl) (by decide) inv (fun inv => wpOp_vl (i := 9) (v := .string ⟨dB.toArray⟩) (w' := W5) rfl rfl 60 rfl _ rfl (by unfold bareO; go_simp) ?_)
    refine ⟨H5.out, ?_⟩
    try simp only [Act.put, List.setIfInBounds_toArray, List.set_cons_zero, List.set_cons_succ]
    obtain ⟨W6, hW6⟩ : ∃ Y, W5.alloc (.cells #[.string ⟨dB.toArray⟩] 9) = Y := ⟨_, rfl⟩
    have r6 : W6.heap[W5.heap.size]? = some (.cells #[.string ⟨dB.toArray⟩] 9 (0, 0)) := by rw [← hW6]; exact heap_alloc_new _ _
    have b6 : Below W5.heap.size W5 W6 := by rw [← hW6]; exact (Below.refl _ _).alloc (Nat.le_refl _) _
    have HW6 := Lib.hid hW6
    refine FirstH.only (i := 10) (by kernel_rfl) (by decide) inv (fun inv => wpOp_vl (i := 10) (v := .slice (some ⟨W5.heap.size, 0, none⟩) 1 1) (w' := W6) rfl rfl 61 rfl _ rfl (by rw [← HW6.out]; unfold bareO; go_simp) ?_)
    have l6 := (b6.block _ (blt H5.out)).trans H5.out
    refine ⟨l6, ?_⟩
    have F6 := Lib.hid (J5.out.below b6)
    have Q6 := F6.out.r0
    simp only [HNS.out] at Q6
    have Q6 := Lib.hid Q6
    have L6 := Lib.hid l6
    have R6 := Lib.hid r6
    have B6 := Lib.hid (B5.out.trans (b6.mono S5.out))
    have S6 : Hid (base ≤ W6.heap.size) := Lib.hid (Nat.le_trans S5.out b6.size)
    clear hW6 r6 b6 l6 cv5 hdB hdl
    try simp only [Act.put, List.setIfInBounds_toArray, List.set_cons_zero, List.set_cons_succ]
    obtain ⟨i0, hi0, hz0, hz1, hz2⟩ := info_parts strI
    refine FirstH.only (i := 11) (by kernel_rfl) (by decide) inv (fun inv => wpOp_any rfl rfl (wp_appO 62 rfl (.tmp 58) (.tmp 61) 29 9 rfl i0 _ 1 16 Try.underlying29 hi0 hz0 hz1 hz2 rfl (by decide) (.slice As ns cs) ns _ rfl Q6.out ⟨W5.heap.size, 0, none⟩ 1 1 [.string ⟨dB.toArray⟩] rfl rfl (fun j u hu => by rw [addr_add, Nat.zero_add, cell_of_row _ _ j _ _ _ R6.out]; simpa using hu) (by simp [Value.oneCell']) (by decide) (by omega) (by decide) ?_))
    intro v7 W7 O7 g7 f7
    obtain ⟨A7, c7', rfl, _, _, _⟩ := O7.slice
    have k7 : KP (fun g => (Value.slice As ns cs).ownBlock = some g) W6 W7 := KP.grown g7 fun k hk => hk
    have n7 : ∀ (g : Nat) (cu : Array Value) (t : TypeId), W6.heap[g]? = some (.cells cu t (0, 0)) → 9 ≠ t → ¬ (Value.slice As ns cs).ownBlock = some g := fun g cu t hg ht e => by
      obtain ⟨c2, h2⟩ := Q6.out.block g e
      exact apart_of h2 hg ht rfl
    have l7 := (k7.block _ (blt L6.out) (n7 _ _ _ L6.out (by decide))).trans L6.out
    refine ⟨l7, ?_⟩
    obtain ⟨W8, hW8⟩ : ∃ Y, W7.setCell ⟨fb, 3, none⟩ (.slice A7 (ns + 1) c7') = Y := ⟨_, rfl⟩
    have k8 : KP (fun g => (Value.slice As ns cs).ownBlock = some g ∨ g = fb) W6 W8 := (k7.mono fun _ h => Or.inl h).trans (by rw [← hW8]; exact KP.set (S := fun g => (Value.slice As ns cs).ownBlock = some g ∨ g = fb) W7 fb 3 _ (Or.inr rfl)) fun _ _ h => h
    have O8 : RowO W8 9 1 (.slice A7 (ns + 1) c7') (ns + 1) (y.S0.map sv ++ [.string ⟨dB.toArray⟩]) := O7.keepK (by rw [← hW8]; exact KP.set (S := fun g => g = fb) W7 fb 3 _ rfl) fun g hg e => by
      obtain ⟨c2, h2⟩ := O7.block g hg
      exact apart_of h2 l7 (by decide) e
    have J8 : Hid (FstM base W ⟨fb, b0, m0, v0, b1, m1, v1, .slice Af nf cf, .slice As ns cs, sv1, cv0, cv1⟩ F n W8) := Lib.hid (by
      have q := F6.out.sv0 (v' := .slice A7 (ns + 1) c7') (X := dB) k8 (by
        simp only [Fa.cs]
        rw [← hW8]
        exact (row_set l7 _).trans rfl) (by
        rw [List.length_append, HNS.out, List.map_append]
        exact O8) f7
      refine ⟨_, _, k, ?ff, q, ?gg, B6.out.trans (k8.below S6.out (by
        rintro g (e | rfl)
        · exact F6.out.h0 g e
        · exact F6.out.hb))⟩
      case ff => rfl
      case gg => exact G2.out.send0 (X := dB) HFR.out (by rw [← HDB.out]; exact E4.out) (by have := HNN.out; have := HFF.out; omega) rfl)
    have HW8 := Lib.hid hW8
    have cs7 := cell_of l7 3 (.slice As ns cs) rfl
    have zs7 := frz_row 3 l7
    clear hW8 k8 O8 l7 n7 k7 O7 g7 f7 hi0 hz0 hz1 hz2 F6 Q6 L6 R6 B6 J5 B5 S5
    try simp only [Act.put, List.setIfInBounds_toArray, List.set_cons_zero, List.set_cons_succ]
    refine ⟨by kernel_rfl, ?_⟩
    simp only [List.drop_succ_cons, List.drop_zero]
    go_wp2_with (rw [HW8.out])
    refine bodyPost_end (results_none rfl _ _ _) rfl ?_
    exact ⟨rfl, J8.out⟩
  · have hf1 : (fr == 0) = false := by simpa using hf0
    have HF0 := Lib.hid hf0
    go_enter Try.func6, Try.ntmps6
    go_wp2_with (first | (refine wpList_bx rfl 37 (.tmp 1) rfl 3 rfl #[.int .i64 kd, .int .i64 X, .int .i64 Iv] rfl ?_; rw [HW1.out]) | (rw [HW2.out]) | (rw [HW3.out]) | (rw [HNB.out]) | (go_at_call 11; refine KS.mono ?_; rintro e W4 ⟨rfl, v4, L4, p4, k4, e4, o4⟩; have P4 := Lib.hid p4; have K4 := Lib.hid k4; have E4 := Lib.hid e4; have V4 := Lib.hid o4; clear p4 k4 e4 o4) | (go_at_call 12; refine (KNU.out _).mono ?_; rintro e5 w5 ⟨rfl, rfl⟩))
    refine bodyPost_end (results_none rfl _ _ _) rfl ?_
    refine ⟨rfl, _, _, k, ?ff, J3.out.link0 (Nat.le_refl _) P4.out K4.out (Ap.fresh J3.out.av J3.out.p1.row.lt V4.out), ?gg, B3.out.trans (J3.out.p0.kbelow K4.out S3.out)⟩
    case ff => rfl
    case gg => exact (G2.out.nosend0 (by rw [HFR.out]; exact HF0.out) E4.out rfl).later (Nat.le_succ _)
set_option maxRecDepth 100000 in
set_option maxHeartbeats 4000000 in
theorem fstepS1 (base : Nat) (W : World) (x : Fa) (y : Fc) (F k n : Nat) (h : Fm base W x y k) (g : Fg F y k n) (hn : n ≤ 900) (hF : F ≤ 9223372036854775807) (kd X Iv : Int) (hk1 : kd ≤ 1) (hxx : (X.tmod 2 + 2).tmod 2 = 1) :
    Calls Try.prog 6 #[.pointer (some ⟨x.f, 0, none⟩), .agg #[.int .i64 kd, .int .i64 X, .int .i64 Iv]] W fun e W' => e = .returned (.tuple #[]) ∧ FstM base W x F n W' := by
  obtain ⟨W1, hW1⟩ : ∃ Y, W.alloc (.cells #[.int .i64 kd, .int .i64 X, .int .i64 Iv] 37) = Y := ⟨_, rfl⟩
  have r1 : W1.heap[W.heap.size]? = some (.cells #[.int .i64 kd, .int .i64 X, .int .i64 Iv] 37 (0, 0)) := by rw [← hW1]; exact heap_alloc_new _ _
  have bb1 : Below W.heap.size W W1 := by rw [← hW1]; exact (Below.refl _ _).alloc (Nat.le_refl _) _
  have J1 := Lib.hid (h.below bb1)
  have hbs : base ≤ W.heap.size := Nat.le_trans h.hb (Nat.le_of_lt (blt h.blk))
  have HBS := Lib.hid hbs
  have B1 := Lib.hid (bb1.mono hbs)
  have GG := Lib.hid g
  have HNN := Lib.hid hn
  have HFF := Lib.hid hF
  have hnow0 := g.now
  have hp120 := g.P
  have hs300 := g.S
  obtain ⟨fb, b0, m0, v0, b1, m1, v1, fv, sv0, sv1, cv0, cv1⟩ := x
  have lnk := J1.out.blk
  obtain ⟨now, hnow⟩ : ∃ z, y.now = z := ⟨_, rfl⟩
  have HNOW := Lib.hid hnow
  simp only [Fa.cs, hnow] at lnk
  rw [hnow] at hnow0
  obtain ⟨Af, cf, e9, hcf, hmf, hAf⟩ := J1.out.fly.slice
  simp only at e9
  subst e9
  obtain ⟨nf, hnf⟩ : ∃ z, y.P.length = z := ⟨_, rfl⟩
  have HNF := Lib.hid hnf
  rw [hnf] at hp120 hcf
  simp only [hnf] at lnk
  have c7 := cell_of lnk 7 (.int .i64 now) rfl
  have z7 := frz_row 7 lnk
  obtain ⟨W2, hW2⟩ : ∃ Y, W1.setCell ⟨fb, 7, none⟩ (.int .i64 (now + 1)) = Y := ⟨_, rfl⟩
  have l2 : W2.heap[fb]? = some (.cells #[.pointer (some ⟨b0, 0, none⟩), .pointer (some ⟨b1, 0, none⟩), .slice Af nf cf, sv0, sv1, cv0, cv1, .int .i64 (now + 1)] 32 (0, 0)) := by rw [← hW2]; exact (row_set lnk _).trans rfl
  have nfb : W.heap.size ≠ fb := fun e => by
    rw [e] at r1
    exact apart_of r1 lnk (by decide) rfl
  have r2 : W2.heap[W.heap.size]? = some (.cells #[.int .i64 kd, .int .i64 X, .int .i64 Iv] 37 (0, 0)) := by rw [← hW2]; exact other_set r1 nfb _
  have d0 := cell_of r2 0 (.int .i64 kd) rfl
  have d1 := cell_of r2 1 (.int .i64 X) rfl
  have d2 := cell_of r2 2 (.int .i64 Iv) rfl
  have f2 := cell_of l2 2 (.slice Af nf cf) rfl
  have kt : KP (fun g => g = fb) W1 W2 := by rw [← hW2]; exact KP.set (S := fun g => g = fb) W1 fb 7 _ rfl
  have J2 : Hid (Fm base W2 ⟨fb, b0, m0, v0, b1, m1, v1, .slice Af nf cf, sv0, sv1, cv0, cv1⟩ { y with now := now + 1 } k) := Lib.hid (by
    have q := J1.out.tick (W' := W2) (t := now + 1) kt (by simp only [Fa.cs, hnf]; exact l2)
    simp only [hnf] at q
    exact q)
  have B2 := Lib.hid (B1.out.trans (kt.below (Nat.le_trans hbs bb1.size) fun j hj => by have e : j = fb := hj; rw [e]; exact J1.out.hb))
  have G2 : Hid (Fg F { y with now := now + 1 } k (n + 1)) := Lib.hid (GG.out.tick (by rw [hnow]))
  obtain ⟨a, ha⟩ : ∃ a : Int, X.tmod 2 = a := ⟨_, rfl⟩
  have ha2 : -2 < a ∧ a < 2 := by rw [← ha]; exact ⟨by have := Int.lt_tmod_of_pos X (show (0 : Int) < 2 by decide); omega, Int.tmod_lt_of_pos X (by decide)⟩
  have hwa : wrap64 (a + 2) = a + 2 := IntWalk.wrap64_in _ (by omega)
  have hw1 : wrap64 (now + 1) = now + 1 := IntWalk.wrap64_in _ (by omega)
  have HW1 := Lib.hid hW1
  have HW2 := Lib.hid hW2
  have HAF := Lib.hid hAf
  have HCF := Lib.hid (And.intro hcf hmf)
  have HP := Lib.hid hp120
  have HS3 := Lib.hid hs300
  have L2 := Lib.hid l2
  have R2 := Lib.hid r2
  have S2 : Hid (base ≤ W2.heap.size) := Lib.hid (Nat.le_trans hbs (Nat.le_trans bb1.size kt.size))
  clear hcf hmf hAf h g hn hF kt bb1 r1 hnow hnf hs300 hbs hW1
  rw [ha] at hxx
  obtain ⟨As, cs, e8, hcs, hms, _⟩ := J2.out.r1.slice
  simp only at e8
  subst e8
  obtain ⟨ns, hns⟩ : ∃ z, y.S1.length = z := ⟨_, rfl⟩
  simp only [hns] at l2 L2 J2
  have hns3 : ns ≤ 1000 := by have h1 := HS3.out; have h2 := HNN.out; omega
  have HNS := Lib.hid hns
  have fS := cell_of l2 4 (.slice As ns cs) rfl
  have fB := cell_of l2 1 (.pointer (some ⟨b1, 0, none⟩)) rfl
  obtain ⟨W3, hW3⟩ : ∃ Y, W2.alloc (.cells #[.int .u8 1, .int .u8 ((ns : Int) % 256)] 5) = Y := ⟨_, rfl⟩
  have HW3 := Lib.hid hW3
  have b3 : Below W2.heap.size W2 W3 := by rw [← hW3]; exact (Below.refl _ _).alloc (Nat.le_refl _) _
  have l3 := (b3.block _ (blt l2)).trans l2
  have fB3 := cell_of l3 1 (.pointer (some ⟨b1, 0, none⟩)) rfl
  have J3 := Lib.hid (J2.out.below b3)
  have B3 := Lib.hid (B2.out.trans (b3.mono S2.out))
  have S3 : Hid (base ≤ W3.heap.size) := Lib.hid (Nat.le_trans S2.out b3.size)
  obtain ⟨nb, hnb⟩ : ∃ z, W2.heap.size = z := ⟨_, rfl⟩
  have hby : OwnB W3 0 (some ⟨nb, 0, none⟩) [UInt8.ofNat 1, UInt8.ofNat (ns % 256)] := fun _ => ⟨nb, #[.int .u8 1, .int .u8 ((ns : Int) % 256)], rfl, Nat.zero_le _, by rw [← hW3, ← hnb]; exact heap_alloc_new _ _, by simp [Lib.byteCells, toNat_of (show ns % 256 < 256 by omega)]⟩
  have HBY := Lib.hid hby
  have KS := sendPA _ _ _ _ _ _ _ _ _ J3.out.p1 (some ⟨nb, 0, none⟩) [UInt8.ofNat 1, UInt8.ofNat (ns % 256)] 2 hby.at_ (by simp) (by simp) (by decide)
  have HNB := Lib.hid hnb
  clear fB l3 hby b3 hcs hms hW3 l2 r2 hW2
  obtain ⟨fr, hfr⟩ : ∃ z, fSendR y.s1 y.L1.length = z := ⟨_, rfl⟩
  have HFR := Lib.hid hfr
  simp only [hfr] at KS
  have KNU := Lib.hid (fun w => numE fr w)
  clear hfr
  have hd1 : decide (kd ≤ 1) = true := by simpa using hk1
  by_cases hf0 : fr = 0
  · subst hf0
    go_enter Try.func6, Try.ntmps6
    go_wp2_with (first | (refine wpList_bx rfl 37 (.tmp 1) rfl 3 rfl #[.int .i64 kd, .int .i64 X, .int .i64 Iv] rfl ?_; rw [HW1.out]) | (rw [HW2.out]) | (rw [HW3.out]) | (rw [HNB.out]) | (go_at_call 11; refine KS.mono ?_; rintro e W4 ⟨rfl, v4, L4, p4, k4, e4, o4⟩; have P4 := Lib.hid p4; have K4 := Lib.hid k4; have E4 := Lib.hid e4; have V4 := Lib.hid o4; clear p4 k4 e4 o4) | (go_at_call 12; refine (KNU.out _).mono ?_; rintro e5 w5 ⟨rfl, rfl⟩))
    have J4 := Lib.hid (J3.out.link1 (Nat.le_refl _) P4.out K4.out (Ap.fresh J3.out.av.symm J3.out.p0.row.lt V4.out).symm)
    have B4 := Lib.hid (B3.out.trans (J3.out.p1.kbelow K4.out S3.out))
    have S4 : Hid (base ≤ W4.heap.size) := Lib.hid (Nat.le_trans S3.out K4.out.size)
    have Y4 := Lib.hid (HBY.out.keepK K4.out J3.out.p1.u8)
    have R4 : Hid (W4.heap[fb]? = some (.cells #[.pointer (some ⟨b0, 0, none⟩), .pointer (some ⟨b1, 0, none⟩), .slice Af nf cf, sv0, (Value.slice As ns cs), cv0, cv1, .int .i64 (now + 1)] 32 (0, 0))) := Lib.hid (by
      have q := J4.out.blk
      simp only [Fa.cs] at q
      exact q)
    clear P4
    obtain ⟨W5, hW5⟩ : ∃ Y, W4.drew = Y := ⟨_, rfl⟩
    have b5 : Below W4.heap.size W4 W5 := by rw [← hW5]; exact (Below.refl _ _).drew
    have HS : W5.heap[fb]? = some (.cells #[.pointer (some ⟨b0, 0, none⟩), .pointer (some ⟨b1, 0, none⟩), .slice Af nf cf, sv0, (Value.slice As ns cs), cv0, cv1, .int .i64 (now + 1)] 32 (0, 0)) := (b5.block _ (blt R4.out)).trans R4.out
    have cv5 := conv_bytes (Y4.out.keep fun g cur _ hg => (b5.block g (blt hg)).trans hg).at_ 2
    have J5 := Lib.hid (J4.out.below b5)
    have B5 := Lib.hid (B4.out.trans (b5.mono S4.out))
    have S5 : Hid (base ≤ W5.heap.size) := Lib.hid (Nat.le_trans S4.out b5.size)
    have H5 := Lib.hid HS
    have HW5 := Lib.hid hW5
    clear hW5 b5 J4 B4 S4 Y4 R4 HS
    refine region_heldT (S := fun X => X.heap[fb]? = some (.cells #[.pointer (some ⟨b0, 0, none⟩), .pointer (some ⟨b1, 0, none⟩), .slice Af nf cf, sv0, (Value.slice As ns cs), cv0, cv1, .int .i64 (now + 1)] 32 (0, 0))) 14 (by kernel_rfl) (by decide) (fun inv => ?_)
    change FirstH _ _ _ _ _ _ _ _ _ _ W4.drew
    rw [HW5.out]
    have HS := H5.out
    refine FirstH.go (i := 0) (v := .pointer (some ⟨fb, 0, none⟩)) rfl rfl _ rfl _ rfl (by kernel_rfl) (fun _ _ _ h => h) inv (fun X _ => by unfold bareO; go_simp) HS (fun inv => ?_)
    try simp only [Act.put, List.setIfInBounds_toArray, List.set_cons_zero, List.set_cons_succ]
    refine FirstH.go (i := 1) (v := .int .i64 1) rfl rfl _ rfl _ rfl (by kernel_rfl) (fun _ _ _ h => h) inv (fun X _ => by unfold bareO; go_simp) HS (fun inv => ?_)
    try simp only [Act.put, List.setIfInBounds_toArray, List.set_cons_zero, List.set_cons_succ]
    refine FirstH.go (i := 2) (v := .pointer (some ⟨fb, 0, none⟩)) rfl rfl _ rfl _ rfl (by kernel_rfl) (fun _ _ _ h => h) inv (fun X _ => by unfold bareO; go_simp) HS (fun inv => ?_)
    try simp only [Act.put, List.setIfInBounds_toArray, List.set_cons_zero, List.set_cons_succ]
    refine FirstH.go (i := 3) (v := .int .i64 1) rfl rfl _ rfl _ rfl (by kernel_rfl) (fun _ _ _ h => h) inv (fun X _ => by unfold bareO; go_simp) HS (fun inv => ?_)
    try simp only [Act.put, List.setIfInBounds_toArray, List.set_cons_zero, List.set_cons_succ]
    refine FirstH.go (i := 4) (v := .pointer (some ⟨fb, 0, none⟩)) rfl rfl _ rfl _ rfl (by kernel_rfl) (fun _ _ _ h => h) inv (fun X _ => by unfold bareO; go_simp) HS (fun inv => ?_)
    try simp only [Act.put, List.setIfInBounds_toArray, List.set_cons_zero, List.set_cons_succ]
    refine FirstH.go (i := 5) (v := .pointer (some ⟨fb, 3, none⟩)) rfl rfl _ rfl _ rfl (by kernel_rfl) (fun _ _ _ h => h) inv (fun X _ => by unfold bareO; go_simp) HS (fun inv => ?_)
    try simp only [Act.put, List.setIfInBounds_toArray, List.set_cons_zero, List.set_cons_succ]
    refine FirstH.go (i := 6) (v := .pointer (some ⟨fb, 4, none⟩)) rfl rfl _ rfl _ rfl (by kernel_rfl) (fun _ _ _ h => h) inv (fun X _ => by unfold bareO; go_simp) HS (fun inv => ?_)
    try simp only [Act.put, List.setIfInBounds_toArray, List.set_cons_zero, List.set_cons_succ]
    refine FirstH.go (i := 7) (v := .slice As ns cs) rfl rfl _ rfl _ rfl (by kernel_rfl) (fun _ _ _ h => h) inv (fun X hS => by have c1 := cell_of hS 4 (.slice As ns cs) rfl; unfold bareO; go_simp) HS (fun inv => ?_)
    try simp only [Act.put, List.setIfInBounds_toArray, List.set_cons_zero, List.set_cons_succ]
    refine FirstH.go (i := 8) (v := .slice (some ⟨nb, 0, none⟩) 2 2) rfl rfl _ rfl _ rfl (by kernel_rfl) (fun _ _ _ h => h) inv (fun X _ => by unfold bareO; go_simp) HS (fun inv => ?_)
    try simp only [Act.put, List.setIfInBounds_toArray, List.set_cons_zero, List.set_cons_succ]
    refine FirstH.go (i := 12) (v := .pointer (some ⟨fb, 0, none⟩)) rfl rfl _ rfl _ rfl (by kernel_rfl) (fun _ _ _ h => h) inv (fun X _ => by unfold bareO; go_simp) HS (fun inv => ?_)
    try simp only [Act.put, List.setIfInBounds_toArray, List.set_cons_zero, List.set_cons_succ]
    refine FirstH.go (i := 13) (v := .pointer (some ⟨fb, 3, none⟩)) rfl rfl _ rfl _ rfl (by kernel_rfl) (fun _ _ _ h => h) inv (fun X _ => by unfold bareO; go_simp) HS (fun inv => ?_)
    try simp only [Act.put, List.setIfInBounds_toArray, List.set_cons_zero, List.set_cons_succ]
    clear HS
    obtain ⟨dB, hdB⟩ : ∃ z, [UInt8.ofNat 1, UInt8.ofNat (ns % 256)] = z := ⟨_, rfl⟩
    have hdl : dB.length = 2 := by rw [← hdB]; rfl
    rw [hdB] at cv5
    rw [hdl] at cv5
    have HDB := Lib.hid hdB
    refine FirstH.only (i := 9) (by kernel_rfl) (by decide) inv (fun inv => wpOp_vl (i := 9) (v := .string ⟨dB.toArray⟩) (w' := W5) rfl rfl 60 rfl _ rfl (by unfold bareO; go_simp) ?_)
    refine ⟨H5.out, ?_⟩
    try simp only [Act.put, List.setIfInBounds_toArray, List.set_cons_zero, List.set_cons_succ]
    obtain ⟨W6, hW6⟩ : ∃ Y, W5.alloc (.cells #[.string ⟨dB.toArray⟩] 9) = Y := ⟨_, rfl⟩
    have r6 : W6.heap[W5.heap.size]? = some (.cells #[.string ⟨dB.toArray⟩] 9 (0, 0)) := by rw [← hW6]; exact heap_alloc_new _ _
    have b6 : Below W5.heap.size W5 W6 := by rw [← hW6]; exact (Below.refl _ _).alloc (Nat.le_refl _) _
    have HW6 := Lib.hid hW6
    refine FirstH.only (i := 10) (by kernel_rfl) (by decide) inv (fun inv => wpOp_vl (i := 10) (v := .slice (some ⟨W5.heap.size, 0, none⟩) 1 1) (w' := W6) rfl rfl 61 rfl _ rfl (by rw [← HW6.out]; unfold bareO; go_simp) ?_)
    have l6 := (b6.block _ (blt H5.out)).trans H5.out
    refine ⟨l6, ?_⟩
    have F6 := Lib.hid (J5.out.below b6)
    have Q6 := F6.out.r1
    simp only [HNS.out] at Q6
    have Q6 := Lib.hid Q6
    have L6 := Lib.hid l6
    have R6 := Lib.hid r6
    have B6 := Lib.hid (B5.out.trans (b6.mono S5.out))
    have S6 : Hid (base ≤ W6.heap.size) := Lib.hid (Nat.le_trans S5.out b6.size)
    clear hW6 r6 b6 l6 cv5 hdB hdl
    try simp only [Act.put, List.setIfInBounds_toArray, List.set_cons_zero, List.set_cons_succ]
    obtain ⟨i0, hi0, hz0, hz1, hz2⟩ := info_parts strI
    refine FirstH.only (i := 11) (by kernel_rfl) (by decide) inv (fun inv => wpOp_any rfl rfl (wp_appO 62 rfl (.tmp 58) (.tmp 61) 29 9 rfl i0 _ 1 16 Try.underlying29 hi0 hz0 hz1 hz2 rfl (by decide) (.slice As ns cs) ns _ rfl Q6.out ⟨W5.heap.size, 0, none⟩ 1 1 [.string ⟨dB.toArray⟩] rfl rfl (fun j u hu => by rw [addr_add, Nat.zero_add, cell_of_row _ _ j _ _ _ R6.out]; simpa using hu) (by simp [Value.oneCell']) (by decide) (by omega) (by decide) ?_))
    intro v7 W7 O7 g7 f7
    obtain ⟨A7, c7', rfl, _, _, _⟩ := O7.slice
    have k7 : KP (fun g => (Value.slice As ns cs).ownBlock = some g) W6 W7 := KP.grown g7 fun k hk => hk
    have n7 : ∀ (g : Nat) (cu : Array Value) (t : TypeId), W6.heap[g]? = some (.cells cu t (0, 0)) → 9 ≠ t → ¬ (Value.slice As ns cs).ownBlock = some g := fun g cu t hg ht e => by
      obtain ⟨c2, h2⟩ := Q6.out.block g e
      exact apart_of h2 hg ht rfl
    have l7 := (k7.block _ (blt L6.out) (n7 _ _ _ L6.out (by decide))).trans L6.out
    refine ⟨l7, ?_⟩
    obtain ⟨W8, hW8⟩ : ∃ Y, W7.setCell ⟨fb, 4, none⟩ (.slice A7 (ns + 1) c7') = Y := ⟨_, rfl⟩
    have k8 : KP (fun g => (Value.slice As ns cs).ownBlock = some g ∨ g = fb) W6 W8 := (k7.mono fun _ h => Or.inl h).trans (by rw [← hW8]; exact KP.set (S := fun g => (Value.slice As ns cs).ownBlock = some g ∨ g = fb) W7 fb 4 _ (Or.inr rfl)) fun _ _ h => h
    have O8 : RowO W8 9 1 (.slice A7 (ns + 1) c7') (ns + 1) (y.S1.map sv ++ [.string ⟨dB.toArray⟩]) := O7.keepK (by rw [← hW8]; exact KP.set (S := fun g => g = fb) W7 fb 4 _ rfl) fun g hg e => by
      obtain ⟨c2, h2⟩ := O7.block g hg
      exact apart_of h2 l7 (by decide) e
    have J8 : Hid (FstM base W ⟨fb, b0, m0, v0, b1, m1, v1, .slice Af nf cf, sv0, .slice As ns cs, cv0, cv1⟩ F n W8) := Lib.hid (by
      have q := F6.out.sv1 (v' := .slice A7 (ns + 1) c7') (X := dB) k8 (by
        simp only [Fa.cs]
        rw [← hW8]
        exact (row_set l7 _).trans rfl) (by
        rw [List.length_append, HNS.out, List.map_append]
        exact O8) f7
      refine ⟨_, _, k, ?ff, q, ?gg, B6.out.trans (k8.below S6.out (by
        rintro g (e | rfl)
        · exact F6.out.h1 g e
        · exact F6.out.hb))⟩
      case ff => rfl
      case gg => exact G2.out.send1 (X := dB) HFR.out (by rw [← HDB.out]; exact E4.out) (by have := HNN.out; have := HFF.out; omega) rfl)
    have HW8 := Lib.hid hW8
    have cs7 := cell_of l7 4 (.slice As ns cs) rfl
    have zs7 := frz_row 4 l7
    clear hW8 k8 O8 l7 n7 k7 O7 g7 f7 hi0 hz0 hz1 hz2 F6 Q6 L6 R6 B6 J5 B5 S5
    try simp only [Act.put, List.setIfInBounds_toArray, List.set_cons_zero, List.set_cons_succ]
    refine ⟨by kernel_rfl, ?_⟩
    simp only [List.drop_succ_cons, List.drop_zero]
    go_wp2_with (rw [HW8.out])
    refine bodyPost_end (results_none rfl _ _ _) rfl ?_
    exact ⟨rfl, J8.out⟩
  · have hf1 : (fr == 0) = false := by simpa using hf0
    have HF0 := Lib.hid hf0
    go_enter Try.func6, Try.ntmps6
    go_wp2_with (first | (refine wpList_bx rfl 37 (.tmp 1) rfl 3 rfl #[.int .i64 kd, .int .i64 X, .int .i64 Iv] rfl ?_; rw [HW1.out]) | (rw [HW2.out]) | (rw [HW3.out]) | (rw [HNB.out]) | (go_at_call 11; refine KS.mono ?_; rintro e W4 ⟨rfl, v4, L4, p4, k4, e4, o4⟩; have P4 := Lib.hid p4; have K4 := Lib.hid k4; have E4 := Lib.hid e4; have V4 := Lib.hid o4; clear p4 k4 e4 o4) | (go_at_call 12; refine (KNU.out _).mono ?_; rintro e5 w5 ⟨rfl, rfl⟩))
    refine bodyPost_end (results_none rfl _ _ _) rfl ?_
    refine ⟨rfl, _, _, k, ?ff, J3.out.link1 (Nat.le_refl _) P4.out K4.out (Ap.fresh J3.out.av.symm J3.out.p0.row.lt V4.out).symm, ?gg, B3.out.trans (J3.out.p1.kbelow K4.out S3.out)⟩
    case ff => rfl
    case gg => exact (G2.out.nosend1 (by rw [HFR.out]; exact HF0.out) E4.out rfl).later (Nat.le_succ _)

end Go.Proofs.Ytnagbiicpecamaa
