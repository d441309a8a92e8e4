/-
  The walk of the law WheelPlays: a wheel does and tells what the document's does, call by call. Condition: the acts lie in memory.
-/
import Derived.Test.YtfekkfphogjpeaaYpl
import Derived.Test.YtfekkfphogjpeaaYsa
namespace Go.Proofs.Ytfekkfphogjpeaa
set_option linter.unusedSimpArgs false
set_option linter.unusedVariables false
open Go.RowKit Go.Maps Go.Sort

theorem box_grown {X Y : World} {bx row : Nat} {o : Obj} (h : X.heap[bx]? = some o) (hg : X.grownBy Y (some row)) (hne : row < bx) : Y.heap[bx]? = some o :=
  (hg.block bx (Array.getElem?_eq_some_iff.1 h).1 (by simp; omega)).trans h
theorem box_below {X Y : World} {bx : Nat} {o : Obj} (h : X.heap[bx]? = some o) (hb : Below X.heap.size X Y) : Y.heap[bx]? = some o :=
  (hb.block bx (Array.getElem?_eq_some_iff.1 h).1).trans h
theorem acts_at {W X : World} {A : Option Addr} {L : List Ac} (h : arg_actsR W A L) (hb : Below W.heap.size W X) {i : Nat} {a : Ac} (ha : L[i]? = some a) : ∃ b o, A = some ⟨b, o, none⟩ ∧ ∀ j u, a.cs[j]? = some u → X.cell? ⟨b, o + i * 15 + j, none⟩ = some u := by
  obtain ⟨⟨b, o, e, _, hc⟩, _⟩ := (h.below hb) i a ha
  exact ⟨b, o, e, hc⟩
theorem acts_ok {W : World} {A : Option Addr} {L : List Ac} (h : arg_actsR W A L) {i : Nat} {a : Ac} (ha : L[i]? = some a) : a.ok := (h i a ha).2

set_option maxRecDepth 100000 in
set_option maxHeartbeats 0 in
theorem walkPlays (most : Int) (A0 : Option Addr) (L : List Ac) (c0 : Nat) (W : World) (lc0 : L.length ≤ c0 ∧ c0 ≤ maxLen) (h0 : arg_actsR W A0 L) :
    Calls Try.prog 3 #[.int .i64 most, .slice A0 L.length c0] W fun e W' => e = .returned (.bool true) ∧ Below W.heap.size W W' := by
  have KK := Lib.hid (fun w => knowsW w)
  have I0 := Lib.hid (fun (X : World) (hb : Below W.heap.size W X) (i : Nat) (a : Ac) (ha : L[i]? = some a) => acts_at h0 hb ha)
  have IK := Lib.hid (fun (i : Nat) (a : Ac) (ha : L[i]? = some a) => acts_ok h0 ha)
  have LC := Lib.hid (show L.length ≤ c0 ∧ c0 ≤ maxLen from lc0)
  clear h0 lc0
  obtain ⟨n, hn⟩ : ∃ n, L.length = n := ⟨_, rfl⟩
  have HN := Lib.hid hn
  rw [hn]
  clear hn
  by_cases hL : 100 < n
  · have g1 : (100 : Int) < (n : Int) := by omega
    go_enter Try.func3, Try.ntmps3
    go_wp2_with fail
    refine (KK.out _).mono ?_
    rintro e W2 ⟨rfl, b2⟩
    have B2 := Lib.hid b2
    clear b2
    go_wp2
    go_ret
    exact ⟨rfl, B2.out⟩
  have g1 : ¬ (100 : Int) < (n : Int) := by omega
  go_enter Try.func3, Try.ntmps3
  go_wp2_with fail
  refine (KK.out _).mono ?_
  rintro e W1 ⟨rfl, b1⟩
  have B1 := Lib.hid b1
  have K0 := Lib.hid (newW most W1)
  clear b1
  go_wp2_with fail
  refine K0.out.mono ?_
  rintro e W2 ⟨rfl, p2, b2⟩
  obtain ⟨m, hm⟩ : ∃ m, W1.heap.size = m := ⟨_, rfl⟩
  rw [hm] at p2 ⊢
  obtain ⟨b, hb⟩ : ∃ b, m + 1 = b := ⟨_, rfl⟩
  rw [hb] at p2 ⊢
  obtain ⟨mo, hmo⟩ : ∃ mo, mst most = mo := ⟨_, rfl⟩
  rw [hmo] at p2
  have HMO := Lib.hid hmo
  have P2 := Lib.hid p2
  have B2 := Lib.hid (B1.out.trans (b2.mono B1.out.size))
  have MW := Lib.hid (show W.heap.size ≤ m by have := B1.out.size; omega)
  have K1 := Lib.hid (newD most W2)
  clear b2 p2 K0 hm hb hmo
  go_wp2_with fail
  refine K1.out.mono ?_
  rintro e W3 ⟨rfl, d3, b3⟩
  rw [HMO.out] at d3
  obtain ⟨r, hr⟩ : ∃ r, W2.heap.size = r := ⟨_, rfl⟩
  rw [hr] at d3 ⊢
  have D3 := Lib.hid d3
  have P3 := Lib.hid (P2.out.below b3)
  have B3 := Lib.hid (B2.out.trans (b3.mono B2.out.size))
  have MB : Hid (W.heap.size ≤ m ∧ W.heap.size ≤ r ∧ b ≠ r ∧ m ≠ r) := Lib.hid (by have := MW.out; have := P2.out.bl; have := P2.out.ml; omega)
  have TK0 := Lib.hid (fun (x : K13) (w : World) => toKey x w)
  clear b3 d3 hr K1 P2 B2
  go_wp2
  go_loopw [7] (fun z wx => ∃ k : Nat, z = .int .i64 k ∧ k ≤ n ∧ ∃ A c T, Hid (PW wx b m k mo T) ∧ Hid (DW wx r mo A c T) ∧ Hid (Below W.heap.size W wx)) (fun z _ => n - (intOf z).toNat)
  case atStart => exact ⟨0, rfl, Nat.zero_le _, none, 0, [], P3, D3, B3⟩
  clear P3 D3 B3
  case round =>
    obtain ⟨k, rfl, hk, A, c, T, PJ, DJ, BJ⟩ := hrel
    by_cases hlt : k < n
    · have l1 : (k : Int) < (n : Int) := by omega
      have hkL : k < L.length := by have := HN.out; omega
      have hx := List.getElem?_eq_getElem hkL
      obtain ⟨ab, ao, hA, cc⟩ := I0.out wr BJ.out k _ hx
      have ok := IK.out k _ hx
      obtain ⟨a, ha⟩ : ∃ a, L[k] = a := ⟨_, rfl⟩
      rw [ha] at cc ok
      obtain ⟨kd, at_, x⟩ := a
      have RX := Lib.hid (show x.Rng from ok.2)
      have KB := Lib.hid (show k ≤ 100 by omega)
      have HA := Lib.hid hA
      subst hA
      have hcc : (n : Int) ≤ (c0 : Int) := by have := LC.out.1; have := HN.out; omega
      have TK := Lib.hid (TK0.out x)
      unfold K13.cs at TK
      unfold Ac.cs at cc
      have c0 : wr.cell? ⟨ab, ao + k * 15, none⟩ = _ := cc 0 _ rfl
      have c1 : wr.cell? ⟨ab, ao + k * 15 + 1, none⟩ = _ := cc 1 _ rfl
      have c2 : wr.cell? ⟨ab, ao + k * 15 + 2, none⟩ = _ := cc 2 _ rfl
      have c3 : wr.cell? ⟨ab, ao + k * 15 + 3, none⟩ = _ := cc 3 _ rfl
      have c4 : wr.cell? ⟨ab, ao + k * 15 + 4, none⟩ = _ := cc 4 _ rfl
      have c5 : wr.cell? ⟨ab, ao + k * 15 + 5, none⟩ = _ := cc 5 _ rfl
      have c6 : wr.cell? ⟨ab, ao + k * 15 + 6, none⟩ = _ := cc 6 _ rfl
      have c7 : wr.cell? ⟨ab, ao + k * 15 + 7, none⟩ = _ := cc 7 _ rfl
      have c8 : wr.cell? ⟨ab, ao + k * 15 + 8, none⟩ = _ := cc 8 _ rfl
      have c9 : wr.cell? ⟨ab, ao + k * 15 + 9, none⟩ = _ := cc 9 _ rfl
      have c10 : wr.cell? ⟨ab, ao + k * 15 + 10, none⟩ = _ := cc 10 _ rfl
      have c11 : wr.cell? ⟨ab, ao + k * 15 + 11, none⟩ = _ := cc 11 _ rfl
      have c12 : wr.cell? ⟨ab, ao + k * 15 + 12, none⟩ = _ := cc 12 _ rfl
      have c13 : wr.cell? ⟨ab, ao + k * 15 + 13, none⟩ = _ := cc 13 _ rfl
      have c14 : wr.cell? ⟨ab, ao + k * 15 + 14, none⟩ = _ := cc 14 _ rfl
      clear hkL hx ok ha cc
      by_cases h0 : kd = 0
      · as_aux_lemma =>
        subst h0
        obtain ⟨wa, hwa⟩ : ∃ X, wr.alloc (.cells #[.int .i64 0, .int .i64 0, .int .u8 0, .int .u8 0, .int .u16 0, .int .u8 0, .int .u16 0, .int .u32 0, .int .u8 0, .int .u8 0, .int .u8 0, .int .u8 0, .int .u8 0, .int .u8 0, .int .u8 0] 40) = X := ⟨_, rfl⟩
        have ra : wa.heap[wr.heap.size]? = some (.cells #[.int .i64 0, .int .i64 0, .int .u8 0, .int .u8 0, .int .u16 0, .int .u8 0, .int .u16 0, .int .u32 0, .int .u8 0, .int .u8 0, .int .u8 0, .int .u8 0, .int .u8 0, .int .u8 0, .int .u8 0] 40 (0, 0)) := by rw [← hwa]; exact heap_alloc_new _ _
        obtain ⟨w4, hw4⟩ : ∃ X, wa.setRow wr.heap.size #[.int .i64 0, .int .i64 at_, .int .u8 x.k, .int .u8 x.pn, .int .u16 x.pl, .int .u8 x.x.n, .int .u16 x.x.l, .int .u32 x.x.s, .int .u8 x.x.d, .int .u8 x.x.a0, .int .u8 x.x.a1, .int .u8 x.x.b0, .int .u8 x.x.b1, .int .u8 x.x.c0, .int .u8 x.x.c1] = X := ⟨_, rfl⟩
        have b4 : Below wr.heap.size wr w4 := by rw [← hw4, ← hwa]; exact below_row ((Below.refl _ _).alloc (Nat.le_refl _) _) (Nat.le_refl _) _
        have r4 : w4.heap[wr.heap.size]? = some (.cells #[.int .i64 0, .int .i64 at_, .int .u8 x.k, .int .u8 x.pn, .int .u16 x.pl, .int .u8 x.x.n, .int .u16 x.x.l, .int .u32 x.x.s, .int .u8 x.x.d, .int .u8 x.x.a0, .int .u8 x.x.a1, .int .u8 x.x.b0, .int .u8 x.x.b1, .int .u8 x.x.c0, .int .u8 x.x.c1] 40 (0, 0)) := by rw [← hw4]; exact setRow_heap _ _ _ _ _ _ ra
        obtain ⟨bx, hbx⟩ : ∃ q, wr.heap.size = q := ⟨_, rfl⟩
        have MRB := Lib.hid (show m < bx ∧ r < bx by have := PJ.out.ml; have := DJ.out.rl; omega)
        have P4 := Lib.hid (PJ.out.below b4)
        have D4 := Lib.hid (DJ.out.below b4)
        have B4 := Lib.hid (BJ.out.trans (b4.mono BJ.out.size))
        rw [hbx] at r4 hw4 ra
        have R4 := Lib.hid r4
        have RA := Lib.hid ra
        have HWA := Lib.hid hwa
        have HW4 := Lib.hid hw4
        have HBX := Lib.hid hbx
        have kc := cell_of r4 0 _ rfl
        clear hwa ra hw4 b4 r4 hbx PJ DJ BJ
        go_wp2_with (first
          | (rw [HWA.out, HBX.out])
          | (refine wpList_store_row rfl 40 (.tmp 8) (.tmp 39) rfl bx #[.int .i64 0, .int .i64 at_, .int .u8 x.k, .int .u8 x.pn, .int .u16 x.pl, .int .u8 x.x.n, .int .u16 x.x.l, .int .u32 x.x.s, .int .u8 x.x.d, .int .u8 x.x.a0, .int .u8 x.x.a1, .int .u8 x.x.b0, .int .u8 x.x.b1, .int .u8 x.x.c0, .int .u8 x.x.c1] (by rfl) (by rfl) 40 #[.int .i64 0, .int .i64 0, .int .u8 0, .int .u8 0, .int .u16 0, .int .u8 0, .int .u16 0, .int .u32 0, .int .u8 0, .int .u8 0, .int .u8 0, .int .u8 0, .int .u8 0, .int .u8 0, .int .u8 0] RA.out (by kernel_rfl) rfl (by simp [Value.oneCell']) ?_; rw [HW4.out]; clear c0 c1 c2 c3 c4 c5 c6 c7 c8 c9 c10 c11 c12 c13 c14))
        obtain ⟨w5, hw5⟩ : ∃ X, w4.drew = X := ⟨_, rfl⟩
        have b5 : Below w4.heap.size w4 w5 := by rw [← hw5]; exact (Below.refl _ _).drew
        have P5 := Lib.hid (P4.out.below b5)
        have D5 := Lib.hid (D4.out.below b5)
        have B5 := Lib.hid (B4.out.trans (b5.mono B4.out.size))
        have R5 := Lib.hid (box_below R4.out b5)
        have HW5 := Lib.hid hw5
        clear hw5 b5
        refine region_heldT (S := fun X => X.heap[bx]? = some (.cells #[.int .i64 0, .int .i64 at_, .int .u8 x.k, .int .u8 x.pn, .int .u16 x.pl, .int .u8 x.x.n, .int .u16 x.x.l, .int .u32 x.x.s, .int .u8 x.x.d, .int .u8 x.x.a0, .int .u8 x.x.a1, .int .u8 x.x.b0, .int .u8 x.x.b1, .int .u8 x.x.c0, .int .u8 x.x.c1] 40 (0, 0))) 14 (by kernel_rfl) (by decide) (fun inv => ?_)
        change FirstH _ _ _ _ _ _ _ _ _ _ w4.drew
        rw [HW5.out]
        have HS := R5.out
        refine FirstH.go (i := 0) (v := .pointer (some ⟨b, 0, none⟩)) rfl rfl _ rfl _ rfl (by kernel_rfl) (fun _ _ _ h => h) inv (fun X _ => by unfold bareO; go_simp) HS (fun inv => ?_)
        try simp only [Act.put, List.setIfInBounds_toArray, List.set_cons_zero, List.set_cons_succ]
        refine FirstH.go (i := 1) (v := .pointer (some ⟨bx, 2, none⟩)) rfl rfl _ rfl _ rfl (by kernel_rfl) (fun _ _ _ h => h) inv (fun X _ => by unfold bareO; go_simp) HS (fun inv => ?_)
        try simp only [Act.put, List.setIfInBounds_toArray, List.set_cons_zero, List.set_cons_succ]
        refine FirstH.go (i := 2) (v := .agg #[.int .u8 x.k, .int .u8 x.pn, .int .u16 x.pl, .int .u8 x.x.n, .int .u16 x.x.l, .int .u32 x.x.s, .int .u8 x.x.d, .int .u8 x.x.a0, .int .u8 x.x.a1, .int .u8 x.x.b0, .int .u8 x.x.b1, .int .u8 x.x.c0, .int .u8 x.x.c1]) rfl rfl _ rfl _ rfl (by kernel_rfl) (fun _ _ _ h => h) inv (fun X hS => by have c0 := cell_of hS 2 _ rfl; have c1 := cell_of hS 3 _ rfl; have c2 := cell_of hS 4 _ rfl; have c3 := cell_of hS 5 _ rfl; have c4 := cell_of hS 6 _ rfl; have c5 := cell_of hS 7 _ rfl; have c6 := cell_of hS 8 _ rfl; have c7 := cell_of hS 9 _ rfl; have c8 := cell_of hS 10 _ rfl; have c9 := cell_of hS 11 _ rfl; have c10 := cell_of hS 12 _ rfl; have c11 := cell_of hS 13 _ rfl; have c12 := cell_of hS 14 _ rfl; unfold bareO; go_simp) HS (fun inv => ?_)
        try simp only [Act.put, List.setIfInBounds_toArray, List.set_cons_zero, List.set_cons_succ]
        refine FirstH.go (i := 4) (v := .pointer (some ⟨bx, 1, none⟩)) rfl rfl _ rfl _ rfl (by kernel_rfl) (fun _ _ _ h => h) inv (fun X _ => by unfold bareO; go_simp) HS (fun inv => ?_)
        try simp only [Act.put, List.setIfInBounds_toArray, List.set_cons_zero, List.set_cons_succ]
        refine FirstH.go (i := 5) (v := .int .i64 at_) rfl rfl _ rfl _ rfl (by kernel_rfl) (fun _ _ _ h => h) inv (fun X hS => by have c1 := cell_of hS 1 _ rfl; unfold bareO; go_simp) HS (fun inv => ?_)
        try simp only [Act.put, List.setIfInBounds_toArray, List.set_cons_zero, List.set_cons_succ]
        refine FirstH.go (i := 8) (v := .pointer (some ⟨r, 0, none⟩)) rfl rfl _ rfl _ rfl (by kernel_rfl) (fun _ _ _ h => h) inv (fun X _ => by unfold bareO; go_simp) HS (fun inv => ?_)
        try simp only [Act.put, List.setIfInBounds_toArray, List.set_cons_zero, List.set_cons_succ]
        refine FirstH.go (i := 9) (v := .pointer (some ⟨bx, 2, none⟩)) rfl rfl _ rfl _ rfl (by kernel_rfl) (fun _ _ _ h => h) inv (fun X _ => by unfold bareO; go_simp) HS (fun inv => ?_)
        try simp only [Act.put, List.setIfInBounds_toArray, List.set_cons_zero, List.set_cons_succ]
        refine FirstH.go (i := 10) (v := .agg #[.int .u8 x.k, .int .u8 x.pn, .int .u16 x.pl, .int .u8 x.x.n, .int .u16 x.x.l, .int .u32 x.x.s, .int .u8 x.x.d, .int .u8 x.x.a0, .int .u8 x.x.a1, .int .u8 x.x.b0, .int .u8 x.x.b1, .int .u8 x.x.c0, .int .u8 x.x.c1]) rfl rfl _ rfl _ rfl (by kernel_rfl) (fun _ _ _ h => h) inv (fun X hS => by have c0 := cell_of hS 2 _ rfl; have c1 := cell_of hS 3 _ rfl; have c2 := cell_of hS 4 _ rfl; have c3 := cell_of hS 5 _ rfl; have c4 := cell_of hS 6 _ rfl; have c5 := cell_of hS 7 _ rfl; have c6 := cell_of hS 8 _ rfl; have c7 := cell_of hS 9 _ rfl; have c8 := cell_of hS 10 _ rfl; have c9 := cell_of hS 11 _ rfl; have c10 := cell_of hS 12 _ rfl; have c11 := cell_of hS 13 _ rfl; have c12 := cell_of hS 14 _ rfl; unfold bareO; go_simp) HS (fun inv => ?_)
        try simp only [Act.put, List.setIfInBounds_toArray, List.set_cons_zero, List.set_cons_succ]
        refine FirstH.go (i := 11) (v := .pointer (some ⟨bx, 1, none⟩)) rfl rfl _ rfl _ rfl (by kernel_rfl) (fun _ _ _ h => h) inv (fun X _ => by unfold bareO; go_simp) HS (fun inv => ?_)
        try simp only [Act.put, List.setIfInBounds_toArray, List.set_cons_zero, List.set_cons_succ]
        refine FirstH.go (i := 12) (v := .int .i64 at_) rfl rfl _ rfl _ rfl (by kernel_rfl) (fun _ _ _ h => h) inv (fun X hS => by have c1 := cell_of hS 1 _ rfl; unfold bareO; go_simp) HS (fun inv => ?_)
        try simp only [Act.put, List.setIfInBounds_toArray, List.set_cons_zero, List.set_cons_succ]
        refine FirstH.only (i := 3) (by kernel_rfl) (by decide) inv (fun inv => wpOp_call (i := 3) rfl rfl 49 rfl _ rfl 12 #[.agg #[.int .u8 x.k, .int .u8 x.pn, .int .u16 x.pl, .int .u8 x.x.n, .int .u16 x.x.l, .int .u32 x.x.s, .int .u8 x.x.d, .int .u8 x.x.a0, .int .u8 x.x.a1, .int .u8 x.x.b0, .int .u8 x.x.b1, .int .u8 x.x.c0, .int .u8 x.x.c1]] (by unfold bareO; go_simp) (TK.out _) ?_)
        rintro e w6 ⟨rfl, b6⟩
        have HS6 := box_below HS b6
        have P6 := Lib.hid (P5.out.below b6)
        have D6 := Lib.hid (D5.out.below b6)
        have B6 := Lib.hid (B5.out.trans (b6.mono B5.out.size))
        refine ⟨_, rfl, HS6, ?_⟩
        clear HS b6
        have HS := HS6
        clear HS6
        try simp only [Act.put, List.setIfInBounds_toArray, List.set_cons_zero, List.set_cons_succ]
        have KS := setW w6 b m k mo T x at_ RX.out P6.out (by have := KB.out; omega)
        obtain ⟨E, hE⟩ : ∃ E, setE mo T x = E := ⟨_, rfl⟩
        rw [hE] at KS
        unfold K13.cs at KS
        refine FirstH.only (i := 6) (by kernel_rfl) (by decide) inv (fun inv => wpOp_call (i := 6) rfl rfl 52 rfl _ rfl 11 #[.pointer (some ⟨b, 0, none⟩), .agg #[.int .u8 x.k, .int .u8 x.pn, .int .u16 x.pl, .int .u8 x.x.n, .int .u16 x.x.l, .int .u32 x.x.s, .int .u8 x.x.d, .int .u8 x.x.a0, .int .u8 x.x.a1, .int .u8 x.x.b0, .int .u8 x.x.b1, .int .u8 x.x.c0, .int .u8 x.x.c1], .int .i64 at_] (by unfold bareO; go_simp) (KS) ?_)
        rintro e w7 ⟨rfl, p7, g7⟩
        have HS7 := box_grown HS g7 MRB.out.1
        have D7 := Lib.hid (D6.out.turn P6.out g7)
        have B7 := Lib.hid (below_grown B6.out g7 (fun k e => by cases e; exact MB.out.1))
        have P7 := Lib.hid p7
        refine ⟨_, rfl, HS7, ?_⟩
        clear HS g7 p7
        have HS := HS7
        clear HS7
        clear KS
        try simp only [Act.put, List.setIfInBounds_toArray, List.set_cons_zero, List.set_cons_succ]
        refine FirstH.only (i := 7) (by kernel_rfl) (by decide) inv (fun inv => wpOp_call (i := 7) rfl rfl 53 rfl _ rfl 10 #[.int .i64 E] (by unfold bareO; go_simp) (numW _ _) ?_)
        rintro e w' ⟨rfl, rfl⟩
        have HS' := HS
        refine ⟨_, rfl, HS', ?_⟩
        clear HS'
        try simp only [Act.put, List.setIfInBounds_toArray, List.set_cons_zero, List.set_cons_succ]
        have KD := setDW w7 r mo A c T x at_ RX.out D7.out
        rw [hE] at KD
        unfold K13.cs at KD
        refine FirstH.only (i := 13) (by kernel_rfl) (by decide) inv (fun inv => wpOp_call (i := 13) rfl rfl 59 rfl _ rfl 13 #[.pointer (some ⟨r, 0, none⟩), .agg #[.int .u8 x.k, .int .u8 x.pn, .int .u16 x.pl, .int .u8 x.x.n, .int .u16 x.x.l, .int .u32 x.x.s, .int .u8 x.x.d, .int .u8 x.x.a0, .int .u8 x.x.a1, .int .u8 x.x.b0, .int .u8 x.x.b1, .int .u8 x.x.c0, .int .u8 x.x.c1], .int .i64 at_] (by unfold bareO; go_simp) (KD) ?_)
        rintro e w9 ⟨rfl, A9, c9, T9, d9, q9, g9⟩
        have HS9 := box_grown HS g9 MRB.out.2
        have P9 := Lib.hid ((P7.out.grown g9 (by have := MB.out.2.2.1; simpa using this) (by have := MB.out.2.2.2; simpa using this)).perm q9)
        have B9 := Lib.hid (below_grown B7.out g9 (fun k e => by cases e; exact MB.out.2.1))
        have D9 := Lib.hid d9
        refine ⟨_, rfl, HS9, ?_⟩
        clear HS g9 d9
        have HS := HS9
        clear HS9
        clear KD q9 hE
        try simp only [Act.put, List.setIfInBounds_toArray, List.set_cons_zero, List.set_cons_succ]
        clear HS
        refine ⟨by kernel_rfl, ?_⟩
        simp only [List.drop_succ_cons, List.drop_zero]
        have LW := lenW w9 b m _ mo T9 P9.out
        have LD := lenD w9 r mo _ _ T9 D9.out
        have LP := Lib.hid (show PW w9 b m (k + 1) mo T9 from P9.out)
        obtain ⟨qq, hqq⟩ : ∃ q, T9.length = q := ⟨_, rfl⟩
        rw [hqq] at LW LD
        have LWH := Lib.hid LW
        have LDH := Lib.hid LD
        clear LW LD hqq
        go_wp2_with (first | (go_at_call 23; refine LWH.out.mono ?_; rintro e w' ⟨rfl, rfl⟩) | (go_at_call 24; refine LDH.out.mono ?_; rintro e w' ⟨rfl, rfl⟩))
        go_roundw
        case rel => exact ⟨k + 1, by go_num, by omega, _, _, _, LP, D9, B9⟩
        case measure => simp [intOf]; omega
      by_cases h1 : kd = 1
      · as_aux_lemma =>
        subst h1
        obtain ⟨wa, hwa⟩ : ∃ X, wr.alloc (.cells #[.int .i64 0, .int .i64 0, .int .u8 0, .int .u8 0, .int .u16 0, .int .u8 0, .int .u16 0, .int .u32 0, .int .u8 0, .int .u8 0, .int .u8 0, .int .u8 0, .int .u8 0, .int .u8 0, .int .u8 0] 40) = X := ⟨_, rfl⟩
        have ra : wa.heap[wr.heap.size]? = some (.cells #[.int .i64 0, .int .i64 0, .int .u8 0, .int .u8 0, .int .u16 0, .int .u8 0, .int .u16 0, .int .u32 0, .int .u8 0, .int .u8 0, .int .u8 0, .int .u8 0, .int .u8 0, .int .u8 0, .int .u8 0] 40 (0, 0)) := by rw [← hwa]; exact heap_alloc_new _ _
        obtain ⟨w4, hw4⟩ : ∃ X, wa.setRow wr.heap.size #[.int .i64 1, .int .i64 at_, .int .u8 x.k, .int .u8 x.pn, .int .u16 x.pl, .int .u8 x.x.n, .int .u16 x.x.l, .int .u32 x.x.s, .int .u8 x.x.d, .int .u8 x.x.a0, .int .u8 x.x.a1, .int .u8 x.x.b0, .int .u8 x.x.b1, .int .u8 x.x.c0, .int .u8 x.x.c1] = X := ⟨_, rfl⟩
        have b4 : Below wr.heap.size wr w4 := by rw [← hw4, ← hwa]; exact below_row ((Below.refl _ _).alloc (Nat.le_refl _) _) (Nat.le_refl _) _
        have r4 : w4.heap[wr.heap.size]? = some (.cells #[.int .i64 1, .int .i64 at_, .int .u8 x.k, .int .u8 x.pn, .int .u16 x.pl, .int .u8 x.x.n, .int .u16 x.x.l, .int .u32 x.x.s, .int .u8 x.x.d, .int .u8 x.x.a0, .int .u8 x.x.a1, .int .u8 x.x.b0, .int .u8 x.x.b1, .int .u8 x.x.c0, .int .u8 x.x.c1] 40 (0, 0)) := by rw [← hw4]; exact setRow_heap _ _ _ _ _ _ ra
        obtain ⟨bx, hbx⟩ : ∃ q, wr.heap.size = q := ⟨_, rfl⟩
        have MRB := Lib.hid (show m < bx ∧ r < bx by have := PJ.out.ml; have := DJ.out.rl; omega)
        have P4 := Lib.hid (PJ.out.below b4)
        have D4 := Lib.hid (DJ.out.below b4)
        have B4 := Lib.hid (BJ.out.trans (b4.mono BJ.out.size))
        rw [hbx] at r4 hw4 ra
        have R4 := Lib.hid r4
        have RA := Lib.hid ra
        have HWA := Lib.hid hwa
        have HW4 := Lib.hid hw4
        have HBX := Lib.hid hbx
        have kc := cell_of r4 0 _ rfl
        clear hwa ra hw4 b4 r4 hbx PJ DJ BJ
        go_wp2_with (first
          | (rw [HWA.out, HBX.out])
          | (refine wpList_store_row rfl 40 (.tmp 8) (.tmp 39) rfl bx #[.int .i64 1, .int .i64 at_, .int .u8 x.k, .int .u8 x.pn, .int .u16 x.pl, .int .u8 x.x.n, .int .u16 x.x.l, .int .u32 x.x.s, .int .u8 x.x.d, .int .u8 x.x.a0, .int .u8 x.x.a1, .int .u8 x.x.b0, .int .u8 x.x.b1, .int .u8 x.x.c0, .int .u8 x.x.c1] (by rfl) (by rfl) 40 #[.int .i64 0, .int .i64 0, .int .u8 0, .int .u8 0, .int .u16 0, .int .u8 0, .int .u16 0, .int .u32 0, .int .u8 0, .int .u8 0, .int .u8 0, .int .u8 0, .int .u8 0, .int .u8 0, .int .u8 0] RA.out (by kernel_rfl) rfl (by simp [Value.oneCell']) ?_; rw [HW4.out]; clear c0 c1 c2 c3 c4 c5 c6 c7 c8 c9 c10 c11 c12 c13 c14))
        obtain ⟨w5, hw5⟩ : ∃ X, w4.drew = X := ⟨_, rfl⟩
        have b5 : Below w4.heap.size w4 w5 := by rw [← hw5]; exact (Below.refl _ _).drew
        have P5 := Lib.hid (P4.out.below b5)
        have D5 := Lib.hid (D4.out.below b5)
        have B5 := Lib.hid (B4.out.trans (b5.mono B4.out.size))
        have R5 := Lib.hid (box_below R4.out b5)
        have HW5 := Lib.hid hw5
        clear hw5 b5
        refine region_heldT (S := fun X => X.heap[bx]? = some (.cells #[.int .i64 1, .int .i64 at_, .int .u8 x.k, .int .u8 x.pn, .int .u16 x.pl, .int .u8 x.x.n, .int .u16 x.x.l, .int .u32 x.x.s, .int .u8 x.x.d, .int .u8 x.x.a0, .int .u8 x.x.a1, .int .u8 x.x.b0, .int .u8 x.x.b1, .int .u8 x.x.c0, .int .u8 x.x.c1] 40 (0, 0))) 14 (by kernel_rfl) (by decide) (fun inv => ?_)
        change FirstH _ _ _ _ _ _ _ _ _ _ w4.drew
        rw [HW5.out]
        have HS := R5.out
        refine FirstH.go (i := 0) (v := .pointer (some ⟨b, 0, none⟩)) rfl rfl _ rfl _ rfl (by kernel_rfl) (fun _ _ _ h => h) inv (fun X _ => by unfold bareO; go_simp) HS (fun inv => ?_)
        try simp only [Act.put, List.setIfInBounds_toArray, List.set_cons_zero, List.set_cons_succ]
        refine FirstH.go (i := 1) (v := .pointer (some ⟨bx, 2, none⟩)) rfl rfl _ rfl _ rfl (by kernel_rfl) (fun _ _ _ h => h) inv (fun X _ => by unfold bareO; go_simp) HS (fun inv => ?_)
        try simp only [Act.put, List.setIfInBounds_toArray, List.set_cons_zero, List.set_cons_succ]
        refine FirstH.go (i := 2) (v := .agg #[.int .u8 x.k, .int .u8 x.pn, .int .u16 x.pl, .int .u8 x.x.n, .int .u16 x.x.l, .int .u32 x.x.s, .int .u8 x.x.d, .int .u8 x.x.a0, .int .u8 x.x.a1, .int .u8 x.x.b0, .int .u8 x.x.b1, .int .u8 x.x.c0, .int .u8 x.x.c1]) rfl rfl _ rfl _ rfl (by kernel_rfl) (fun _ _ _ h => h) inv (fun X hS => by have c0 := cell_of hS 2 _ rfl; have c1 := cell_of hS 3 _ rfl; have c2 := cell_of hS 4 _ rfl; have c3 := cell_of hS 5 _ rfl; have c4 := cell_of hS 6 _ rfl; have c5 := cell_of hS 7 _ rfl; have c6 := cell_of hS 8 _ rfl; have c7 := cell_of hS 9 _ rfl; have c8 := cell_of hS 10 _ rfl; have c9 := cell_of hS 11 _ rfl; have c10 := cell_of hS 12 _ rfl; have c11 := cell_of hS 13 _ rfl; have c12 := cell_of hS 14 _ rfl; unfold bareO; go_simp) HS (fun inv => ?_)
        try simp only [Act.put, List.setIfInBounds_toArray, List.set_cons_zero, List.set_cons_succ]
        refine FirstH.go (i := 4) (v := .pointer (some ⟨bx, 1, none⟩)) rfl rfl _ rfl _ rfl (by kernel_rfl) (fun _ _ _ h => h) inv (fun X _ => by unfold bareO; go_simp) HS (fun inv => ?_)
        try simp only [Act.put, List.setIfInBounds_toArray, List.set_cons_zero, List.set_cons_succ]
        refine FirstH.go (i := 5) (v := .int .i64 at_) rfl rfl _ rfl _ rfl (by kernel_rfl) (fun _ _ _ h => h) inv (fun X hS => by have c1 := cell_of hS 1 _ rfl; unfold bareO; go_simp) HS (fun inv => ?_)
        try simp only [Act.put, List.setIfInBounds_toArray, List.set_cons_zero, List.set_cons_succ]
        refine FirstH.go (i := 8) (v := .pointer (some ⟨r, 0, none⟩)) rfl rfl _ rfl _ rfl (by kernel_rfl) (fun _ _ _ h => h) inv (fun X _ => by unfold bareO; go_simp) HS (fun inv => ?_)
        try simp only [Act.put, List.setIfInBounds_toArray, List.set_cons_zero, List.set_cons_succ]
        refine FirstH.go (i := 9) (v := .pointer (some ⟨bx, 2, none⟩)) rfl rfl _ rfl _ rfl (by kernel_rfl) (fun _ _ _ h => h) inv (fun X _ => by unfold bareO; go_simp) HS (fun inv => ?_)
        try simp only [Act.put, List.setIfInBounds_toArray, List.set_cons_zero, List.set_cons_succ]
        refine FirstH.go (i := 10) (v := .agg #[.int .u8 x.k, .int .u8 x.pn, .int .u16 x.pl, .int .u8 x.x.n, .int .u16 x.x.l, .int .u32 x.x.s, .int .u8 x.x.d, .int .u8 x.x.a0, .int .u8 x.x.a1, .int .u8 x.x.b0, .int .u8 x.x.b1, .int .u8 x.x.c0, .int .u8 x.x.c1]) rfl rfl _ rfl _ rfl (by kernel_rfl) (fun _ _ _ h => h) inv (fun X hS => by have c0 := cell_of hS 2 _ rfl; have c1 := cell_of hS 3 _ rfl; have c2 := cell_of hS 4 _ rfl; have c3 := cell_of hS 5 _ rfl; have c4 := cell_of hS 6 _ rfl; have c5 := cell_of hS 7 _ rfl; have c6 := cell_of hS 8 _ rfl; have c7 := cell_of hS 9 _ rfl; have c8 := cell_of hS 10 _ rfl; have c9 := cell_of hS 11 _ rfl; have c10 := cell_of hS 12 _ rfl; have c11 := cell_of hS 13 _ rfl; have c12 := cell_of hS 14 _ rfl; unfold bareO; go_simp) HS (fun inv => ?_)
        try simp only [Act.put, List.setIfInBounds_toArray, List.set_cons_zero, List.set_cons_succ]
        refine FirstH.go (i := 11) (v := .pointer (some ⟨bx, 1, none⟩)) rfl rfl _ rfl _ rfl (by kernel_rfl) (fun _ _ _ h => h) inv (fun X _ => by unfold bareO; go_simp) HS (fun inv => ?_)
        try simp only [Act.put, List.setIfInBounds_toArray, List.set_cons_zero, List.set_cons_succ]
        refine FirstH.go (i := 12) (v := .int .i64 at_) rfl rfl _ rfl _ rfl (by kernel_rfl) (fun _ _ _ h => h) inv (fun X hS => by have c1 := cell_of hS 1 _ rfl; unfold bareO; go_simp) HS (fun inv => ?_)
        try simp only [Act.put, List.setIfInBounds_toArray, List.set_cons_zero, List.set_cons_succ]
        refine FirstH.only (i := 3) (by kernel_rfl) (by decide) inv (fun inv => wpOp_call (i := 3) rfl rfl 49 rfl _ rfl 12 #[.agg #[.int .u8 x.k, .int .u8 x.pn, .int .u16 x.pl, .int .u8 x.x.n, .int .u16 x.x.l, .int .u32 x.x.s, .int .u8 x.x.d, .int .u8 x.x.a0, .int .u8 x.x.a1, .int .u8 x.x.b0, .int .u8 x.x.b1, .int .u8 x.x.c0, .int .u8 x.x.c1]] (by unfold bareO; go_simp) (TK.out _) ?_)
        rintro e w6 ⟨rfl, b6⟩
        have HS6 := box_below HS b6
        have P6 := Lib.hid (P5.out.below b6)
        have D6 := Lib.hid (D5.out.below b6)
        have B6 := Lib.hid (B5.out.trans (b6.mono B5.out.size))
        refine ⟨_, rfl, HS6, ?_⟩
        clear HS b6
        have HS := HS6
        clear HS6
        try simp only [Act.put, List.setIfInBounds_toArray, List.set_cons_zero, List.set_cons_succ]
        have KS := setW w6 b m k mo T x at_ RX.out P6.out (by have := KB.out; omega)
        obtain ⟨E, hE⟩ : ∃ E, setE mo T x = E := ⟨_, rfl⟩
        rw [hE] at KS
        unfold K13.cs at KS
        refine FirstH.only (i := 6) (by kernel_rfl) (by decide) inv (fun inv => wpOp_call (i := 6) rfl rfl 52 rfl _ rfl 11 #[.pointer (some ⟨b, 0, none⟩), .agg #[.int .u8 x.k, .int .u8 x.pn, .int .u16 x.pl, .int .u8 x.x.n, .int .u16 x.x.l, .int .u32 x.x.s, .int .u8 x.x.d, .int .u8 x.x.a0, .int .u8 x.x.a1, .int .u8 x.x.b0, .int .u8 x.x.b1, .int .u8 x.x.c0, .int .u8 x.x.c1], .int .i64 at_] (by unfold bareO; go_simp) (KS) ?_)
        rintro e w7 ⟨rfl, p7, g7⟩
        have HS7 := box_grown HS g7 MRB.out.1
        have D7 := Lib.hid (D6.out.turn P6.out g7)
        have B7 := Lib.hid (below_grown B6.out g7 (fun k e => by cases e; exact MB.out.1))
        have P7 := Lib.hid p7
        refine ⟨_, rfl, HS7, ?_⟩
        clear HS g7 p7
        have HS := HS7
        clear HS7
        clear KS
        try simp only [Act.put, List.setIfInBounds_toArray, List.set_cons_zero, List.set_cons_succ]
        refine FirstH.only (i := 7) (by kernel_rfl) (by decide) inv (fun inv => wpOp_call (i := 7) rfl rfl 53 rfl _ rfl 10 #[.int .i64 E] (by unfold bareO; go_simp) (numW _ _) ?_)
        rintro e w' ⟨rfl, rfl⟩
        have HS' := HS
        refine ⟨_, rfl, HS', ?_⟩
        clear HS'
        try simp only [Act.put, List.setIfInBounds_toArray, List.set_cons_zero, List.set_cons_succ]
        have KD := setDW w7 r mo A c T x at_ RX.out D7.out
        rw [hE] at KD
        unfold K13.cs at KD
        refine FirstH.only (i := 13) (by kernel_rfl) (by decide) inv (fun inv => wpOp_call (i := 13) rfl rfl 59 rfl _ rfl 13 #[.pointer (some ⟨r, 0, none⟩), .agg #[.int .u8 x.k, .int .u8 x.pn, .int .u16 x.pl, .int .u8 x.x.n, .int .u16 x.x.l, .int .u32 x.x.s, .int .u8 x.x.d, .int .u8 x.x.a0, .int .u8 x.x.a1, .int .u8 x.x.b0, .int .u8 x.x.b1, .int .u8 x.x.c0, .int .u8 x.x.c1], .int .i64 at_] (by unfold bareO; go_simp) (KD) ?_)
        rintro e w9 ⟨rfl, A9, c9, T9, d9, q9, g9⟩
        have HS9 := box_grown HS g9 MRB.out.2
        have P9 := Lib.hid ((P7.out.grown g9 (by have := MB.out.2.2.1; simpa using this) (by have := MB.out.2.2.2; simpa using this)).perm q9)
        have B9 := Lib.hid (below_grown B7.out g9 (fun k e => by cases e; exact MB.out.2.1))
        have D9 := Lib.hid d9
        refine ⟨_, rfl, HS9, ?_⟩
        clear HS g9 d9
        have HS := HS9
        clear HS9
        clear KD q9 hE
        try simp only [Act.put, List.setIfInBounds_toArray, List.set_cons_zero, List.set_cons_succ]
        clear HS
        refine ⟨by kernel_rfl, ?_⟩
        simp only [List.drop_succ_cons, List.drop_zero]
        have LW := lenW w9 b m _ mo T9 P9.out
        have LD := lenD w9 r mo _ _ T9 D9.out
        have LP := Lib.hid (show PW w9 b m (k + 1) mo T9 from P9.out)
        obtain ⟨qq, hqq⟩ : ∃ q, T9.length = q := ⟨_, rfl⟩
        rw [hqq] at LW LD
        have LWH := Lib.hid LW
        have LDH := Lib.hid LD
        clear LW LD hqq
        go_wp2_with (first | (go_at_call 23; refine LWH.out.mono ?_; rintro e w' ⟨rfl, rfl⟩) | (go_at_call 24; refine LDH.out.mono ?_; rintro e w' ⟨rfl, rfl⟩))
        go_roundw
        case rel => exact ⟨k + 1, by go_num, by omega, _, _, _, LP, D9, B9⟩
        case measure => simp [intOf]; omega
      by_cases h2 : kd = 2
      · as_aux_lemma =>
        subst h2
        obtain ⟨wa, hwa⟩ : ∃ X, wr.alloc (.cells #[.int .i64 0, .int .i64 0, .int .u8 0, .int .u8 0, .int .u16 0, .int .u8 0, .int .u16 0, .int .u32 0, .int .u8 0, .int .u8 0, .int .u8 0, .int .u8 0, .int .u8 0, .int .u8 0, .int .u8 0] 40) = X := ⟨_, rfl⟩
        have ra : wa.heap[wr.heap.size]? = some (.cells #[.int .i64 0, .int .i64 0, .int .u8 0, .int .u8 0, .int .u16 0, .int .u8 0, .int .u16 0, .int .u32 0, .int .u8 0, .int .u8 0, .int .u8 0, .int .u8 0, .int .u8 0, .int .u8 0, .int .u8 0] 40 (0, 0)) := by rw [← hwa]; exact heap_alloc_new _ _
        obtain ⟨w4, hw4⟩ : ∃ X, wa.setRow wr.heap.size #[.int .i64 2, .int .i64 at_, .int .u8 x.k, .int .u8 x.pn, .int .u16 x.pl, .int .u8 x.x.n, .int .u16 x.x.l, .int .u32 x.x.s, .int .u8 x.x.d, .int .u8 x.x.a0, .int .u8 x.x.a1, .int .u8 x.x.b0, .int .u8 x.x.b1, .int .u8 x.x.c0, .int .u8 x.x.c1] = X := ⟨_, rfl⟩
        have b4 : Below wr.heap.size wr w4 := by rw [← hw4, ← hwa]; exact below_row ((Below.refl _ _).alloc (Nat.le_refl _) _) (Nat.le_refl _) _
        have r4 : w4.heap[wr.heap.size]? = some (.cells #[.int .i64 2, .int .i64 at_, .int .u8 x.k, .int .u8 x.pn, .int .u16 x.pl, .int .u8 x.x.n, .int .u16 x.x.l, .int .u32 x.x.s, .int .u8 x.x.d, .int .u8 x.x.a0, .int .u8 x.x.a1, .int .u8 x.x.b0, .int .u8 x.x.b1, .int .u8 x.x.c0, .int .u8 x.x.c1] 40 (0, 0)) := by rw [← hw4]; exact setRow_heap _ _ _ _ _ _ ra
        obtain ⟨bx, hbx⟩ : ∃ q, wr.heap.size = q := ⟨_, rfl⟩
        have MRB := Lib.hid (show m < bx ∧ r < bx by have := PJ.out.ml; have := DJ.out.rl; omega)
        have P4 := Lib.hid (PJ.out.below b4)
        have D4 := Lib.hid (DJ.out.below b4)
        have B4 := Lib.hid (BJ.out.trans (b4.mono BJ.out.size))
        rw [hbx] at r4 hw4 ra
        have R4 := Lib.hid r4
        have RA := Lib.hid ra
        have HWA := Lib.hid hwa
        have HW4 := Lib.hid hw4
        have HBX := Lib.hid hbx
        have kc := cell_of r4 0 _ rfl
        clear hwa ra hw4 b4 r4 hbx PJ DJ BJ
        go_wp2_with (first
          | (rw [HWA.out, HBX.out])
          | (refine wpList_store_row rfl 40 (.tmp 8) (.tmp 39) rfl bx #[.int .i64 2, .int .i64 at_, .int .u8 x.k, .int .u8 x.pn, .int .u16 x.pl, .int .u8 x.x.n, .int .u16 x.x.l, .int .u32 x.x.s, .int .u8 x.x.d, .int .u8 x.x.a0, .int .u8 x.x.a1, .int .u8 x.x.b0, .int .u8 x.x.b1, .int .u8 x.x.c0, .int .u8 x.x.c1] (by rfl) (by rfl) 40 #[.int .i64 0, .int .i64 0, .int .u8 0, .int .u8 0, .int .u16 0, .int .u8 0, .int .u16 0, .int .u32 0, .int .u8 0, .int .u8 0, .int .u8 0, .int .u8 0, .int .u8 0, .int .u8 0, .int .u8 0] RA.out (by kernel_rfl) rfl (by simp [Value.oneCell']) ?_; rw [HW4.out]; clear c0 c1 c2 c3 c4 c5 c6 c7 c8 c9 c10 c11 c12 c13 c14))
        obtain ⟨w5, hw5⟩ : ∃ X, w4.drew = X := ⟨_, rfl⟩
        have b5 : Below w4.heap.size w4 w5 := by rw [← hw5]; exact (Below.refl _ _).drew
        have P5 := Lib.hid (P4.out.below b5)
        have D5 := Lib.hid (D4.out.below b5)
        have B5 := Lib.hid (B4.out.trans (b5.mono B4.out.size))
        have R5 := Lib.hid (box_below R4.out b5)
        have HW5 := Lib.hid hw5
        clear hw5 b5
        refine region_heldT (S := fun X => X.heap[bx]? = some (.cells #[.int .i64 2, .int .i64 at_, .int .u8 x.k, .int .u8 x.pn, .int .u16 x.pl, .int .u8 x.x.n, .int .u16 x.x.l, .int .u32 x.x.s, .int .u8 x.x.d, .int .u8 x.x.a0, .int .u8 x.x.a1, .int .u8 x.x.b0, .int .u8 x.x.b1, .int .u8 x.x.c0, .int .u8 x.x.c1] 40 (0, 0))) 14 (by kernel_rfl) (by decide) (fun inv => ?_)
        change FirstH _ _ _ _ _ _ _ _ _ _ w4.drew
        rw [HW5.out]
        have HS := R5.out
        refine FirstH.go (i := 0) (v := .pointer (some ⟨b, 0, none⟩)) rfl rfl _ rfl _ rfl (by kernel_rfl) (fun _ _ _ h => h) inv (fun X _ => by unfold bareO; go_simp) HS (fun inv => ?_)
        try simp only [Act.put, List.setIfInBounds_toArray, List.set_cons_zero, List.set_cons_succ]
        refine FirstH.go (i := 1) (v := .pointer (some ⟨bx, 2, none⟩)) rfl rfl _ rfl _ rfl (by kernel_rfl) (fun _ _ _ h => h) inv (fun X _ => by unfold bareO; go_simp) HS (fun inv => ?_)
        try simp only [Act.put, List.setIfInBounds_toArray, List.set_cons_zero, List.set_cons_succ]
        refine FirstH.go (i := 2) (v := .agg #[.int .u8 x.k, .int .u8 x.pn, .int .u16 x.pl, .int .u8 x.x.n, .int .u16 x.x.l, .int .u32 x.x.s, .int .u8 x.x.d, .int .u8 x.x.a0, .int .u8 x.x.a1, .int .u8 x.x.b0, .int .u8 x.x.b1, .int .u8 x.x.c0, .int .u8 x.x.c1]) rfl rfl _ rfl _ rfl (by kernel_rfl) (fun _ _ _ h => h) inv (fun X hS => by have c0 := cell_of hS 2 _ rfl; have c1 := cell_of hS 3 _ rfl; have c2 := cell_of hS 4 _ rfl; have c3 := cell_of hS 5 _ rfl; have c4 := cell_of hS 6 _ rfl; have c5 := cell_of hS 7 _ rfl; have c6 := cell_of hS 8 _ rfl; have c7 := cell_of hS 9 _ rfl; have c8 := cell_of hS 10 _ rfl; have c9 := cell_of hS 11 _ rfl; have c10 := cell_of hS 12 _ rfl; have c11 := cell_of hS 13 _ rfl; have c12 := cell_of hS 14 _ rfl; unfold bareO; go_simp) HS (fun inv => ?_)
        try simp only [Act.put, List.setIfInBounds_toArray, List.set_cons_zero, List.set_cons_succ]
        refine FirstH.go (i := 4) (v := .pointer (some ⟨bx, 1, none⟩)) rfl rfl _ rfl _ rfl (by kernel_rfl) (fun _ _ _ h => h) inv (fun X _ => by unfold bareO; go_simp) HS (fun inv => ?_)
        try simp only [Act.put, List.setIfInBounds_toArray, List.set_cons_zero, List.set_cons_succ]
        refine FirstH.go (i := 5) (v := .int .i64 at_) rfl rfl _ rfl _ rfl (by kernel_rfl) (fun _ _ _ h => h) inv (fun X hS => by have c1 := cell_of hS 1 _ rfl; unfold bareO; go_simp) HS (fun inv => ?_)
        try simp only [Act.put, List.setIfInBounds_toArray, List.set_cons_zero, List.set_cons_succ]
        refine FirstH.go (i := 8) (v := .pointer (some ⟨r, 0, none⟩)) rfl rfl _ rfl _ rfl (by kernel_rfl) (fun _ _ _ h => h) inv (fun X _ => by unfold bareO; go_simp) HS (fun inv => ?_)
        try simp only [Act.put, List.setIfInBounds_toArray, List.set_cons_zero, List.set_cons_succ]
        refine FirstH.go (i := 9) (v := .pointer (some ⟨bx, 2, none⟩)) rfl rfl _ rfl _ rfl (by kernel_rfl) (fun _ _ _ h => h) inv (fun X _ => by unfold bareO; go_simp) HS (fun inv => ?_)
        try simp only [Act.put, List.setIfInBounds_toArray, List.set_cons_zero, List.set_cons_succ]
        refine FirstH.go (i := 10) (v := .agg #[.int .u8 x.k, .int .u8 x.pn, .int .u16 x.pl, .int .u8 x.x.n, .int .u16 x.x.l, .int .u32 x.x.s, .int .u8 x.x.d, .int .u8 x.x.a0, .int .u8 x.x.a1, .int .u8 x.x.b0, .int .u8 x.x.b1, .int .u8 x.x.c0, .int .u8 x.x.c1]) rfl rfl _ rfl _ rfl (by kernel_rfl) (fun _ _ _ h => h) inv (fun X hS => by have c0 := cell_of hS 2 _ rfl; have c1 := cell_of hS 3 _ rfl; have c2 := cell_of hS 4 _ rfl; have c3 := cell_of hS 5 _ rfl; have c4 := cell_of hS 6 _ rfl; have c5 := cell_of hS 7 _ rfl; have c6 := cell_of hS 8 _ rfl; have c7 := cell_of hS 9 _ rfl; have c8 := cell_of hS 10 _ rfl; have c9 := cell_of hS 11 _ rfl; have c10 := cell_of hS 12 _ rfl; have c11 := cell_of hS 13 _ rfl; have c12 := cell_of hS 14 _ rfl; unfold bareO; go_simp) HS (fun inv => ?_)
        try simp only [Act.put, List.setIfInBounds_toArray, List.set_cons_zero, List.set_cons_succ]
        refine FirstH.go (i := 11) (v := .pointer (some ⟨bx, 1, none⟩)) rfl rfl _ rfl _ rfl (by kernel_rfl) (fun _ _ _ h => h) inv (fun X _ => by unfold bareO; go_simp) HS (fun inv => ?_)
        try simp only [Act.put, List.setIfInBounds_toArray, List.set_cons_zero, List.set_cons_succ]
        refine FirstH.go (i := 12) (v := .int .i64 at_) rfl rfl _ rfl _ rfl (by kernel_rfl) (fun _ _ _ h => h) inv (fun X hS => by have c1 := cell_of hS 1 _ rfl; unfold bareO; go_simp) HS (fun inv => ?_)
        try simp only [Act.put, List.setIfInBounds_toArray, List.set_cons_zero, List.set_cons_succ]
        refine FirstH.only (i := 3) (by kernel_rfl) (by decide) inv (fun inv => wpOp_call (i := 3) rfl rfl 49 rfl _ rfl 12 #[.agg #[.int .u8 x.k, .int .u8 x.pn, .int .u16 x.pl, .int .u8 x.x.n, .int .u16 x.x.l, .int .u32 x.x.s, .int .u8 x.x.d, .int .u8 x.x.a0, .int .u8 x.x.a1, .int .u8 x.x.b0, .int .u8 x.x.b1, .int .u8 x.x.c0, .int .u8 x.x.c1]] (by unfold bareO; go_simp) (TK.out _) ?_)
        rintro e w6 ⟨rfl, b6⟩
        have HS6 := box_below HS b6
        have P6 := Lib.hid (P5.out.below b6)
        have D6 := Lib.hid (D5.out.below b6)
        have B6 := Lib.hid (B5.out.trans (b6.mono B5.out.size))
        refine ⟨_, rfl, HS6, ?_⟩
        clear HS b6
        have HS := HS6
        clear HS6
        try simp only [Act.put, List.setIfInBounds_toArray, List.set_cons_zero, List.set_cons_succ]
        have KS := setW w6 b m k mo T x at_ RX.out P6.out (by have := KB.out; omega)
        obtain ⟨E, hE⟩ : ∃ E, setE mo T x = E := ⟨_, rfl⟩
        rw [hE] at KS
        unfold K13.cs at KS
        refine FirstH.only (i := 6) (by kernel_rfl) (by decide) inv (fun inv => wpOp_call (i := 6) rfl rfl 52 rfl _ rfl 11 #[.pointer (some ⟨b, 0, none⟩), .agg #[.int .u8 x.k, .int .u8 x.pn, .int .u16 x.pl, .int .u8 x.x.n, .int .u16 x.x.l, .int .u32 x.x.s, .int .u8 x.x.d, .int .u8 x.x.a0, .int .u8 x.x.a1, .int .u8 x.x.b0, .int .u8 x.x.b1, .int .u8 x.x.c0, .int .u8 x.x.c1], .int .i64 at_] (by unfold bareO; go_simp) (KS) ?_)
        rintro e w7 ⟨rfl, p7, g7⟩
        have HS7 := box_grown HS g7 MRB.out.1
        have D7 := Lib.hid (D6.out.turn P6.out g7)
        have B7 := Lib.hid (below_grown B6.out g7 (fun k e => by cases e; exact MB.out.1))
        have P7 := Lib.hid p7
        refine ⟨_, rfl, HS7, ?_⟩
        clear HS g7 p7
        have HS := HS7
        clear HS7
        clear KS
        try simp only [Act.put, List.setIfInBounds_toArray, List.set_cons_zero, List.set_cons_succ]
        refine FirstH.only (i := 7) (by kernel_rfl) (by decide) inv (fun inv => wpOp_call (i := 7) rfl rfl 53 rfl _ rfl 10 #[.int .i64 E] (by unfold bareO; go_simp) (numW _ _) ?_)
        rintro e w' ⟨rfl, rfl⟩
        have HS' := HS
        refine ⟨_, rfl, HS', ?_⟩
        clear HS'
        try simp only [Act.put, List.setIfInBounds_toArray, List.set_cons_zero, List.set_cons_succ]
        have KD := setDW w7 r mo A c T x at_ RX.out D7.out
        rw [hE] at KD
        unfold K13.cs at KD
        refine FirstH.only (i := 13) (by kernel_rfl) (by decide) inv (fun inv => wpOp_call (i := 13) rfl rfl 59 rfl _ rfl 13 #[.pointer (some ⟨r, 0, none⟩), .agg #[.int .u8 x.k, .int .u8 x.pn, .int .u16 x.pl, .int .u8 x.x.n, .int .u16 x.x.l, .int .u32 x.x.s, .int .u8 x.x.d, .int .u8 x.x.a0, .int .u8 x.x.a1, .int .u8 x.x.b0, .int .u8 x.x.b1, .int .u8 x.x.c0, .int .u8 x.x.c1], .int .i64 at_] (by unfold bareO; go_simp) (KD) ?_)
        rintro e w9 ⟨rfl, A9, c9, T9, d9, q9, g9⟩
        have HS9 := box_grown HS g9 MRB.out.2
        have P9 := Lib.hid ((P7.out.grown g9 (by have := MB.out.2.2.1; simpa using this) (by have := MB.out.2.2.2; simpa using this)).perm q9)
        have B9 := Lib.hid (below_grown B7.out g9 (fun k e => by cases e; exact MB.out.2.1))
        have D9 := Lib.hid d9
        refine ⟨_, rfl, HS9, ?_⟩
        clear HS g9 d9
        have HS := HS9
        clear HS9
        clear KD q9 hE
        try simp only [Act.put, List.setIfInBounds_toArray, List.set_cons_zero, List.set_cons_succ]
        clear HS
        refine ⟨by kernel_rfl, ?_⟩
        simp only [List.drop_succ_cons, List.drop_zero]
        have LW := lenW w9 b m _ mo T9 P9.out
        have LD := lenD w9 r mo _ _ T9 D9.out
        have LP := Lib.hid (show PW w9 b m (k + 1) mo T9 from P9.out)
        obtain ⟨qq, hqq⟩ : ∃ q, T9.length = q := ⟨_, rfl⟩
        rw [hqq] at LW LD
        have LWH := Lib.hid LW
        have LDH := Lib.hid LD
        clear LW LD hqq
        go_wp2_with (first | (go_at_call 23; refine LWH.out.mono ?_; rintro e w' ⟨rfl, rfl⟩) | (go_at_call 24; refine LDH.out.mono ?_; rintro e w' ⟨rfl, rfl⟩))
        go_roundw
        case rel => exact ⟨k + 1, by go_num, by omega, _, _, _, LP, D9, B9⟩
        case measure => simp [intOf]; omega
      by_cases h3 : kd = 3
      · as_aux_lemma =>
        subst h3
        obtain ⟨wa, hwa⟩ : ∃ X, wr.alloc (.cells #[.int .i64 0, .int .i64 0, .int .u8 0, .int .u8 0, .int .u16 0, .int .u8 0, .int .u16 0, .int .u32 0, .int .u8 0, .int .u8 0, .int .u8 0, .int .u8 0, .int .u8 0, .int .u8 0, .int .u8 0] 40) = X := ⟨_, rfl⟩
        have ra : wa.heap[wr.heap.size]? = some (.cells #[.int .i64 0, .int .i64 0, .int .u8 0, .int .u8 0, .int .u16 0, .int .u8 0, .int .u16 0, .int .u32 0, .int .u8 0, .int .u8 0, .int .u8 0, .int .u8 0, .int .u8 0, .int .u8 0, .int .u8 0] 40 (0, 0)) := by rw [← hwa]; exact heap_alloc_new _ _
        obtain ⟨w4, hw4⟩ : ∃ X, wa.setRow wr.heap.size #[.int .i64 3, .int .i64 at_, .int .u8 x.k, .int .u8 x.pn, .int .u16 x.pl, .int .u8 x.x.n, .int .u16 x.x.l, .int .u32 x.x.s, .int .u8 x.x.d, .int .u8 x.x.a0, .int .u8 x.x.a1, .int .u8 x.x.b0, .int .u8 x.x.b1, .int .u8 x.x.c0, .int .u8 x.x.c1] = X := ⟨_, rfl⟩
        have b4 : Below wr.heap.size wr w4 := by rw [← hw4, ← hwa]; exact below_row ((Below.refl _ _).alloc (Nat.le_refl _) _) (Nat.le_refl _) _
        have r4 : w4.heap[wr.heap.size]? = some (.cells #[.int .i64 3, .int .i64 at_, .int .u8 x.k, .int .u8 x.pn, .int .u16 x.pl, .int .u8 x.x.n, .int .u16 x.x.l, .int .u32 x.x.s, .int .u8 x.x.d, .int .u8 x.x.a0, .int .u8 x.x.a1, .int .u8 x.x.b0, .int .u8 x.x.b1, .int .u8 x.x.c0, .int .u8 x.x.c1] 40 (0, 0)) := by rw [← hw4]; exact setRow_heap _ _ _ _ _ _ ra
        obtain ⟨bx, hbx⟩ : ∃ q, wr.heap.size = q := ⟨_, rfl⟩
        have MRB := Lib.hid (show m < bx ∧ r < bx by have := PJ.out.ml; have := DJ.out.rl; omega)
        have P4 := Lib.hid (PJ.out.below b4)
        have D4 := Lib.hid (DJ.out.below b4)
        have B4 := Lib.hid (BJ.out.trans (b4.mono BJ.out.size))
        rw [hbx] at r4 hw4 ra
        have R4 := Lib.hid r4
        have RA := Lib.hid ra
        have HWA := Lib.hid hwa
        have HW4 := Lib.hid hw4
        have HBX := Lib.hid hbx
        have kc := cell_of r4 0 _ rfl
        clear hwa ra hw4 b4 r4 hbx PJ DJ BJ
        go_wp2_with (first
          | (rw [HWA.out, HBX.out])
          | (refine wpList_store_row rfl 40 (.tmp 8) (.tmp 39) rfl bx #[.int .i64 3, .int .i64 at_, .int .u8 x.k, .int .u8 x.pn, .int .u16 x.pl, .int .u8 x.x.n, .int .u16 x.x.l, .int .u32 x.x.s, .int .u8 x.x.d, .int .u8 x.x.a0, .int .u8 x.x.a1, .int .u8 x.x.b0, .int .u8 x.x.b1, .int .u8 x.x.c0, .int .u8 x.x.c1] (by rfl) (by rfl) 40 #[.int .i64 0, .int .i64 0, .int .u8 0, .int .u8 0, .int .u16 0, .int .u8 0, .int .u16 0, .int .u32 0, .int .u8 0, .int .u8 0, .int .u8 0, .int .u8 0, .int .u8 0, .int .u8 0, .int .u8 0] RA.out (by kernel_rfl) rfl (by simp [Value.oneCell']) ?_; rw [HW4.out]; clear c0 c1 c2 c3 c4 c5 c6 c7 c8 c9 c10 c11 c12 c13 c14))
        obtain ⟨w5, hw5⟩ : ∃ X, w4.drew = X := ⟨_, rfl⟩
        have b5 : Below w4.heap.size w4 w5 := by rw [← hw5]; exact (Below.refl _ _).drew
        have P5 := Lib.hid (P4.out.below b5)
        have D5 := Lib.hid (D4.out.below b5)
        have B5 := Lib.hid (B4.out.trans (b5.mono B4.out.size))
        have R5 := Lib.hid (box_below R4.out b5)
        have HW5 := Lib.hid hw5
        clear hw5 b5
        refine region_heldT (S := fun X => X.heap[bx]? = some (.cells #[.int .i64 3, .int .i64 at_, .int .u8 x.k, .int .u8 x.pn, .int .u16 x.pl, .int .u8 x.x.n, .int .u16 x.x.l, .int .u32 x.x.s, .int .u8 x.x.d, .int .u8 x.x.a0, .int .u8 x.x.a1, .int .u8 x.x.b0, .int .u8 x.x.b1, .int .u8 x.x.c0, .int .u8 x.x.c1] 40 (0, 0))) 9 (by kernel_rfl) (by decide) (fun inv => ?_)
        change FirstH _ _ _ _ _ _ _ _ _ _ w4.drew
        rw [HW5.out]
        have HS := R5.out
        refine FirstH.go (i := 0) (v := .pointer (some ⟨b, 0, none⟩)) rfl rfl _ rfl _ rfl (by kernel_rfl) (fun _ _ _ h => h) inv (fun X _ => by unfold bareO; go_simp) HS (fun inv => ?_)
        try simp only [Act.put, List.setIfInBounds_toArray, List.set_cons_zero, List.set_cons_succ]
        refine FirstH.go (i := 1) (v := .pointer (some ⟨bx, 2, none⟩)) rfl rfl _ rfl _ rfl (by kernel_rfl) (fun _ _ _ h => h) inv (fun X _ => by unfold bareO; go_simp) HS (fun inv => ?_)
        try simp only [Act.put, List.setIfInBounds_toArray, List.set_cons_zero, List.set_cons_succ]
        refine FirstH.go (i := 2) (v := .agg #[.int .u8 x.k, .int .u8 x.pn, .int .u16 x.pl, .int .u8 x.x.n, .int .u16 x.x.l, .int .u32 x.x.s, .int .u8 x.x.d, .int .u8 x.x.a0, .int .u8 x.x.a1, .int .u8 x.x.b0, .int .u8 x.x.b1, .int .u8 x.x.c0, .int .u8 x.x.c1]) rfl rfl _ rfl _ rfl (by kernel_rfl) (fun _ _ _ h => h) inv (fun X hS => by have c0 := cell_of hS 2 _ rfl; have c1 := cell_of hS 3 _ rfl; have c2 := cell_of hS 4 _ rfl; have c3 := cell_of hS 5 _ rfl; have c4 := cell_of hS 6 _ rfl; have c5 := cell_of hS 7 _ rfl; have c6 := cell_of hS 8 _ rfl; have c7 := cell_of hS 9 _ rfl; have c8 := cell_of hS 10 _ rfl; have c9 := cell_of hS 11 _ rfl; have c10 := cell_of hS 12 _ rfl; have c11 := cell_of hS 13 _ rfl; have c12 := cell_of hS 14 _ rfl; unfold bareO; go_simp) HS (fun inv => ?_)
        try simp only [Act.put, List.setIfInBounds_toArray, List.set_cons_zero, List.set_cons_succ]
        refine FirstH.go (i := 5) (v := .pointer (some ⟨r, 0, none⟩)) rfl rfl _ rfl _ rfl (by kernel_rfl) (fun _ _ _ h => h) inv (fun X _ => by unfold bareO; go_simp) HS (fun inv => ?_)
        try simp only [Act.put, List.setIfInBounds_toArray, List.set_cons_zero, List.set_cons_succ]
        refine FirstH.go (i := 6) (v := .pointer (some ⟨bx, 2, none⟩)) rfl rfl _ rfl _ rfl (by kernel_rfl) (fun _ _ _ h => h) inv (fun X _ => by unfold bareO; go_simp) HS (fun inv => ?_)
        try simp only [Act.put, List.setIfInBounds_toArray, List.set_cons_zero, List.set_cons_succ]
        refine FirstH.go (i := 7) (v := .agg #[.int .u8 x.k, .int .u8 x.pn, .int .u16 x.pl, .int .u8 x.x.n, .int .u16 x.x.l, .int .u32 x.x.s, .int .u8 x.x.d, .int .u8 x.x.a0, .int .u8 x.x.a1, .int .u8 x.x.b0, .int .u8 x.x.b1, .int .u8 x.x.c0, .int .u8 x.x.c1]) rfl rfl _ rfl _ rfl (by kernel_rfl) (fun _ _ _ h => h) inv (fun X hS => by have c0 := cell_of hS 2 _ rfl; have c1 := cell_of hS 3 _ rfl; have c2 := cell_of hS 4 _ rfl; have c3 := cell_of hS 5 _ rfl; have c4 := cell_of hS 6 _ rfl; have c5 := cell_of hS 7 _ rfl; have c6 := cell_of hS 8 _ rfl; have c7 := cell_of hS 9 _ rfl; have c8 := cell_of hS 10 _ rfl; have c9 := cell_of hS 11 _ rfl; have c10 := cell_of hS 12 _ rfl; have c11 := cell_of hS 13 _ rfl; have c12 := cell_of hS 14 _ rfl; unfold bareO; go_simp) HS (fun inv => ?_)
        try simp only [Act.put, List.setIfInBounds_toArray, List.set_cons_zero, List.set_cons_succ]
        refine FirstH.only (i := 3) (by kernel_rfl) (by decide) inv (fun inv => wpOp_call (i := 3) rfl rfl 66 rfl _ rfl 12 #[.agg #[.int .u8 x.k, .int .u8 x.pn, .int .u16 x.pl, .int .u8 x.x.n, .int .u16 x.x.l, .int .u32 x.x.s, .int .u8 x.x.d, .int .u8 x.x.a0, .int .u8 x.x.a1, .int .u8 x.x.b0, .int .u8 x.x.b1, .int .u8 x.x.c0, .int .u8 x.x.c1]] (by unfold bareO; go_simp) (TK.out _) ?_)
        rintro e w6 ⟨rfl, b6⟩
        have HS6 := box_below HS b6
        have P6 := Lib.hid (P5.out.below b6)
        have D6 := Lib.hid (D5.out.below b6)
        have B6 := Lib.hid (B5.out.trans (b6.mono B5.out.size))
        refine ⟨_, rfl, HS6, ?_⟩
        clear HS b6
        have HS := HS6
        clear HS6
        try simp only [Act.put, List.setIfInBounds_toArray, List.set_cons_zero, List.set_cons_succ]
        have KS := cancelW w6 b m k mo T x RX.out P6.out
        obtain ⟨E, hE⟩ : ∃ E, (fAt T x).2 = E := ⟨_, rfl⟩
        rw [hE] at KS
        unfold K13.cs at KS
        refine FirstH.only (i := 4) (by kernel_rfl) (by decide) inv (fun inv => wpOp_call (i := 4) rfl rfl 67 rfl _ rfl 14 #[.pointer (some ⟨b, 0, none⟩), .agg #[.int .u8 x.k, .int .u8 x.pn, .int .u16 x.pl, .int .u8 x.x.n, .int .u16 x.x.l, .int .u32 x.x.s, .int .u8 x.x.d, .int .u8 x.x.a0, .int .u8 x.x.a1, .int .u8 x.x.b0, .int .u8 x.x.b1, .int .u8 x.x.c0, .int .u8 x.x.c1]] (by unfold bareO; go_simp) (KS) ?_)
        rintro e w7 ⟨rfl, p7, g7⟩
        have HS7 := box_grown HS g7 MRB.out.1
        have D7 := Lib.hid (D6.out.turn P6.out g7)
        have B7 := Lib.hid (below_grown B6.out g7 (fun k e => by cases e; exact MB.out.1))
        have P7 := Lib.hid p7
        refine ⟨_, rfl, HS7, ?_⟩
        clear HS g7 p7
        have HS := HS7
        clear HS7
        clear KS
        try simp only [Act.put, List.setIfInBounds_toArray, List.set_cons_zero, List.set_cons_succ]
        have KD := cancelD w7 r mo A c T x D7.out
        rw [hE] at KD
        unfold K13.cs at KD
        refine FirstH.only (i := 8) (by kernel_rfl) (by decide) inv (fun inv => wpOp_call (i := 8) rfl rfl 71 rfl _ rfl 15 #[.pointer (some ⟨r, 0, none⟩), .agg #[.int .u8 x.k, .int .u8 x.pn, .int .u16 x.pl, .int .u8 x.x.n, .int .u16 x.x.l, .int .u32 x.x.s, .int .u8 x.x.d, .int .u8 x.x.a0, .int .u8 x.x.a1, .int .u8 x.x.b0, .int .u8 x.x.b1, .int .u8 x.x.c0, .int .u8 x.x.c1]] (by unfold bareO; go_simp) (KD) ?_)
        rintro e w9 ⟨rfl, A9, c9, d9, g9⟩
        have HS9 := box_grown HS g9 MRB.out.2
        have P9 := Lib.hid ((P7.out.grown g9 (by have := MB.out.2.2.1; simpa using this) (by have := MB.out.2.2.2; simpa using this)))
        have B9 := Lib.hid (below_grown B7.out g9 (fun k e => by cases e; exact MB.out.2.1))
        have D9 := Lib.hid d9
        refine ⟨_, rfl, HS9, ?_⟩
        clear HS g9 d9
        have HS := HS9
        clear HS9
        clear KD hE
        try simp only [Act.put, List.setIfInBounds_toArray, List.set_cons_zero, List.set_cons_succ]
        clear HS
        refine ⟨by kernel_rfl, ?_⟩
        simp only [List.drop_succ_cons, List.drop_zero]
        have LW := lenW w9 b m _ mo (outK T x) P9.out
        have LD := lenD w9 r mo _ _ (outK T x) D9.out
        have LP := Lib.hid (show PW w9 b m (k + 1) mo (outK T x) from P9.out.mono (by omega))
        obtain ⟨qq, hqq⟩ : ∃ q, (outK T x).length = q := ⟨_, rfl⟩
        rw [hqq] at LW LD
        have LWH := Lib.hid LW
        have LDH := Lib.hid LD
        clear LW LD hqq
        go_wp2_with (first | (go_at_call 23; refine LWH.out.mono ?_; rintro e w' ⟨rfl, rfl⟩) | (go_at_call 24; refine LDH.out.mono ?_; rintro e w' ⟨rfl, rfl⟩))
        go_roundw
        case rel => exact ⟨k + 1, by go_num, by omega, _, _, _, LP, D9, B9⟩
        case measure => simp [intOf]; omega
      by_cases h4 : kd = 4
      · as_aux_lemma =>
        subst h4
        obtain ⟨⟨e1, e2⟩, hE⟩ : ∃ E : Int × Bool, fAt T x = E := ⟨_, rfl⟩
        obtain ⟨wa, hwa⟩ : ∃ X, wr.alloc (.cells #[.int .i64 0, .int .i64 0, .int .u8 0, .int .u8 0, .int .u16 0, .int .u8 0, .int .u16 0, .int .u32 0, .int .u8 0, .int .u8 0, .int .u8 0, .int .u8 0, .int .u8 0, .int .u8 0, .int .u8 0] 40) = X := ⟨_, rfl⟩
        have ra : wa.heap[wr.heap.size]? = some (.cells #[.int .i64 0, .int .i64 0, .int .u8 0, .int .u8 0, .int .u16 0, .int .u8 0, .int .u16 0, .int .u32 0, .int .u8 0, .int .u8 0, .int .u8 0, .int .u8 0, .int .u8 0, .int .u8 0, .int .u8 0] 40 (0, 0)) := by rw [← hwa]; exact heap_alloc_new _ _
        obtain ⟨w4, hw4⟩ : ∃ X, wa.setRow wr.heap.size #[.int .i64 4, .int .i64 at_, .int .u8 x.k, .int .u8 x.pn, .int .u16 x.pl, .int .u8 x.x.n, .int .u16 x.x.l, .int .u32 x.x.s, .int .u8 x.x.d, .int .u8 x.x.a0, .int .u8 x.x.a1, .int .u8 x.x.b0, .int .u8 x.x.b1, .int .u8 x.x.c0, .int .u8 x.x.c1] = X := ⟨_, rfl⟩
        have b4 : Below wr.heap.size wr w4 := by rw [← hw4, ← hwa]; exact below_row ((Below.refl _ _).alloc (Nat.le_refl _) _) (Nat.le_refl _) _
        have r4 : w4.heap[wr.heap.size]? = some (.cells #[.int .i64 4, .int .i64 at_, .int .u8 x.k, .int .u8 x.pn, .int .u16 x.pl, .int .u8 x.x.n, .int .u16 x.x.l, .int .u32 x.x.s, .int .u8 x.x.d, .int .u8 x.x.a0, .int .u8 x.x.a1, .int .u8 x.x.b0, .int .u8 x.x.b1, .int .u8 x.x.c0, .int .u8 x.x.c1] 40 (0, 0)) := by rw [← hw4]; exact setRow_heap _ _ _ _ _ _ ra
        obtain ⟨bx, hbx⟩ : ∃ q, wr.heap.size = q := ⟨_, rfl⟩
        have MRB := Lib.hid (show m < bx ∧ r < bx by have := PJ.out.ml; have := DJ.out.rl; omega)
        have P4 := Lib.hid (PJ.out.below b4)
        have D4 := Lib.hid (DJ.out.below b4)
        have B4 := Lib.hid (BJ.out.trans (b4.mono BJ.out.size))
        rw [hbx] at r4 hw4 ra
        have R4 := Lib.hid r4
        have RA := Lib.hid ra
        have HWA := Lib.hid hwa
        have HW4 := Lib.hid hw4
        have HBX := Lib.hid hbx
        have kc := cell_of r4 0 _ rfl
        clear hwa ra hw4 b4 r4 hbx PJ DJ BJ
        go_wp2_with (first
          | (rw [HWA.out, HBX.out])
          | (refine wpList_store_row rfl 40 (.tmp 8) (.tmp 39) rfl bx #[.int .i64 4, .int .i64 at_, .int .u8 x.k, .int .u8 x.pn, .int .u16 x.pl, .int .u8 x.x.n, .int .u16 x.x.l, .int .u32 x.x.s, .int .u8 x.x.d, .int .u8 x.x.a0, .int .u8 x.x.a1, .int .u8 x.x.b0, .int .u8 x.x.b1, .int .u8 x.x.c0, .int .u8 x.x.c1] (by rfl) (by rfl) 40 #[.int .i64 0, .int .i64 0, .int .u8 0, .int .u8 0, .int .u16 0, .int .u8 0, .int .u16 0, .int .u32 0, .int .u8 0, .int .u8 0, .int .u8 0, .int .u8 0, .int .u8 0, .int .u8 0, .int .u8 0] RA.out (by kernel_rfl) rfl (by simp [Value.oneCell']) ?_; rw [HW4.out]; clear c0 c1 c2 c3 c4 c5 c6 c7 c8 c9 c10 c11 c12 c13 c14; have r4x := R4.out; have c0 := cell_of r4x 2 _ rfl; have c1 := cell_of r4x 3 _ rfl; have c2 := cell_of r4x 4 _ rfl; have c3 := cell_of r4x 5 _ rfl; have c4 := cell_of r4x 6 _ rfl; have c5 := cell_of r4x 7 _ rfl; have c6 := cell_of r4x 8 _ rfl; have c7 := cell_of r4x 9 _ rfl; have c8 := cell_of r4x 10 _ rfl; have c9 := cell_of r4x 11 _ rfl; have c10 := cell_of r4x 12 _ rfl; have c11 := cell_of r4x 13 _ rfl; have c12 := cell_of r4x 14 _ rfl; clear r4x))
        refine (TK.out _).mono ?_
        rintro e w5 ⟨rfl, b5⟩
        clear c0 c1 c2 c3 c4 c5 c6 c7 c8 c9 c10 c11 c12
        have P5 := Lib.hid (P4.out.below b5)
        have D5 := Lib.hid (D4.out.below b5)
        have B5 := Lib.hid (B4.out.trans (b5.mono B4.out.size))
        have R5 := Lib.hid (box_below R4.out b5)
        clear b5
        have KS := atW w5 b m k mo T x RX.out P5.out
        rw [hE] at KS
        unfold K13.cs at KS
        have KSH := Lib.hid KS
        clear KS
        go_wp2_with fail
        refine KSH.out.mono ?_
        rintro e w6 ⟨rfl, b6⟩
        have P6 := Lib.hid (P5.out.below b6)
        have D6 := Lib.hid (D5.out.below b6)
        have B6 := Lib.hid (B5.out.trans (b6.mono B5.out.size))
        have R6 := Lib.hid (box_below R5.out b6)
        clear b6
        have KD := atD w6 r mo A c T x D6.out
        rw [hE] at KD
        unfold K13.cs at KD
        have KDH := Lib.hid KD
        clear KD
        have r6' := R6.out
        have c0 := cell_of r6' 2 _ rfl
        have c1 := cell_of r6' 3 _ rfl
        have c2 := cell_of r6' 4 _ rfl
        have c3 := cell_of r6' 5 _ rfl
        have c4 := cell_of r6' 6 _ rfl
        have c5 := cell_of r6' 7 _ rfl
        have c6 := cell_of r6' 8 _ rfl
        have c7 := cell_of r6' 9 _ rfl
        have c8 := cell_of r6' 10 _ rfl
        have c9 := cell_of r6' 11 _ rfl
        have c10 := cell_of r6' 12 _ rfl
        have c11 := cell_of r6' 13 _ rfl
        have c12 := cell_of r6' 14 _ rfl
        clear r6'
        go_wp2_with fail
        refine KDH.out.mono ?_
        rintro e w7 ⟨rfl, b7⟩
        clear c0 c1 c2 c3 c4 c5 c6 c7 c8 c9 c10 c11 c12
        have P7 := Lib.hid (P6.out.below b7)
        have D7 := Lib.hid (D6.out.below b7)
        have B7 := Lib.hid (B6.out.trans (b7.mono B6.out.size))
        have R7 := Lib.hid (box_below R6.out b7)
        clear b7
        have LW := lenW w7 b m _ mo T P7.out
        have LD := lenD w7 r mo _ _ T D7.out
        have LP := Lib.hid (show PW w7 b m (k + 1) mo T from P7.out.mono (by omega))
        obtain ⟨qq, hqq⟩ : ∃ q, T.length = q := ⟨_, rfl⟩
        rw [hqq] at LW LD
        have LWH := Lib.hid LW
        have LDH := Lib.hid LD
        clear LW LD hqq
        go_wp2_with (first | (go_at_call 23; refine LWH.out.mono ?_; rintro e w' ⟨rfl, rfl⟩) | (go_at_call 24; refine LDH.out.mono ?_; rintro e w' ⟨rfl, rfl⟩))
        go_roundw
        case rel => exact ⟨k + 1, by go_num, by omega, _, _, _, LP, D7, B7⟩
        case measure => simp [intOf]; omega
      by_cases h5 : kd = 5
      · as_aux_lemma =>
        subst h5
        obtain ⟨wa, hwa⟩ : ∃ X, wr.alloc (.cells #[.int .i64 0, .int .i64 0, .int .u8 0, .int .u8 0, .int .u16 0, .int .u8 0, .int .u16 0, .int .u32 0, .int .u8 0, .int .u8 0, .int .u8 0, .int .u8 0, .int .u8 0, .int .u8 0, .int .u8 0] 40) = X := ⟨_, rfl⟩
        have ra : wa.heap[wr.heap.size]? = some (.cells #[.int .i64 0, .int .i64 0, .int .u8 0, .int .u8 0, .int .u16 0, .int .u8 0, .int .u16 0, .int .u32 0, .int .u8 0, .int .u8 0, .int .u8 0, .int .u8 0, .int .u8 0, .int .u8 0, .int .u8 0] 40 (0, 0)) := by rw [← hwa]; exact heap_alloc_new _ _
        obtain ⟨w4, hw4⟩ : ∃ X, wa.setRow wr.heap.size #[.int .i64 5, .int .i64 at_, .int .u8 x.k, .int .u8 x.pn, .int .u16 x.pl, .int .u8 x.x.n, .int .u16 x.x.l, .int .u32 x.x.s, .int .u8 x.x.d, .int .u8 x.x.a0, .int .u8 x.x.a1, .int .u8 x.x.b0, .int .u8 x.x.b1, .int .u8 x.x.c0, .int .u8 x.x.c1] = X := ⟨_, rfl⟩
        have b4 : Below wr.heap.size wr w4 := by rw [← hw4, ← hwa]; exact below_row ((Below.refl _ _).alloc (Nat.le_refl _) _) (Nat.le_refl _) _
        have r4 : w4.heap[wr.heap.size]? = some (.cells #[.int .i64 5, .int .i64 at_, .int .u8 x.k, .int .u8 x.pn, .int .u16 x.pl, .int .u8 x.x.n, .int .u16 x.x.l, .int .u32 x.x.s, .int .u8 x.x.d, .int .u8 x.x.a0, .int .u8 x.x.a1, .int .u8 x.x.b0, .int .u8 x.x.b1, .int .u8 x.x.c0, .int .u8 x.x.c1] 40 (0, 0)) := by rw [← hw4]; exact setRow_heap _ _ _ _ _ _ ra
        obtain ⟨bx, hbx⟩ : ∃ q, wr.heap.size = q := ⟨_, rfl⟩
        have MRB := Lib.hid (show m < bx ∧ r < bx by have := PJ.out.ml; have := DJ.out.rl; omega)
        have P4 := Lib.hid (PJ.out.below b4)
        have D4 := Lib.hid (DJ.out.below b4)
        have B4 := Lib.hid (BJ.out.trans (b4.mono BJ.out.size))
        rw [hbx] at r4 hw4 ra
        have R4 := Lib.hid r4
        have RA := Lib.hid ra
        have HWA := Lib.hid hwa
        have HW4 := Lib.hid hw4
        have HBX := Lib.hid hbx
        have kc := cell_of r4 0 _ rfl
        clear hwa ra hw4 b4 r4 hbx PJ DJ BJ
        go_wp2_with (first
          | (rw [HWA.out, HBX.out])
          | (refine wpList_store_row rfl 40 (.tmp 8) (.tmp 39) rfl bx #[.int .i64 5, .int .i64 at_, .int .u8 x.k, .int .u8 x.pn, .int .u16 x.pl, .int .u8 x.x.n, .int .u16 x.x.l, .int .u32 x.x.s, .int .u8 x.x.d, .int .u8 x.x.a0, .int .u8 x.x.a1, .int .u8 x.x.b0, .int .u8 x.x.b1, .int .u8 x.x.c0, .int .u8 x.x.c1] (by rfl) (by rfl) 40 #[.int .i64 0, .int .i64 0, .int .u8 0, .int .u8 0, .int .u16 0, .int .u8 0, .int .u16 0, .int .u32 0, .int .u8 0, .int .u8 0, .int .u8 0, .int .u8 0, .int .u8 0, .int .u8 0, .int .u8 0] RA.out (by kernel_rfl) rfl (by simp [Value.oneCell']) ?_; rw [HW4.out]; clear c0 c1 c2 c3 c4 c5 c6 c7 c8 c9 c10 c11 c12 c13 c14))
        obtain ⟨w5, hw5⟩ : ∃ X, w4.drew = X := ⟨_, rfl⟩
        have b5 : Below w4.heap.size w4 w5 := by rw [← hw5]; exact (Below.refl _ _).drew
        have P5 := Lib.hid (P4.out.below b5)
        have D5 := Lib.hid (D4.out.below b5)
        have B5 := Lib.hid (B4.out.trans (b5.mono B4.out.size))
        have R5 := Lib.hid (box_below R4.out b5)
        have HW5 := Lib.hid hw5
        clear hw5 b5
        refine region_heldT (S := fun X => X.heap[bx]? = some (.cells #[.int .i64 5, .int .i64 at_, .int .u8 x.k, .int .u8 x.pn, .int .u16 x.pl, .int .u8 x.x.n, .int .u16 x.x.l, .int .u32 x.x.s, .int .u8 x.x.d, .int .u8 x.x.a0, .int .u8 x.x.a1, .int .u8 x.x.b0, .int .u8 x.x.b1, .int .u8 x.x.c0, .int .u8 x.x.c1] 40 (0, 0))) 9 (by kernel_rfl) (by decide) (fun inv => ?_)
        change FirstH _ _ _ _ _ _ _ _ _ _ w4.drew
        rw [HW5.out]
        have HS := R5.out
        refine FirstH.go (i := 0) (v := .pointer (some ⟨b, 0, none⟩)) rfl rfl _ rfl _ rfl (by kernel_rfl) (fun _ _ _ h => h) inv (fun X _ => by unfold bareO; go_simp) HS (fun inv => ?_)
        try simp only [Act.put, List.setIfInBounds_toArray, List.set_cons_zero, List.set_cons_succ]
        refine FirstH.go (i := 1) (v := .pointer (some ⟨bx, 1, none⟩)) rfl rfl _ rfl _ rfl (by kernel_rfl) (fun _ _ _ h => h) inv (fun X _ => by unfold bareO; go_simp) HS (fun inv => ?_)
        try simp only [Act.put, List.setIfInBounds_toArray, List.set_cons_zero, List.set_cons_succ]
        refine FirstH.go (i := 2) (v := .int .i64 at_) rfl rfl _ rfl _ rfl (by kernel_rfl) (fun _ _ _ h => h) inv (fun X hS => by have c1 := cell_of hS 1 _ rfl; unfold bareO; go_simp) HS (fun inv => ?_)
        try simp only [Act.put, List.setIfInBounds_toArray, List.set_cons_zero, List.set_cons_succ]
        refine FirstH.go (i := 4) (v := .pointer (some ⟨r, 0, none⟩)) rfl rfl _ rfl _ rfl (by kernel_rfl) (fun _ _ _ h => h) inv (fun X _ => by unfold bareO; go_simp) HS (fun inv => ?_)
        try simp only [Act.put, List.setIfInBounds_toArray, List.set_cons_zero, List.set_cons_succ]
        refine FirstH.go (i := 5) (v := .pointer (some ⟨bx, 1, none⟩)) rfl rfl _ rfl _ rfl (by kernel_rfl) (fun _ _ _ h => h) inv (fun X _ => by unfold bareO; go_simp) HS (fun inv => ?_)
        try simp only [Act.put, List.setIfInBounds_toArray, List.set_cons_zero, List.set_cons_succ]
        refine FirstH.go (i := 6) (v := .int .i64 at_) rfl rfl _ rfl _ rfl (by kernel_rfl) (fun _ _ _ h => h) inv (fun X hS => by have c1 := cell_of hS 1 _ rfl; unfold bareO; go_simp) HS (fun inv => ?_)
        try simp only [Act.put, List.setIfInBounds_toArray, List.set_cons_zero, List.set_cons_succ]
        have KS := dueW w5 b m k mo T at_ P5.out (by have := D5.out.few; have := D5.out.most; omega)
        refine FirstH.only (i := 3) (by kernel_rfl) (by decide) inv (fun inv => wpOp_call (i := 3) rfl rfl 103 rfl _ rfl 19 #[.pointer (some ⟨b, 0, none⟩), .int .i64 at_] (by unfold bareO; go_simp) (KS) ?_)
        rintro e w7 ⟨v7, S, rfl, hp, hs, o7, p7, g7⟩
        obtain rfl := due_uniq D5.out.rng D5.out.srt hp hs
        have OP := Lib.hid o7
        clear hp hs o7
        have HS7 := box_grown HS g7 MRB.out.1
        have D7 := Lib.hid (D5.out.turn P5.out g7)
        have B7 := Lib.hid (below_grown B5.out g7 (fun k e => by cases e; exact MB.out.1))
        have P7 := Lib.hid p7
        refine ⟨_, rfl, HS7, ?_⟩
        clear HS g7 p7
        have HS := HS7
        clear HS7
        clear KS
        try simp only [Act.put, List.setIfInBounds_toArray, List.set_cons_zero, List.set_cons_succ]
        have KD := dueD w7 r mo A c T at_ D7.out
        refine FirstH.only (i := 7) (by kernel_rfl) (by decide) inv (fun inv => wpOp_call (i := 7) rfl rfl 107 rfl _ rfl 20 #[.pointer (some ⟨r, 0, none⟩), .int .i64 at_] (by unfold bareO; go_simp) (KD) ?_)
        rintro e w9 ⟨v9, rfl, o9, ⟨A9, c9, d9⟩, g9⟩
        have OP9 := own_grown OP.out g9 (fun k e => by cases e; exact D5.out.rl)
        obtain ⟨A1, c1, rfl, l1, _, k1⟩ := rowE_at OP9 rfl
        obtain ⟨A2, c2, rfl, l2, _, k2⟩ := rowE_at o9 rfl
        have KM := sameW w9 A1 A2 _ c1 c2 ((due at_ T).map (·.k)) (by simp) l1 l2 (by have := D5.out.few; have := D5.out.most; have : (due at_ T).length ≤ T.length := List.length_filter_le _ _; omega) (fun y hy => by obtain ⟨t, ht, rfl⟩ := List.mem_map.1 hy; exact D5.out.rng t (List.mem_filter.1 ht).1) k1 k2
        clear o9 OP9 l1 l2 k1 k2
        have HS9 := box_grown HS g9 MRB.out.2
        have P9 := Lib.hid ((P7.out.grown g9 (by have := MB.out.2.2.1; simpa using this) (by have := MB.out.2.2.2; simpa using this)))
        have B9 := Lib.hid (below_grown B7.out g9 (fun k e => by cases e; exact MB.out.2.1))
        have D9 := Lib.hid d9
        refine ⟨_, rfl, HS9, ?_⟩
        clear HS g9 d9
        have HS := HS9
        clear HS9
        clear KD OP
        try simp only [Act.put, List.setIfInBounds_toArray, List.set_cons_zero, List.set_cons_succ]
        refine FirstH.only (i := 8) (by kernel_rfl) (by decide) inv (fun inv => wpOp_call (i := 8) rfl rfl 108 rfl _ rfl 18 #[.slice A1 (due at_ T).length c1, .slice A2 (due at_ T).length c2] (by unfold bareO; go_simp) (KM) ?_)
        rintro e w10 ⟨rfl, b10⟩
        have HS10 := box_below HS b10
        have P10 := Lib.hid (P9.out.below b10)
        have D10 := Lib.hid (D9.out.below b10)
        have B10 := Lib.hid (B9.out.trans (b10.mono B9.out.size))
        refine ⟨_, rfl, HS10, ?_⟩
        clear HS b10
        have HS := HS10
        clear HS10
        clear KM
        try simp only [Act.put, List.setIfInBounds_toArray, List.set_cons_zero, List.set_cons_succ]
        clear HS
        refine ⟨by kernel_rfl, ?_⟩
        simp only [List.drop_succ_cons, List.drop_zero]
        have LW := lenW w10 b m _ mo (late at_ T) P10.out
        have LD := lenD w10 r mo _ _ (late at_ T) D10.out
        have LP := Lib.hid (show PW w10 b m (k + 1) mo (late at_ T) from P10.out.mono (by omega))
        obtain ⟨qq, hqq⟩ : ∃ q, (late at_ T).length = q := ⟨_, rfl⟩
        rw [hqq] at LW LD
        have LWH := Lib.hid LW
        have LDH := Lib.hid LD
        clear LW LD hqq
        go_wp2_with (first | (go_at_call 23; refine LWH.out.mono ?_; rintro e w' ⟨rfl, rfl⟩) | (go_at_call 24; refine LDH.out.mono ?_; rintro e w' ⟨rfl, rfl⟩))
        go_roundw
        case rel => exact ⟨k + 1, by go_num, by omega, _, _, _, LP, D10, B10⟩
        case measure => simp [intOf]; omega
      by_cases h6 : kd = 6
      · as_aux_lemma =>
        subst h6
        obtain ⟨wa, hwa⟩ : ∃ X, wr.alloc (.cells #[.int .i64 0, .int .i64 0, .int .u8 0, .int .u8 0, .int .u16 0, .int .u8 0, .int .u16 0, .int .u32 0, .int .u8 0, .int .u8 0, .int .u8 0, .int .u8 0, .int .u8 0, .int .u8 0, .int .u8 0] 40) = X := ⟨_, rfl⟩
        have ra : wa.heap[wr.heap.size]? = some (.cells #[.int .i64 0, .int .i64 0, .int .u8 0, .int .u8 0, .int .u16 0, .int .u8 0, .int .u16 0, .int .u32 0, .int .u8 0, .int .u8 0, .int .u8 0, .int .u8 0, .int .u8 0, .int .u8 0, .int .u8 0] 40 (0, 0)) := by rw [← hwa]; exact heap_alloc_new _ _
        obtain ⟨w4, hw4⟩ : ∃ X, wa.setRow wr.heap.size #[.int .i64 6, .int .i64 at_, .int .u8 x.k, .int .u8 x.pn, .int .u16 x.pl, .int .u8 x.x.n, .int .u16 x.x.l, .int .u32 x.x.s, .int .u8 x.x.d, .int .u8 x.x.a0, .int .u8 x.x.a1, .int .u8 x.x.b0, .int .u8 x.x.b1, .int .u8 x.x.c0, .int .u8 x.x.c1] = X := ⟨_, rfl⟩
        have b4 : Below wr.heap.size wr w4 := by rw [← hw4, ← hwa]; exact below_row ((Below.refl _ _).alloc (Nat.le_refl _) _) (Nat.le_refl _) _
        have r4 : w4.heap[wr.heap.size]? = some (.cells #[.int .i64 6, .int .i64 at_, .int .u8 x.k, .int .u8 x.pn, .int .u16 x.pl, .int .u8 x.x.n, .int .u16 x.x.l, .int .u32 x.x.s, .int .u8 x.x.d, .int .u8 x.x.a0, .int .u8 x.x.a1, .int .u8 x.x.b0, .int .u8 x.x.b1, .int .u8 x.x.c0, .int .u8 x.x.c1] 40 (0, 0)) := by rw [← hw4]; exact setRow_heap _ _ _ _ _ _ ra
        obtain ⟨bx, hbx⟩ : ∃ q, wr.heap.size = q := ⟨_, rfl⟩
        have MRB := Lib.hid (show m < bx ∧ r < bx by have := PJ.out.ml; have := DJ.out.rl; omega)
        have P4 := Lib.hid (PJ.out.below b4)
        have D4 := Lib.hid (DJ.out.below b4)
        have B4 := Lib.hid (BJ.out.trans (b4.mono BJ.out.size))
        rw [hbx] at r4 hw4 ra
        have R4 := Lib.hid r4
        have RA := Lib.hid ra
        have HWA := Lib.hid hwa
        have HW4 := Lib.hid hw4
        have HBX := Lib.hid hbx
        have kc := cell_of r4 0 _ rfl
        clear hwa ra hw4 b4 r4 hbx PJ DJ BJ
        go_wp2_with (first
          | (rw [HWA.out, HBX.out])
          | (refine wpList_store_row rfl 40 (.tmp 8) (.tmp 39) rfl bx #[.int .i64 6, .int .i64 at_, .int .u8 x.k, .int .u8 x.pn, .int .u16 x.pl, .int .u8 x.x.n, .int .u16 x.x.l, .int .u32 x.x.s, .int .u8 x.x.d, .int .u8 x.x.a0, .int .u8 x.x.a1, .int .u8 x.x.b0, .int .u8 x.x.b1, .int .u8 x.x.c0, .int .u8 x.x.c1] (by rfl) (by rfl) 40 #[.int .i64 0, .int .i64 0, .int .u8 0, .int .u8 0, .int .u16 0, .int .u8 0, .int .u16 0, .int .u32 0, .int .u8 0, .int .u8 0, .int .u8 0, .int .u8 0, .int .u8 0, .int .u8 0, .int .u8 0] RA.out (by kernel_rfl) rfl (by simp [Value.oneCell']) ?_; rw [HW4.out]; clear c0 c1 c2 c3 c4 c5 c6 c7 c8 c9 c10 c11 c12 c13 c14))
        have KS := Lib.hid (nextW w4 b m k mo T P4.out)
        go_wp2_with fail
        refine KS.out.mono ?_
        rintro e w5 ⟨l5, f5, rfl, q5, b5⟩
        have Q5 := Lib.hid q5
        clear q5 KS
        have P5 := Lib.hid (P4.out.below b5)
        have D5 := Lib.hid (D4.out.below b5)
        have B5 := Lib.hid (B4.out.trans (b5.mono B4.out.size))
        have R5 := Lib.hid (box_below R4.out b5)
        clear b5
        have KD := Lib.hid (nextD w5 r mo A c T D5.out)
        go_wp2_with fail
        refine KD.out.mono ?_
        rintro e w6 ⟨l6, f6, rfl, q6, b6⟩
        obtain ⟨rfl, rfl⟩ := Q5.out.uniq q6
        clear q6 KD Q5
        have P6 := Lib.hid (P5.out.below b6)
        have D6 := Lib.hid (D5.out.below b6)
        have B6 := Lib.hid (B5.out.trans (b6.mono B5.out.size))
        have R6 := Lib.hid (box_below R5.out b6)
        clear b6
        have LW := lenW w6 b m _ mo T P6.out
        have LD := lenD w6 r mo _ _ T D6.out
        have LP := Lib.hid (show PW w6 b m (k + 1) mo T from P6.out.mono (by omega))
        obtain ⟨qq, hqq⟩ : ∃ q, T.length = q := ⟨_, rfl⟩
        rw [hqq] at LW LD
        have LWH := Lib.hid LW
        have LDH := Lib.hid LD
        clear LW LD hqq
        go_wp2_with (first | (go_at_call 23; refine LWH.out.mono ?_; rintro e w' ⟨rfl, rfl⟩) | (go_at_call 24; refine LDH.out.mono ?_; rintro e w' ⟨rfl, rfl⟩))
        go_roundw
        case rel => exact ⟨k + 1, by go_num, by omega, _, _, _, LP, D6, B6⟩
        case measure => simp [intOf]; omega
      as_aux_lemma =>
        obtain ⟨wa, hwa⟩ : ∃ X, wr.alloc (.cells #[.int .i64 0, .int .i64 0, .int .u8 0, .int .u8 0, .int .u16 0, .int .u8 0, .int .u16 0, .int .u32 0, .int .u8 0, .int .u8 0, .int .u8 0, .int .u8 0, .int .u8 0, .int .u8 0, .int .u8 0] 40) = X := ⟨_, rfl⟩
        have ra : wa.heap[wr.heap.size]? = some (.cells #[.int .i64 0, .int .i64 0, .int .u8 0, .int .u8 0, .int .u16 0, .int .u8 0, .int .u16 0, .int .u32 0, .int .u8 0, .int .u8 0, .int .u8 0, .int .u8 0, .int .u8 0, .int .u8 0, .int .u8 0] 40 (0, 0)) := by rw [← hwa]; exact heap_alloc_new _ _
        obtain ⟨w4, hw4⟩ : ∃ X, wa.setRow wr.heap.size #[.int .i64 kd, .int .i64 at_, .int .u8 x.k, .int .u8 x.pn, .int .u16 x.pl, .int .u8 x.x.n, .int .u16 x.x.l, .int .u32 x.x.s, .int .u8 x.x.d, .int .u8 x.x.a0, .int .u8 x.x.a1, .int .u8 x.x.b0, .int .u8 x.x.b1, .int .u8 x.x.c0, .int .u8 x.x.c1] = X := ⟨_, rfl⟩
        have b4 : Below wr.heap.size wr w4 := by rw [← hw4, ← hwa]; exact below_row ((Below.refl _ _).alloc (Nat.le_refl _) _) (Nat.le_refl _) _
        have r4 : w4.heap[wr.heap.size]? = some (.cells #[.int .i64 kd, .int .i64 at_, .int .u8 x.k, .int .u8 x.pn, .int .u16 x.pl, .int .u8 x.x.n, .int .u16 x.x.l, .int .u32 x.x.s, .int .u8 x.x.d, .int .u8 x.x.a0, .int .u8 x.x.a1, .int .u8 x.x.b0, .int .u8 x.x.b1, .int .u8 x.x.c0, .int .u8 x.x.c1] 40 (0, 0)) := by rw [← hw4]; exact setRow_heap _ _ _ _ _ _ ra
        obtain ⟨bx, hbx⟩ : ∃ q, wr.heap.size = q := ⟨_, rfl⟩
        have MRB := Lib.hid (show m < bx ∧ r < bx by have := PJ.out.ml; have := DJ.out.rl; omega)
        have P4 := Lib.hid (PJ.out.below b4)
        have D4 := Lib.hid (DJ.out.below b4)
        have B4 := Lib.hid (BJ.out.trans (b4.mono BJ.out.size))
        rw [hbx] at r4 hw4 ra
        have R4 := Lib.hid r4
        have RA := Lib.hid ra
        have HWA := Lib.hid hwa
        have HW4 := Lib.hid hw4
        have HBX := Lib.hid hbx
        have kc := cell_of r4 0 _ rfl
        clear hwa ra hw4 b4 r4 hbx PJ DJ BJ
        go_wp2_with (first
          | (rw [HWA.out, HBX.out])
          | (refine wpList_store_row rfl 40 (.tmp 8) (.tmp 39) rfl bx #[.int .i64 kd, .int .i64 at_, .int .u8 x.k, .int .u8 x.pn, .int .u16 x.pl, .int .u8 x.x.n, .int .u16 x.x.l, .int .u32 x.x.s, .int .u8 x.x.d, .int .u8 x.x.a0, .int .u8 x.x.a1, .int .u8 x.x.b0, .int .u8 x.x.b1, .int .u8 x.x.c0, .int .u8 x.x.c1] (by rfl) (by rfl) 40 #[.int .i64 0, .int .i64 0, .int .u8 0, .int .u8 0, .int .u16 0, .int .u8 0, .int .u16 0, .int .u32 0, .int .u8 0, .int .u8 0, .int .u8 0, .int .u8 0, .int .u8 0, .int .u8 0, .int .u8 0] RA.out (by kernel_rfl) rfl (by simp [Value.oneCell']) ?_; rw [HW4.out]; clear c0 c1 c2 c3 c4 c5 c6 c7 c8 c9 c10 c11 c12 c13 c14))
        have LW := lenW w4 b m _ mo T P4.out
        have LD := lenD w4 r mo _ _ T D4.out
        have LP := Lib.hid (show PW w4 b m (k + 1) mo T from P4.out.mono (by omega))
        obtain ⟨qq, hqq⟩ : ∃ q, T.length = q := ⟨_, rfl⟩
        rw [hqq] at LW LD
        have LWH := Lib.hid LW
        have LDH := Lib.hid LD
        clear LW LD hqq
        go_wp2_with (first | (go_at_call 23; refine LWH.out.mono ?_; rintro e w' ⟨rfl, rfl⟩) | (go_at_call 24; refine LDH.out.mono ?_; rintro e w' ⟨rfl, rfl⟩))
        go_roundw
        case rel => exact ⟨k + 1, by go_num, by omega, _, _, _, LP, D4, B4⟩
        case measure => simp [intOf]; omega
    · obtain rfl : k = n := by omega
      go_wp2
      go_ret
      exact ⟨rfl, BJ.out⟩

end Go.Proofs.Ytfekkfphogjpeaa
