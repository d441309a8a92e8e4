/-
  The law's knows: it answers true. No condition.
-/
import Derived.Test.YtjdmjiikpnlkjaaRol
namespace Go.Proofs.Ytjdmjiikpnlkjaa
set_option linter.unusedSimpArgs false
set_option linter.unusedVariables false
open Go.RowKit Go.Maps Go.Sort
open V (P2)

def d3 : Rd := newD 0 1 (mem 3) (pr 0) []
def d3a : Rd := d3.addD true (killV 1)
def d3b : Rd := d3a.acked (pr 2) 1
theorem d3_add : d3.addC true = 0 := by kernel_rfl
theorem d3a_com : (d3a.commit : Int) = 0 := by kernel_rfl
theorem d3b_com : (d3b.commit : Int) = 1 := by kernel_rfl
theorem d3b_len : (d3b.L.length : Int) = 1 := by kernel_rfl
theorem d3b_shut : d3b.shut = false := by kernel_rfl
theorem d3a_k : d3a.k ≤ 100000 := by
  have : d3a.k = 0 := by kernel_rfl
  omega
theorem KP.belowR {W W' : World} {b m base : Nat} {lb : Option Nat} (h : KP (FR b m lb) W W') (hs : base ≤ W.heap.size) (hb : base ≤ b) (hm : base ≤ m) (hl : ∀ j, lb = some j → base ≤ j) : Below base W W' :=
  h.below hs fun j hj => by
    rcases hj with rfl | rfl | e
    · exact hb
    · exact hm
    · exact hl j e
theorem KP.belowB {W W' : World} {b m base : Nat} (h : KP (fun j => j = b ∨ j = m) W W') (hs : base ≤ W.heap.size) (hb : base ≤ b) (hm : base ≤ m) : Below base W W' :=
  h.below hs fun j hj => by
    rcases hj with rfl | rfl
    · exact hb
    · exact hm
theorem view_ok {n : Nat} (h : n ≤ 8) (h1 : 1 ≤ n) : V.vR 0 1 (mem n) = true := by
  have : ∀ k, k < 9 → 1 ≤ k → V.vR 0 1 (mem k) = true := by decide
  exact this n (by omega) h1
theorem rk_mem {n i : Nat} (h : i < n) : V.rk (mem n) (pr i) = i := V.rk_some (mem_at h) fun j x hj hx => by
  rw [mem_at (by omega)] at hx
  injection hx with hx
  subst hx
  intro e
  have := pr_inj e
  omega
theorem lead_mem {n i : Nat} (h : i < n) (X : List EV) : (newD 0 1 (mem n) (pr i) X).lead = decide (i = 0) := by
  unfold Rd.lead newD
  have : (mem n).head? = some (pr 0) := by
    cases n with
    | zero => omega
    | succ n => simp [mem, List.range_succ_eq_map]
  simp only [this]
  by_cases e : i = 0
  · subst e
    simp
  · have : ¬ pr 0 = pr i := fun h => e (pr_inj h).symm
    simp [this, e]
/-- New of a member of the law's view, nothing ordered. -/
theorem newC (n i : Nat) (hn : n ≤ 8) (hi : i < n) (A : Option Addr) (c : Nat) (u : World) (hr : V.RowsV u u.heap.size A (mem n)) (hc : n ≤ c) (hm : c ≤ maxLen) :
    Calls Try.prog 14 #[.agg #[.int .u8 0, .int .u32 1, .slice A n c], .agg #[.int .u8 (pr i).n, .int .u16 (pr i).l], .slice none 0 0] u fun e W' => ∃ b m lb, e = .returned (.pointer (some ⟨b, 0, none⟩)) ∧ RP W' b m lb (newD 0 1 (mem n) (pr i) []) ∧ u.heap.size ≤ b ∧ u.heap.size ≤ m ∧ (∀ j, lb = some j → u.heap.size ≤ j) ∧ Below u.heap.size u W' := by
  have := rNew u 0 1 A (mem n) c (pr i) (.slice none 0 0) [] hr (by rw [mem_len]; exact hc) hm (view_ok hn (by omega)) (by rw [rk_mem hi]; omega) (mem_rg hn) (pr_rg (by omega)) (EnO.nil u) (by simp)
  rwa [mem_len] at this
set_option maxRecDepth 100000 in
set_option maxHeartbeats 2000000 in
theorem numC (z : Int) (w : World) : Calls Try.prog 19 #[.int .i64 z] w fun e w' => e = .returned (.int .i64 z) ∧ w = w' := by
  go_enter Try.func19, Try.ntmps19
  go_wp2
  go_ret
  exact ⟨rfl, rfl⟩
set_option maxRecDepth 100000 in
set_option maxHeartbeats 2000000 in
theorem knowsR (w : World) : Calls Try.prog 7 #[] w fun e w' => e = .returned (.bool true) ∧ Below w.heap.size w w' := by
  have HP : Hid (∀ i u, i ≤ 15 → Calls Try.prog 16 #[.int .i64 (i : Nat)] u fun e w' => e = .returned (.agg #[.int .u8 (pr i).n, .int .u16 (pr i).l]) ∧ Below u.heap.size u w') := Lib.hid fun i u hi => procC i hi u
  obtain ⟨base, hb⟩ : ∃ z, w.heap.size = z := ⟨_, rfl⟩
  have HBS := Lib.hid hb
  rw [hb]
  have B0 : Hid (Below base w w) := Lib.hid (hb ▸ Below.refl _ _)
  clear hb
  go_enter Try.func7, Try.ntmps7
  go_wp2_with fail
  refine (viewC 3 (by omega) w).mono ?_
  rintro e w1 ⟨A, c, rfl, hr, hc, hm, b1⟩
  have B1 := Lib.hid (HBS.out ▸ b1 : Below base w w1)
  have HR := Lib.hid hr
  have HC := Lib.hid (And.intro hc hm)
  clear hr hc hm b1
  go_wp2_with fail
  refine (HP.out 0 w1 (by omega)).mono ?_
  rintro e w2 ⟨rfl, b2⟩
  have B2 := Lib.hid (B1.out.trans (b2.mono (by have := B1.out.size; have := HBS.out; omega)))
  have KN := Lib.hid (newC 3 0 (by omega) (by omega) A c w2 (HR.out.below b2 (Nat.le_refl _) b2.size) HC.out.1 HC.out.2)
  have S2 : Hid (base ≤ w2.heap.size) := Lib.hid (by have := B2.out.size; have := HBS.out; omega)
  clear b2
  go_wp2_with fail
  refine KN.out.mono ?_
  rintro e w3 ⟨b, m, lb, rfl, hp, hb, hm, hl, b3⟩
  have B3 := Lib.hid (B2.out.trans (b3.mono S2.out))
  have HP3 : Hid (RP w3 b m lb d3) := Lib.hid hp
  have S3 : Hid (base ≤ w3.heap.size) := Lib.hid (Nat.le_trans S2.out b3.size)
  have HBM : Hid (base ≤ b ∧ base ≤ m ∧ ∀ j, lb = some j → base ≤ j) := Lib.hid ⟨Nat.le_trans S2.out hb, Nat.le_trans S2.out hm, fun j hj => Nat.le_trans S2.out (hl j hj)⟩
  clear hp hb hm hl b3
  go_wp2_with fail
  refine (killC 1 (by omega) w3).mono ?_
  rintro e w4 ⟨rfl, b4⟩
  have B4 := Lib.hid (B3.out.trans (b4.mono S3.out))
  have HP4 := Lib.hid (HP3.out.below b4)
  have S4 : Hid (base ≤ w4.heap.size) := Lib.hid (Nat.le_trans S3.out b4.size)
  have KA := Lib.hid (rAdd w4 b m lb d3 HP4.out (killE 1) (killE_ok 1 w4) true fun u _ => rightK 1 (by omega) _ u)
  clear b4
  go_wp2_with fail
  refine KA.out.mono ?_
  rintro e w5 ⟨rfl, lb5, hp5, kp5, hl5⟩
  have B5 := Lib.hid (B4.out.trans (kp5.belowR S4.out HBM.out.1 HBM.out.2.1 HBM.out.2.2))
  have HP5 : Hid (RP w5 b m lb5 d3a) := Lib.hid hp5
  have S5 : Hid (base ≤ w5.heap.size) := Lib.hid (Nat.le_trans S4.out kp5.size)
  rw [d3_add]
  clear hp5 kp5 hl5
  go_wp2_with fail
  refine (rCommit w5 b m lb5 d3a HP5.out).mono ?_
  rintro e w6 ⟨rfl, rfl⟩
  rw [d3a_com]
  go_wp2_with fail
  refine (HP.out 2 w5 (by omega)).mono ?_
  rintro e w7 ⟨rfl, b7⟩
  have B7 := Lib.hid (B5.out.trans (b7.mono S5.out))
  have S7 : Hid (base ≤ w7.heap.size) := Lib.hid (Nat.le_trans S5.out b7.size)
  have KC := Lib.hid (rAcked w7 b m lb5 d3a (HP5.out.below b7) (pr 2) (pr_rg (by omega)) 1 d3a_k)
  clear b7
  go_wp2_with fail
  refine KC.out.mono ?_
  rintro e w8 ⟨rfl, hp8, kp8⟩
  have B8 := Lib.hid (B7.out.trans (kp8.belowB S7.out HBM.out.1 HBM.out.2.1))
  have HP8 : Hid (RP w8 b m lb5 d3b) := Lib.hid hp8
  clear hp8 kp8
  have KCM : Hid (Calls Try.prog 13 #[.pointer (some ⟨b, 0, none⟩)] w8 fun e W' => e = .returned (.int .i64 1) ∧ w8 = W') := Lib.hid (by have := rCommit w8 b m lb5 d3b HP8.out; rwa [d3b_com] at this)
  have KLN : Hid (Calls Try.prog 21 #[.pointer (some ⟨b, 0, none⟩)] w8 fun e W' => e = .returned (.int .i64 1) ∧ w8 = W') := Lib.hid (by have := rLen w8 b m lb5 d3b HP8.out; rwa [d3b_len] at this)
  have KOP : Hid (Calls Try.prog 29 #[.pointer (some ⟨b, 0, none⟩)] w8 fun e W' => e = .returned (.bool true) ∧ w8 = W') := Lib.hid (by have := rOpen w8 b m lb5 d3b HP8.out; rwa [d3b_shut] at this)
  have KNU := Lib.hid (numC 0 w8)
  go_wp2_with (first
    | (go_at_call 19; refine KNU.out.mono ?_; rintro e u ⟨rfl, rfl⟩)
    | (go_at_call 13; refine KCM.out.mono ?_; rintro e u ⟨rfl, rfl⟩)
    | (go_at_call 21; refine KLN.out.mono ?_; rintro e u ⟨rfl, rfl⟩)
    | (go_at_call 29; refine KOP.out.mono ?_; rintro e u ⟨rfl, rfl⟩))
  go_ret
  exact ⟨rfl, B8.out⟩

end Go.Proofs.Ytjdmjiikpnlkjaa
