/-
  The bag's Spoil: by exact answers. Condition: the bag lies in memory.
-/
import Derived.Test.YteaafpgkifmdeaaBsm
import Derived.Laws.BitsAllLaws
namespace Go.Proofs.Yteaafpgkifmdeaa
set_option linter.unusedSimpArgs false
set_option linter.unusedVariables false
open Go.RowKit Go.Sort

set_option maxRecDepth 100000 in
set_option maxHeartbeats 1000000 in
theorem spoil_no (base b l most : Nat) (v : Value) (L : List Lp) (i a m : Int) (W : World) (h : PB base W b l most v L) (hi : i < 0 ∨ (L.length : Int) ≤ i) :
    Calls Try.prog 21 #[.pointer (some ⟨b, 0, none⟩), .int .i64 i, .int .i64 a, .int .u32 m] W fun e W' => e = .returned (.int .i64 3) ∧ W = W' := by
  have K := Lib.hid (find_no base b l most v L i W h hi)
  clear h hi
  go_enter Try.func21, Try.ntmps21
  go_wp2_with fail
  refine K.out.mono ?_
  rintro e w' ⟨rfl, rfl⟩
  go_wp2
  go_ret
  exact ⟨rfl, rfl⟩

/-- why a parcel is not spoilt. -/
def spErr (x : Lp) (a : Int) (m : Nat) : Nat := if x.p.bad = true then 4 else if m = 0 then 1 else if a < 0 ∨ (x.p.B.length : Int) - 4 < a then 2 else 0
set_option maxRecDepth 100000 in
set_option maxHeartbeats 1000000 in
theorem spoil_err (base b l most : Nat) (v : Value) (L : List Lp) (i m : Nat) (a : Int) (W : World) (h : PB base W b l most v L) (hi : i < L.length) (h0 : -9223372036854775808 ≤ a) (h1 : a ≤ 9223372036854775807) (he : spErr L[i] a m ≠ 0) :
    Calls Try.prog 21 #[.pointer (some ⟨b, 0, none⟩), .int .i64 i, .int .i64 a, .int .u32 m] W fun e W' => e = .returned (.int .i64 (spErr L[i] a m)) ∧ W = W' := by
  have K := Lib.hid (find_yes base b l most v L i W h hi)
  obtain ⟨g, c, hv, six, hlc, hcm⟩ := h.at_ hi
  have okx := h.ok _ (List.getElem_mem hi)
  generalize L[i] = x at *
  have hn := okx.len
  obtain ⟨⟨fn, fl, tn, tl, B, bad⟩, A, xc⟩ := x
  simp only at hn
  obtain ⟨c0, c1, c2, c3, c4, c5⟩ := six
  unfold Lp.cs at c4 c5
  simp only [List.getElem?_toArray, List.getElem?_cons_zero, List.getElem?_cons_succ] at c4 c5
  unfold spErr at he ⊢
  simp only at he ⊢
  have HV := Lib.hid hv
  obtain ⟨n, hnn⟩ : ∃ n, B.length = n := ⟨_, rfl⟩
  rw [hnn] at c4 hn he ⊢
  clear h hi okx hv hnn c0 c1 c2 c3 hlc hcm
  cases bad with
  | true =>
    rw [if_pos rfl]
    clear he
    go_enter Try.func21, Try.ntmps21
    go_wp2_with fail
    refine K.out.mono ?_
    rintro e w' ⟨⟨g', c', e', rfl⟩, rfl⟩
    obtain ⟨rfl, -⟩ : g = g' ∧ c = c' := by have := HV.out.symm.trans e'; simp at this; exact this
    clear e'
    go_wp2
    go_ret
    exact ⟨rfl, rfl⟩
  | false =>
    rw [if_neg (by simp)] at he ⊢
    by_cases hm : m = 0
    · subst hm
      rw [if_pos rfl]
      clear he
      go_enter Try.func21, Try.ntmps21
      go_wp2_with fail
      refine K.out.mono ?_
      rintro e w' ⟨⟨g', c', e', rfl⟩, rfl⟩
      obtain ⟨rfl, -⟩ : g = g' ∧ c = c' := by have := HV.out.symm.trans e'; simp at this; exact this
      clear e'
      go_wp2
      go_ret
      exact ⟨rfl, rfl⟩
    · rw [if_neg hm] at he ⊢
      have hr : a < 0 ∨ (n : Int) - 4 < a := Decidable.byContradiction fun hh => he (if_neg hh)
      rw [if_pos hr]
      have hm2 : ((m : Int) == 0) = false := by simpa using hm
      have hm3 : ¬ (m : Int) = 0 := by omega
      clear he hm
      have HR := Lib.hid hr
      clear hr
      by_cases ha : a < 0
      · go_enter Try.func21, Try.ntmps21
        go_wp2_with fail
        refine K.out.mono ?_
        rintro e w' ⟨⟨g', c', e', rfl⟩, rfl⟩
        obtain ⟨rfl, -⟩ : g = g' ∧ c = c' := by have := HV.out.symm.trans e'; simp at this; exact this
        clear e'
        go_wp2
        go_ret
        exact ⟨rfl, rfl⟩
      · have hb : (n : Int) - 4 < a := HR.out.resolve_left ha
        have hw : IntKind.i64.wrap ((n : Int) - 4) = (n : Int) - 4 := IntWalk.i64_in _ (by omega)
        go_enter Try.func21, Try.ntmps21
        go_wp2_with fail
        refine K.out.mono ?_
        rintro e w' ⟨⟨g', c', e', rfl⟩, rfl⟩
        obtain ⟨rfl, -⟩ : g = g' ∧ c = c' := by have := HV.out.symm.trans e'; simp at this; exact this
        clear e'
        go_wp2
        go_ret
        exact ⟨rfl, rfl⟩

set_option maxRecDepth 100000 in
set_option maxHeartbeats 4000000 in
theorem spoil_ok (base b l most : Nat) (v : Value) (L : List Lp) (i m a : Nat) (W : World) (h : PB base W b l most v L) (hi : i < L.length) (hm : m < 4294967296) (he : spErr L[i] a m = 0) :
    Calls Try.prog 21 #[.pointer (some ⟨b, 0, none⟩), .int .i64 i, .int .i64 a, .int .u32 m] W fun e W' => e = .returned (.int .i64 0) ∧ PB base W' b l most v (L.set i (L[i].spoil a m)) ∧ KP (fun k => v.ownBlock = some k ∨ k = L[i].g) W W' := by
  have K := Lib.hid (find_yes base b l most v L i W h hi)
  obtain ⟨g, c, hv, six, hlc, hcm⟩ := h.at_ hi
  have okx := h.ok _ (List.getElem_mem hi)
  obtain ⟨x, hx⟩ : ∃ x, L[i] = x := ⟨_, rfl⟩
  have hxi : L[i]? = some x := by rw [← hx]; exact List.getElem?_eq_getElem hi
  rw [hx] at six okx he ⊢
  have hn := okx.len
  obtain ⟨hbad, hm0, ha0, ha1⟩ : x.p.bad = false ∧ m ≠ 0 ∧ a + 4 ≤ x.p.B.length ∧ True := by
    unfold spErr at he
    split at he
    · omega
    · rename_i h1
      split at he
      · omega
      · rename_i h2
        split at he
        · omega
        · rename_i h3
          refine ⟨by simpa using h1, h2, by omega, trivial⟩
  have hne : x.p.B ≠ [] := fun e => by rw [e] at ha0; simp at ha0
  obtain ⟨gb, cur, hA, hgb, hcur, htk⟩ := okx.own hne
  obtain ⟨c0, c1, c2, c3, c4, c5⟩ := six
  unfold Lp.cs at c4 c5
  simp only [List.getElem?_toArray, List.getElem?_cons_zero, List.getElem?_cons_succ] at c4 c5
  obtain ⟨n, hnn⟩ : ∃ n, x.p.B.length = n := ⟨_, rfl⟩
  rw [hnn, hA] at c4
  rw [hbad] at c5
  subst hv
  rw [hnn] at hn ha0 htk
  have hgg : g ≠ gb := by
    obtain ⟨cg, hcg⟩ := row_block h.row (g := g) rfl
    exact (apart_of hcur hcg (by decide)).symm
  have hxg : x.g = gb := Lp.g_of hA
  have hm2 : ((m : Int) == 0) = false := by simpa using hm0
  have hm3 : ¬ (m : Int) = 0 := by omega
  have hw : IntKind.i64.wrap ((n : Int) - 4) = (n : Int) - 4 := IntWalk.i64_in _ (by omega)
  have ha2 : ¬ (a : Int) < 0 := by omega
  have ha3 : ¬ (n : Int) - 4 < (a : Int) := by omega
  have gw := (Array.getElem?_eq_some_iff.1 (row_block h.row (g := g) rfl).choose_spec).1
  have HP := Lib.hid h
  have HXI := Lib.hid hxi
  have OKX := Lib.hid okx
  have HNN := Lib.hid hnn
  have HAA := Lib.hid hA
  have HGB := Lib.hid hgb
  have HCUR := Lib.hid hcur
  have HTK := Lib.hid htk
  have HGG := Lib.hid hgg
  have HXG := Lib.hid hxg
  have HA0 := Lib.hid ha0
  have HN := Lib.hid hn
  have HM := Lib.hid hm
  have GW := Lib.hid gw
  have HNE := Lib.hid hne
  have HBAD := Lib.hid hbad
  have C4 := Lib.hid c4
  clear h hx hi hxi okx hnn hA hgb hcur htk hgg hxg hne hbad hm0 he hlc hcm c0 c1 c2 c3 gw ha1 hm
  go_enter Try.func21, Try.ntmps21
  go_wp2_with fail
  refine K.out.mono ?_
  rintro e w' ⟨⟨g', c', e', rfl⟩, rfl⟩
  obtain ⟨rfl, -⟩ : g = g' ∧ c = c' := by simp at e'; exact e'
  clear e' K
  go_wp2
  clear c4 c5 hw ha2 ha3
  go_loopw [43] (fun z wx => ∃ k : Nat, z = .int .i64 k ∧ k ≤ 4 ∧ Hid (∃ cur, wx.heap[gb]? = some (.cells cur 5 (0, 0)) ∧ cur.toList.take n = Lib.byteCells (xorAt x.p.B a (maskB m) k)) ∧ Hid (KP (fun k => k = gb) W wx)) (fun z _ => 4 - (intOf z).toNat)
  case atStart => exact ⟨0, rfl, by omega, Lib.hid ⟨cur, HCUR.out, HTK.out⟩, Lib.hid (KP.refl _ _)⟩
  case round =>
    obtain ⟨k, rfl, hk, I, KK⟩ := hrel
    have e4 := (World.cell?_of_block (a := ⟨g, i * 6 + 4, none⟩) (KK.out.block g GW.out HGG.out)).trans C4.out
    rcases (show k = 0 ∨ k = 1 ∨ k = 2 ∨ k = 3 ∨ k = 4 by omega) with rfl | rfl | rfl | rfl | rfl
    · obtain ⟨q, z, hcell, hxo, hst⟩ := spoil_step x.p.B a m 0 n wr gb HNN.out (by omega) HA0.out HM.out I.out
      simp only [Nat.add_zero] at hcell hst
      have hfrz : wr.frozen? ⟨gb, a, none⟩ = false := frz_row _ I.out.choose_spec.1
      have hb0 : (0 : Int) ≤ (a : Int) := by omega
      have hb1 : (a : Int) < (n : Int) := by have := HA0.out; omega
      have hnk : ((a : Int)).toNat = a := by omega
      have hwk : IntKind.i64.wrap ((a : Int)) = (a : Int) := IntWalk.i64_in _ (by have := HA0.out; have := HN.out; omega)
      have ST := Lib.hid hst
      clear hst
      have hxo' : bits BinOp.xor IntKind.u8 (q : Int) ((m : Int) % 256) = ((z : Nat) : Int) := by
        rw [← hxo]
        congr 1
        unfold maskB
        rw [toNat_of (by have := HM.out; omega)]
        have := HM.out
        omega
      have HXO := Lib.hid hxo'
      have hm0 : (0 : Int) ≤ (m : Int) := by omega
      have hm1 : (m : Int) < 4294967296 := by have := HM.out; omega
      clear hxo hxo'
      go_wp2_with fail
      refine region_heldT (S := fun X => X.cell? ⟨g, i * 6 + 4, none⟩ = some (.slice (some ⟨gb, 0, none⟩) n x.c) ∧ X.cell? ⟨gb, a, none⟩ = some (.int .u8 (q : Nat))) 15 (by kernel_rfl) (by decide) (fun inv => ?_)
      change FirstH _ _ _ _ _ _ _ _ _ _ wr.drew
      have HS : wr.drew.cell? ⟨g, i * 6 + 4, none⟩ = some (.slice (some ⟨gb, 0, none⟩) n x.c) ∧ wr.drew.cell? ⟨gb, a, none⟩ = some (.int .u8 (q : Nat)) := ⟨e4, hcell⟩
      refine FirstH.go (i := 0) (v := .pointer (some ⟨g, i * 6, none⟩)) rfl rfl _ rfl _ rfl (by kernel_rfl) (fun _ _ _ h => h) inv (fun X _ => by unfold bareO; go_simp) HS (fun inv => ?_)
      try simp only [Act.put, List.setIfInBounds_toArray, List.set_cons_zero, List.set_cons_succ]
      refine FirstH.go (i := 1) (v := .pointer (some ⟨g, i * 6, none⟩)) rfl rfl _ rfl _ rfl (by kernel_rfl) (fun _ _ _ h => h) inv (fun X _ => by unfold bareO; go_simp) HS (fun inv => ?_)
      try simp only [Act.put, List.setIfInBounds_toArray, List.set_cons_zero, List.set_cons_succ]
      refine FirstH.go (i := 2) (v := .pointer (some ⟨g, i * 6 + 4, none⟩)) rfl rfl _ rfl _ rfl (by kernel_rfl) (fun _ _ _ h => h) inv (fun X _ => by unfold bareO; go_simp) HS (fun inv => ?_)
      try simp only [Act.put, List.setIfInBounds_toArray, List.set_cons_zero, List.set_cons_succ]
      refine FirstH.go (i := 3) (v := .slice (some ⟨gb, 0, none⟩) n x.c) rfl rfl _ rfl _ rfl (by kernel_rfl) (fun _ _ _ h => h) inv (fun X hS => by obtain ⟨s1, s2⟩ := hS; unfold bareO; go_simp) HS (fun inv => ?_)
      try simp only [Act.put, List.setIfInBounds_toArray, List.set_cons_zero, List.set_cons_succ]
      refine FirstH.go (i := 4) (v := .int .i64 a) rfl rfl _ rfl _ rfl (by kernel_rfl) (fun _ _ _ h => h) inv (fun X _ => by unfold bareO; go_simp) HS (fun inv => ?_)
      try simp only [Act.put, List.setIfInBounds_toArray, List.set_cons_zero, List.set_cons_succ]
      refine FirstH.go (i := 5) (v := .int .i64 0) rfl rfl _ rfl _ rfl (by kernel_rfl) (fun _ _ _ h => h) inv (fun X _ => by unfold bareO; go_simp) HS (fun inv => ?_)
      try simp only [Act.put, List.setIfInBounds_toArray, List.set_cons_zero, List.set_cons_succ]
      refine FirstH.go (i := 6) (v := .int .i64 ((a : Int))) rfl rfl _ rfl _ rfl (by kernel_rfl) (fun _ _ _ h => h) inv (fun X _ => by unfold bareO; go_simp) HS (fun inv => ?_)
      try simp only [Act.put, List.setIfInBounds_toArray, List.set_cons_zero, List.set_cons_succ]
      refine FirstH.go (i := 7) (v := .pointer (some ⟨gb, a, none⟩)) rfl rfl _ rfl _ rfl (by kernel_rfl) (fun _ _ _ h => h) inv (fun X _ => by unfold bareO; go_simp) HS (fun inv => ?_)
      try simp only [Act.put, List.setIfInBounds_toArray, List.set_cons_zero, List.set_cons_succ]
      refine FirstH.go (i := 8) (v := .int .u8 (q : Nat)) rfl rfl _ rfl _ rfl (by kernel_rfl) (fun _ _ _ h => h) inv (fun X hS => by obtain ⟨s1, s2⟩ := hS; unfold bareO; go_simp) HS (fun inv => ?_)
      try simp only [Act.put, List.setIfInBounds_toArray, List.set_cons_zero, List.set_cons_succ]
      refine FirstH.go (i := 9) (v := .int .u32 m) rfl rfl _ rfl _ rfl (by kernel_rfl) (fun _ _ _ h => h) inv (fun X _ => by unfold bareO; go_simp) HS (fun inv => ?_)
      try simp only [Act.put, List.setIfInBounds_toArray, List.set_cons_zero, List.set_cons_succ]
      refine FirstH.go (i := 10) (v := .int .i64 0) rfl rfl _ rfl _ rfl (by kernel_rfl) (fun _ _ _ h => h) inv (fun X _ => by unfold bareO; go_simp) HS (fun inv => ?_)
      try simp only [Act.put, List.setIfInBounds_toArray, List.set_cons_zero, List.set_cons_succ]
      refine FirstH.go (i := 11) (v := .int .i64 0) rfl rfl _ rfl _ rfl (by kernel_rfl) (fun _ _ _ h => h) inv (fun X _ => by unfold bareO; go_simp; first | done | rfl) HS (fun inv => ?_)
      try simp only [Act.put, List.setIfInBounds_toArray, List.set_cons_zero, List.set_cons_succ]
      refine FirstH.go (i := 12) (v := .int .u32 (m : Int)) rfl rfl _ rfl _ rfl (by kernel_rfl) (fun _ _ _ h => h) inv (fun X _ => by unfold bareO; go_simp) HS (fun inv => ?_)
      try simp only [Act.put, List.setIfInBounds_toArray, List.set_cons_zero, List.set_cons_succ]
      refine FirstH.go (i := 13) (v := .int .u8 ((m : Int) % 256)) rfl rfl _ rfl _ rfl (by kernel_rfl) (fun _ _ _ h => h) inv (fun X _ => by unfold bareO; go_simp; first | done | rfl | (show (m : Int) / 16777216 % 256 = (m : Int) / 16777216; omega)) HS (fun inv => ?_)
      try simp only [Act.put, List.setIfInBounds_toArray, List.set_cons_zero, List.set_cons_succ]
      refine FirstH.go (i := 14) (v := .int .u8 (z : Nat)) rfl rfl _ rfl _ rfl (by kernel_rfl) (fun _ _ _ h => h) inv (fun X _ => by have hxo := HXO.out; unfold bareO; go_simp) HS (fun inv => ?_)
      try simp only [Act.put, List.setIfInBounds_toArray, List.set_cons_zero, List.set_cons_succ]
      clear HS
      refine ⟨by kernel_rfl, ?_⟩
      simp only [List.drop_succ_cons, List.drop_zero]
      clear hm0 hm1
      go_wp2
      go_roundw
      case rel => exact ⟨1, by rfl, by omega, ST, Lib.hid ((KK.out.trans (KP.set (S := fun k => k = gb) wr gb _ _ rfl) fun _ _ h => h).trans (KP.of_below (Below.refl _ _).drew) fun _ _ h => h)⟩
      case measure => simp [intOf]
    · obtain ⟨q, z, hcell, hxo, hst⟩ := spoil_step x.p.B a m 1 n wr gb HNN.out (by omega) HA0.out HM.out I.out
      skip
      have hfrz : wr.frozen? ⟨gb, a + 1, none⟩ = false := frz_row _ I.out.choose_spec.1
      have hb0 : (0 : Int) ≤ (a : Int) + 1 := by omega
      have hb1 : (a : Int) + 1 < (n : Int) := by have := HA0.out; omega
      have hnk : ((a : Int) + 1).toNat = a + 1 := by omega
      have hwk : IntKind.i64.wrap ((a : Int) + 1) = (a : Int) + 1 := IntWalk.i64_in _ (by have := HA0.out; have := HN.out; omega)
      have ST := Lib.hid hst
      clear hst
      have hxo' : bits BinOp.xor IntKind.u8 (q : Int) ((m : Int) / 256 % 256) = ((z : Nat) : Int) := by
        rw [← hxo]
        congr 1
        unfold maskB
        rw [toNat_of (by have := HM.out; omega)]
        have := HM.out
        omega
      have HXO := Lib.hid hxo'
      have hm0 : (0 : Int) ≤ (m : Int) := by omega
      have hm1 : (m : Int) < 4294967296 := by have := HM.out; omega
      clear hxo hxo'
      go_wp2_with fail
      refine region_heldT (S := fun X => X.cell? ⟨g, i * 6 + 4, none⟩ = some (.slice (some ⟨gb, 0, none⟩) n x.c) ∧ X.cell? ⟨gb, a + 1, none⟩ = some (.int .u8 (q : Nat))) 15 (by kernel_rfl) (by decide) (fun inv => ?_)
      change FirstH _ _ _ _ _ _ _ _ _ _ wr.drew
      have HS : wr.drew.cell? ⟨g, i * 6 + 4, none⟩ = some (.slice (some ⟨gb, 0, none⟩) n x.c) ∧ wr.drew.cell? ⟨gb, a + 1, none⟩ = some (.int .u8 (q : Nat)) := ⟨e4, hcell⟩
      refine FirstH.go (i := 0) (v := .pointer (some ⟨g, i * 6, none⟩)) rfl rfl _ rfl _ rfl (by kernel_rfl) (fun _ _ _ h => h) inv (fun X _ => by unfold bareO; go_simp) HS (fun inv => ?_)
      try simp only [Act.put, List.setIfInBounds_toArray, List.set_cons_zero, List.set_cons_succ]
      refine FirstH.go (i := 1) (v := .pointer (some ⟨g, i * 6, none⟩)) rfl rfl _ rfl _ rfl (by kernel_rfl) (fun _ _ _ h => h) inv (fun X _ => by unfold bareO; go_simp) HS (fun inv => ?_)
      try simp only [Act.put, List.setIfInBounds_toArray, List.set_cons_zero, List.set_cons_succ]
      refine FirstH.go (i := 2) (v := .pointer (some ⟨g, i * 6 + 4, none⟩)) rfl rfl _ rfl _ rfl (by kernel_rfl) (fun _ _ _ h => h) inv (fun X _ => by unfold bareO; go_simp) HS (fun inv => ?_)
      try simp only [Act.put, List.setIfInBounds_toArray, List.set_cons_zero, List.set_cons_succ]
      refine FirstH.go (i := 3) (v := .slice (some ⟨gb, 0, none⟩) n x.c) rfl rfl _ rfl _ rfl (by kernel_rfl) (fun _ _ _ h => h) inv (fun X hS => by obtain ⟨s1, s2⟩ := hS; unfold bareO; go_simp) HS (fun inv => ?_)
      try simp only [Act.put, List.setIfInBounds_toArray, List.set_cons_zero, List.set_cons_succ]
      refine FirstH.go (i := 4) (v := .int .i64 a) rfl rfl _ rfl _ rfl (by kernel_rfl) (fun _ _ _ h => h) inv (fun X _ => by unfold bareO; go_simp) HS (fun inv => ?_)
      try simp only [Act.put, List.setIfInBounds_toArray, List.set_cons_zero, List.set_cons_succ]
      refine FirstH.go (i := 5) (v := .int .i64 1) rfl rfl _ rfl _ rfl (by kernel_rfl) (fun _ _ _ h => h) inv (fun X _ => by unfold bareO; go_simp) HS (fun inv => ?_)
      try simp only [Act.put, List.setIfInBounds_toArray, List.set_cons_zero, List.set_cons_succ]
      refine FirstH.go (i := 6) (v := .int .i64 ((a : Int) + 1)) rfl rfl _ rfl _ rfl (by kernel_rfl) (fun _ _ _ h => h) inv (fun X _ => by unfold bareO; go_simp) HS (fun inv => ?_)
      try simp only [Act.put, List.setIfInBounds_toArray, List.set_cons_zero, List.set_cons_succ]
      refine FirstH.go (i := 7) (v := .pointer (some ⟨gb, a + 1, none⟩)) rfl rfl _ rfl _ rfl (by kernel_rfl) (fun _ _ _ h => h) inv (fun X _ => by unfold bareO; go_simp) HS (fun inv => ?_)
      try simp only [Act.put, List.setIfInBounds_toArray, List.set_cons_zero, List.set_cons_succ]
      refine FirstH.go (i := 8) (v := .int .u8 (q : Nat)) rfl rfl _ rfl _ rfl (by kernel_rfl) (fun _ _ _ h => h) inv (fun X hS => by obtain ⟨s1, s2⟩ := hS; unfold bareO; go_simp) HS (fun inv => ?_)
      try simp only [Act.put, List.setIfInBounds_toArray, List.set_cons_zero, List.set_cons_succ]
      refine FirstH.go (i := 9) (v := .int .u32 m) rfl rfl _ rfl _ rfl (by kernel_rfl) (fun _ _ _ h => h) inv (fun X _ => by unfold bareO; go_simp) HS (fun inv => ?_)
      try simp only [Act.put, List.setIfInBounds_toArray, List.set_cons_zero, List.set_cons_succ]
      refine FirstH.go (i := 10) (v := .int .i64 1) rfl rfl _ rfl _ rfl (by kernel_rfl) (fun _ _ _ h => h) inv (fun X _ => by unfold bareO; go_simp) HS (fun inv => ?_)
      try simp only [Act.put, List.setIfInBounds_toArray, List.set_cons_zero, List.set_cons_succ]
      refine FirstH.go (i := 11) (v := .int .i64 8) rfl rfl _ rfl _ rfl (by kernel_rfl) (fun _ _ _ h => h) inv (fun X _ => by unfold bareO; go_simp; first | done | rfl) HS (fun inv => ?_)
      try simp only [Act.put, List.setIfInBounds_toArray, List.set_cons_zero, List.set_cons_succ]
      refine FirstH.go (i := 12) (v := .int .u32 ((m : Int) / 256)) rfl rfl _ rfl _ rfl (by kernel_rfl) (fun _ _ _ h => h) inv (fun X _ => by unfold bareO; go_simp) HS (fun inv => ?_)
      try simp only [Act.put, List.setIfInBounds_toArray, List.set_cons_zero, List.set_cons_succ]
      refine FirstH.go (i := 13) (v := .int .u8 ((m : Int) / 256 % 256)) rfl rfl _ rfl _ rfl (by kernel_rfl) (fun _ _ _ h => h) inv (fun X _ => by unfold bareO; go_simp; first | done | rfl | (show (m : Int) / 16777216 % 256 = (m : Int) / 16777216; omega)) HS (fun inv => ?_)
      try simp only [Act.put, List.setIfInBounds_toArray, List.set_cons_zero, List.set_cons_succ]
      refine FirstH.go (i := 14) (v := .int .u8 (z : Nat)) rfl rfl _ rfl _ rfl (by kernel_rfl) (fun _ _ _ h => h) inv (fun X _ => by have hxo := HXO.out; unfold bareO; go_simp) HS (fun inv => ?_)
      try simp only [Act.put, List.setIfInBounds_toArray, List.set_cons_zero, List.set_cons_succ]
      clear HS
      refine ⟨by kernel_rfl, ?_⟩
      simp only [List.drop_succ_cons, List.drop_zero]
      clear hm0 hm1
      go_wp2
      go_roundw
      case rel => exact ⟨2, by rfl, by omega, ST, Lib.hid ((KK.out.trans (KP.set (S := fun k => k = gb) wr gb _ _ rfl) fun _ _ h => h).trans (KP.of_below (Below.refl _ _).drew) fun _ _ h => h)⟩
      case measure => simp [intOf]
    · obtain ⟨q, z, hcell, hxo, hst⟩ := spoil_step x.p.B a m 2 n wr gb HNN.out (by omega) HA0.out HM.out I.out
      skip
      have hfrz : wr.frozen? ⟨gb, a + 2, none⟩ = false := frz_row _ I.out.choose_spec.1
      have hb0 : (0 : Int) ≤ (a : Int) + 2 := by omega
      have hb1 : (a : Int) + 2 < (n : Int) := by have := HA0.out; omega
      have hnk : ((a : Int) + 2).toNat = a + 2 := by omega
      have hwk : IntKind.i64.wrap ((a : Int) + 2) = (a : Int) + 2 := IntWalk.i64_in _ (by have := HA0.out; have := HN.out; omega)
      have ST := Lib.hid hst
      clear hst
      have hxo' : bits BinOp.xor IntKind.u8 (q : Int) ((m : Int) / 65536 % 256) = ((z : Nat) : Int) := by
        rw [← hxo]
        congr 1
        unfold maskB
        rw [toNat_of (by have := HM.out; omega)]
        have := HM.out
        omega
      have HXO := Lib.hid hxo'
      have hm0 : (0 : Int) ≤ (m : Int) := by omega
      have hm1 : (m : Int) < 4294967296 := by have := HM.out; omega
      clear hxo hxo'
      go_wp2_with fail
      refine region_heldT (S := fun X => X.cell? ⟨g, i * 6 + 4, none⟩ = some (.slice (some ⟨gb, 0, none⟩) n x.c) ∧ X.cell? ⟨gb, a + 2, none⟩ = some (.int .u8 (q : Nat))) 15 (by kernel_rfl) (by decide) (fun inv => ?_)
      change FirstH _ _ _ _ _ _ _ _ _ _ wr.drew
      have HS : wr.drew.cell? ⟨g, i * 6 + 4, none⟩ = some (.slice (some ⟨gb, 0, none⟩) n x.c) ∧ wr.drew.cell? ⟨gb, a + 2, none⟩ = some (.int .u8 (q : Nat)) := ⟨e4, hcell⟩
      refine FirstH.go (i := 0) (v := .pointer (some ⟨g, i * 6, none⟩)) rfl rfl _ rfl _ rfl (by kernel_rfl) (fun _ _ _ h => h) inv (fun X _ => by unfold bareO; go_simp) HS (fun inv => ?_)
      try simp only [Act.put, List.setIfInBounds_toArray, List.set_cons_zero, List.set_cons_succ]
      refine FirstH.go (i := 1) (v := .pointer (some ⟨g, i * 6, none⟩)) rfl rfl _ rfl _ rfl (by kernel_rfl) (fun _ _ _ h => h) inv (fun X _ => by unfold bareO; go_simp) HS (fun inv => ?_)
      try simp only [Act.put, List.setIfInBounds_toArray, List.set_cons_zero, List.set_cons_succ]
      refine FirstH.go (i := 2) (v := .pointer (some ⟨g, i * 6 + 4, none⟩)) rfl rfl _ rfl _ rfl (by kernel_rfl) (fun _ _ _ h => h) inv (fun X _ => by unfold bareO; go_simp) HS (fun inv => ?_)
      try simp only [Act.put, List.setIfInBounds_toArray, List.set_cons_zero, List.set_cons_succ]
      refine FirstH.go (i := 3) (v := .slice (some ⟨gb, 0, none⟩) n x.c) rfl rfl _ rfl _ rfl (by kernel_rfl) (fun _ _ _ h => h) inv (fun X hS => by obtain ⟨s1, s2⟩ := hS; unfold bareO; go_simp) HS (fun inv => ?_)
      try simp only [Act.put, List.setIfInBounds_toArray, List.set_cons_zero, List.set_cons_succ]
      refine FirstH.go (i := 4) (v := .int .i64 a) rfl rfl _ rfl _ rfl (by kernel_rfl) (fun _ _ _ h => h) inv (fun X _ => by unfold bareO; go_simp) HS (fun inv => ?_)
      try simp only [Act.put, List.setIfInBounds_toArray, List.set_cons_zero, List.set_cons_succ]
      refine FirstH.go (i := 5) (v := .int .i64 2) rfl rfl _ rfl _ rfl (by kernel_rfl) (fun _ _ _ h => h) inv (fun X _ => by unfold bareO; go_simp) HS (fun inv => ?_)
      try simp only [Act.put, List.setIfInBounds_toArray, List.set_cons_zero, List.set_cons_succ]
      refine FirstH.go (i := 6) (v := .int .i64 ((a : Int) + 2)) rfl rfl _ rfl _ rfl (by kernel_rfl) (fun _ _ _ h => h) inv (fun X _ => by unfold bareO; go_simp) HS (fun inv => ?_)
      try simp only [Act.put, List.setIfInBounds_toArray, List.set_cons_zero, List.set_cons_succ]
      refine FirstH.go (i := 7) (v := .pointer (some ⟨gb, a + 2, none⟩)) rfl rfl _ rfl _ rfl (by kernel_rfl) (fun _ _ _ h => h) inv (fun X _ => by unfold bareO; go_simp) HS (fun inv => ?_)
      try simp only [Act.put, List.setIfInBounds_toArray, List.set_cons_zero, List.set_cons_succ]
      refine FirstH.go (i := 8) (v := .int .u8 (q : Nat)) rfl rfl _ rfl _ rfl (by kernel_rfl) (fun _ _ _ h => h) inv (fun X hS => by obtain ⟨s1, s2⟩ := hS; unfold bareO; go_simp) HS (fun inv => ?_)
      try simp only [Act.put, List.setIfInBounds_toArray, List.set_cons_zero, List.set_cons_succ]
      refine FirstH.go (i := 9) (v := .int .u32 m) rfl rfl _ rfl _ rfl (by kernel_rfl) (fun _ _ _ h => h) inv (fun X _ => by unfold bareO; go_simp) HS (fun inv => ?_)
      try simp only [Act.put, List.setIfInBounds_toArray, List.set_cons_zero, List.set_cons_succ]
      refine FirstH.go (i := 10) (v := .int .i64 2) rfl rfl _ rfl _ rfl (by kernel_rfl) (fun _ _ _ h => h) inv (fun X _ => by unfold bareO; go_simp) HS (fun inv => ?_)
      try simp only [Act.put, List.setIfInBounds_toArray, List.set_cons_zero, List.set_cons_succ]
      refine FirstH.go (i := 11) (v := .int .i64 16) rfl rfl _ rfl _ rfl (by kernel_rfl) (fun _ _ _ h => h) inv (fun X _ => by unfold bareO; go_simp; first | done | rfl) HS (fun inv => ?_)
      try simp only [Act.put, List.setIfInBounds_toArray, List.set_cons_zero, List.set_cons_succ]
      refine FirstH.go (i := 12) (v := .int .u32 ((m : Int) / 65536)) rfl rfl _ rfl _ rfl (by kernel_rfl) (fun _ _ _ h => h) inv (fun X _ => by unfold bareO; go_simp) HS (fun inv => ?_)
      try simp only [Act.put, List.setIfInBounds_toArray, List.set_cons_zero, List.set_cons_succ]
      refine FirstH.go (i := 13) (v := .int .u8 ((m : Int) / 65536 % 256)) rfl rfl _ rfl _ rfl (by kernel_rfl) (fun _ _ _ h => h) inv (fun X _ => by unfold bareO; go_simp; first | done | rfl | (show (m : Int) / 16777216 % 256 = (m : Int) / 16777216; omega)) HS (fun inv => ?_)
      try simp only [Act.put, List.setIfInBounds_toArray, List.set_cons_zero, List.set_cons_succ]
      refine FirstH.go (i := 14) (v := .int .u8 (z : Nat)) rfl rfl _ rfl _ rfl (by kernel_rfl) (fun _ _ _ h => h) inv (fun X _ => by have hxo := HXO.out; unfold bareO; go_simp) HS (fun inv => ?_)
      try simp only [Act.put, List.setIfInBounds_toArray, List.set_cons_zero, List.set_cons_succ]
      clear HS
      refine ⟨by kernel_rfl, ?_⟩
      simp only [List.drop_succ_cons, List.drop_zero]
      clear hm0 hm1
      go_wp2
      go_roundw
      case rel => exact ⟨3, by rfl, by omega, ST, Lib.hid ((KK.out.trans (KP.set (S := fun k => k = gb) wr gb _ _ rfl) fun _ _ h => h).trans (KP.of_below (Below.refl _ _).drew) fun _ _ h => h)⟩
      case measure => simp [intOf]
    · obtain ⟨q, z, hcell, hxo, hst⟩ := spoil_step x.p.B a m 3 n wr gb HNN.out (by omega) HA0.out HM.out I.out
      skip
      have hfrz : wr.frozen? ⟨gb, a + 3, none⟩ = false := frz_row _ I.out.choose_spec.1
      have hb0 : (0 : Int) ≤ (a : Int) + 3 := by omega
      have hb1 : (a : Int) + 3 < (n : Int) := by have := HA0.out; omega
      have hnk : ((a : Int) + 3).toNat = a + 3 := by omega
      have hwk : IntKind.i64.wrap ((a : Int) + 3) = (a : Int) + 3 := IntWalk.i64_in _ (by have := HA0.out; have := HN.out; omega)
      have ST := Lib.hid hst
      clear hst
      have hxo' : bits BinOp.xor IntKind.u8 (q : Int) ((m : Int) / 16777216) = ((z : Nat) : Int) := by
        rw [← hxo]
        congr 1
        unfold maskB
        rw [toNat_of (by have := HM.out; omega)]
        have := HM.out
        omega
      have HXO := Lib.hid hxo'
      have hm0 : (0 : Int) ≤ (m : Int) := by omega
      have hm1 : (m : Int) < 4294967296 := by have := HM.out; omega
      clear hxo hxo'
      go_wp2_with fail
      refine region_heldT (S := fun X => X.cell? ⟨g, i * 6 + 4, none⟩ = some (.slice (some ⟨gb, 0, none⟩) n x.c) ∧ X.cell? ⟨gb, a + 3, none⟩ = some (.int .u8 (q : Nat))) 15 (by kernel_rfl) (by decide) (fun inv => ?_)
      change FirstH _ _ _ _ _ _ _ _ _ _ wr.drew
      have HS : wr.drew.cell? ⟨g, i * 6 + 4, none⟩ = some (.slice (some ⟨gb, 0, none⟩) n x.c) ∧ wr.drew.cell? ⟨gb, a + 3, none⟩ = some (.int .u8 (q : Nat)) := ⟨e4, hcell⟩
      refine FirstH.go (i := 0) (v := .pointer (some ⟨g, i * 6, none⟩)) rfl rfl _ rfl _ rfl (by kernel_rfl) (fun _ _ _ h => h) inv (fun X _ => by unfold bareO; go_simp) HS (fun inv => ?_)
      try simp only [Act.put, List.setIfInBounds_toArray, List.set_cons_zero, List.set_cons_succ]
      refine FirstH.go (i := 1) (v := .pointer (some ⟨g, i * 6, none⟩)) rfl rfl _ rfl _ rfl (by kernel_rfl) (fun _ _ _ h => h) inv (fun X _ => by unfold bareO; go_simp) HS (fun inv => ?_)
      try simp only [Act.put, List.setIfInBounds_toArray, List.set_cons_zero, List.set_cons_succ]
      refine FirstH.go (i := 2) (v := .pointer (some ⟨g, i * 6 + 4, none⟩)) rfl rfl _ rfl _ rfl (by kernel_rfl) (fun _ _ _ h => h) inv (fun X _ => by unfold bareO; go_simp) HS (fun inv => ?_)
      try simp only [Act.put, List.setIfInBounds_toArray, List.set_cons_zero, List.set_cons_succ]
      refine FirstH.go (i := 3) (v := .slice (some ⟨gb, 0, none⟩) n x.c) rfl rfl _ rfl _ rfl (by kernel_rfl) (fun _ _ _ h => h) inv (fun X hS => by obtain ⟨s1, s2⟩ := hS; unfold bareO; go_simp) HS (fun inv => ?_)
      try simp only [Act.put, List.setIfInBounds_toArray, List.set_cons_zero, List.set_cons_succ]
      refine FirstH.go (i := 4) (v := .int .i64 a) rfl rfl _ rfl _ rfl (by kernel_rfl) (fun _ _ _ h => h) inv (fun X _ => by unfold bareO; go_simp) HS (fun inv => ?_)
      try simp only [Act.put, List.setIfInBounds_toArray, List.set_cons_zero, List.set_cons_succ]
      refine FirstH.go (i := 5) (v := .int .i64 3) rfl rfl _ rfl _ rfl (by kernel_rfl) (fun _ _ _ h => h) inv (fun X _ => by unfold bareO; go_simp) HS (fun inv => ?_)
      try simp only [Act.put, List.setIfInBounds_toArray, List.set_cons_zero, List.set_cons_succ]
      refine FirstH.go (i := 6) (v := .int .i64 ((a : Int) + 3)) rfl rfl _ rfl _ rfl (by kernel_rfl) (fun _ _ _ h => h) inv (fun X _ => by unfold bareO; go_simp) HS (fun inv => ?_)
      try simp only [Act.put, List.setIfInBounds_toArray, List.set_cons_zero, List.set_cons_succ]
      refine FirstH.go (i := 7) (v := .pointer (some ⟨gb, a + 3, none⟩)) rfl rfl _ rfl _ rfl (by kernel_rfl) (fun _ _ _ h => h) inv (fun X _ => by unfold bareO; go_simp) HS (fun inv => ?_)
      try simp only [Act.put, List.setIfInBounds_toArray, List.set_cons_zero, List.set_cons_succ]
      refine FirstH.go (i := 8) (v := .int .u8 (q : Nat)) rfl rfl _ rfl _ rfl (by kernel_rfl) (fun _ _ _ h => h) inv (fun X hS => by obtain ⟨s1, s2⟩ := hS; unfold bareO; go_simp) HS (fun inv => ?_)
      try simp only [Act.put, List.setIfInBounds_toArray, List.set_cons_zero, List.set_cons_succ]
      refine FirstH.go (i := 9) (v := .int .u32 m) rfl rfl _ rfl _ rfl (by kernel_rfl) (fun _ _ _ h => h) inv (fun X _ => by unfold bareO; go_simp) HS (fun inv => ?_)
      try simp only [Act.put, List.setIfInBounds_toArray, List.set_cons_zero, List.set_cons_succ]
      refine FirstH.go (i := 10) (v := .int .i64 3) rfl rfl _ rfl _ rfl (by kernel_rfl) (fun _ _ _ h => h) inv (fun X _ => by unfold bareO; go_simp) HS (fun inv => ?_)
      try simp only [Act.put, List.setIfInBounds_toArray, List.set_cons_zero, List.set_cons_succ]
      refine FirstH.go (i := 11) (v := .int .i64 24) rfl rfl _ rfl _ rfl (by kernel_rfl) (fun _ _ _ h => h) inv (fun X _ => by unfold bareO; go_simp; first | done | rfl) HS (fun inv => ?_)
      try simp only [Act.put, List.setIfInBounds_toArray, List.set_cons_zero, List.set_cons_succ]
      refine FirstH.go (i := 12) (v := .int .u32 ((m : Int) / 16777216)) rfl rfl _ rfl _ rfl (by kernel_rfl) (fun _ _ _ h => h) inv (fun X _ => by unfold bareO; go_simp) HS (fun inv => ?_)
      try simp only [Act.put, List.setIfInBounds_toArray, List.set_cons_zero, List.set_cons_succ]
      refine FirstH.go (i := 13) (v := .int .u8 ((m : Int) / 16777216)) rfl rfl _ rfl _ rfl (by kernel_rfl) (fun _ _ _ h => h) inv (fun X _ => by unfold bareO; go_simp; first | done | rfl | (show (m : Int) / 16777216 % 256 = (m : Int) / 16777216; omega)) HS (fun inv => ?_)
      try simp only [Act.put, List.setIfInBounds_toArray, List.set_cons_zero, List.set_cons_succ]
      refine FirstH.go (i := 14) (v := .int .u8 (z : Nat)) rfl rfl _ rfl _ rfl (by kernel_rfl) (fun _ _ _ h => h) inv (fun X _ => by have hxo := HXO.out; unfold bareO; go_simp) HS (fun inv => ?_)
      try simp only [Act.put, List.setIfInBounds_toArray, List.set_cons_zero, List.set_cons_succ]
      clear HS
      refine ⟨by kernel_rfl, ?_⟩
      simp only [List.drop_succ_cons, List.drop_zero]
      clear hm0 hm1
      go_wp2
      go_roundw
      case rel => exact ⟨4, by rfl, by omega, ST, Lib.hid ((KK.out.trans (KP.set (S := fun k => k = gb) wr gb _ _ rfl) fun _ _ h => h).trans (KP.of_below (Below.refl _ _).drew) fun _ _ h => h)⟩
      case measure => simp [intOf]
    · have lt : ∀ {k : Nat} {o : Obj}, W.heap[k]? = some o → k < W.heap.size := fun h => (Array.getElem?_eq_some_iff.1 h).1
      obtain ⟨cg, hcg⟩ := row_block HP.out.row (g := g) rfl
      have hg4 : wr.heap[g]? = some (.cells cg 45 (0, 0)) := (KK.out.block g GW.out HGG.out).trans hcg
      have e5 : wr.cell? ⟨g, i * 6 + 5, none⟩ = some (.bool false) := by
        obtain ⟨g', c', hv', six', _, _⟩ := HP.out.at_ (List.getElem?_eq_some_iff.1 HXI.out).1
        have hgx : g' = g := by simp at hv'; exact hv'.1.symm
        subst hgx
        have h6 := six'.c5
        rw [(List.getElem?_eq_some_iff.1 HXI.out).2] at h6
        have h7 : W.cell? ⟨g', i * 6 + 5, none⟩ = some (.bool false) := by rw [h6]; unfold Lp.cs; rw [HBAD.out]; rfl
        exact (World.cell?_of_block (a := ⟨g', i * 6 + 5, none⟩) (KK.out.block g' GW.out HGG.out)).trans h7
      have f5 := frz_row (i * 6 + 5) hg4
      have H4 := Lib.hid hg4
      have HCG := Lib.hid hcg
      clear hg4 hcg
      go_wp2
      go_ret
      obtain ⟨cur4, h1, h2⟩ := I.out
      have hb := HP.out.bag
      have hl := HP.out.lst
      have nb : b ≠ gb := (apart_of HCUR.out hb (by decide)).symm
      have nl : l ≠ gb := (apart_of HCUR.out hl (by decide)).symm
      have nbg : b ≠ g := (apart_of HCG.out hb (by decide)).symm
      have nlg : l ≠ g := (apart_of HCG.out hl (by decide)).symm
      have far : ∀ (k : Nat) (o : Obj), W.heap[k]? = some o → k ≠ gb → k ≠ g → (wr.setCell ⟨g, i * 6 + 5, none⟩ (.bool true)).heap[k]? = some o := fun k o h n1 n2 => other_set ((KK.out.block k (lt h) n1).trans h) n2 _
      have hrow := HP.out.row
      refine ⟨rfl, ⟨HP.out.hb, HP.out.hl, far _ _ hb nb nbg, far _ _ hl nl nlg, ?_, fun z hz => ?_, apart_set HP.out.ap HXI.out (spoil_key x a m), by rw [List.length_set]; exact HP.out.few, HP.out.most⟩, ?_⟩
      · have h5 := hrow.kept (w' := wr) (row := some gb) ⟨KK.out.os, KK.out.tape, KK.out.output, KK.out.size, fun k hk hne => KK.out.block k hk (fun e => hne (by rw [e]))⟩ (.inr fun e => HGG.out (by injection e))
        have h6 := (h5.stored (i * 6 + 5) (.bool true)).1
        rw [cellsL_set L i x _ (.bool true) HXI.out (spoil_cs x a m), List.length_set]
        exact h6
      · obtain ⟨j, hj⟩ := List.getElem?_of_mem hz
        rw [List.getElem?_set] at hj
        by_cases hij : i = j
        · subst hij
          rw [if_pos rfl, if_pos (List.getElem?_eq_some_iff.1 HXI.out).1] at hj
          obtain rfl := Option.some.inj hj
          have hlen := xorAt_length x.p.B a (maskB m) 4
          refine ⟨fun _ => ⟨gb, cur4, HAA.out, HGB.out, other_set h1 (Ne.symm HGG.out) _, ?_⟩, ?_, OKX.out.mx, fun hA => ?_, ?_⟩
          · show cur4.toList.take (xorAt x.p.B a (maskB m) 4).length = _
            rw [hlen, HNN.out]
            exact h2
          · show (xorAt x.p.B a (maskB m) 4).length ≤ _
            rw [hlen]
            exact OKX.out.le
          · have h8 : x.A = none := hA
            rw [HAA.out] at h8
            cases h8
          · show (xorAt x.p.B a (maskB m) 4).length ≤ _
            rw [hlen]
            exact OKX.out.len
        · rw [if_neg hij] at hj
          have hzo := HP.out.ok z (List.mem_of_getElem? hj)
          refine hzo.keep fun k cur' _ hne e hk => far k _ hk (fun e2 => ?_) (apart_of hk HCG.out (by decide))
          have := apart_at HP.out.ap HXI.out hj hij HNE.out hne
          rw [HXG.out, e, e2] at this
          exact this rfl
      · refine (KK.out.mono fun k hk => .inr (hk.trans HXG.out.symm)).trans (KP.set (S := fun k => k = g) wr g _ _ rfl) fun k _ hk => .inl ?_
        show some g = some k
        rw [hk]

end Go.Proofs.Yteaafpgkifmdeaa
