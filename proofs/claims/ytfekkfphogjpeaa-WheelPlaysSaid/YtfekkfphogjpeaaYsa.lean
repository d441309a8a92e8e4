/-
  The law's same: two lists of the same keys. Condition: each number of a key fits its kind.
-/
import Derived.Test.YtfekkfphogjpeaaYpk
namespace Go.Proofs.Ytfekkfphogjpeaa
set_option linter.unusedSimpArgs false
set_option linter.unusedVariables false
open Go.RowKit Go.Maps Go.Sort

set_option maxRecDepth 100000 in
set_option maxHeartbeats 4000000 in
theorem sameW (W : World) (A B : Option Addr) (n ca cb : Nat) (ks : List K13) (hn : ks.length = n) (ha : n ≤ ca) (hb : n ≤ cb) (hc : n ≤ 1000) (rng : ∀ x ∈ ks, x.Rng) (rA : KRow W A ks) (rB : KRow W B ks) :
    Calls Try.prog 18 #[.slice A n ca, .slice B n cb] W fun e W' => e = .returned (.bool true) ∧ Below W.heap.size W W' := by
  have HN := Lib.hid hn
  have HH := Lib.hid (⟨ha, hb, hc⟩ : n ≤ ca ∧ n ≤ cb ∧ n ≤ 1000)
  have RA := Lib.hid rA
  have RB := Lib.hid rB
  clear hn ha hb hc rA rB
  go_enter Try.func18, Try.ntmps18
  go_wp2
  go_loopw [5] (fun z wx => ∃ k : Nat, z = .int .i64 k ∧ k ≤ n ∧ Hid (Below W.heap.size W wx)) (fun z _ => n - (intOf z).toNat)
  case atStart => exact ⟨0, rfl, Nat.zero_le _, Lib.hid (Below.refl _ _)⟩
  case round =>
    obtain ⟨k, rfl, hk, BX⟩ := hrel
    by_cases hlt : k < n
    · have h1 : (k : Int) < (n : Int) := by omega
      have h2 : (n : Int) ≤ (ca : Int) := by have := HH.out.1; omega
      have h3 : (n : Int) ≤ (cb : Int) := by have := HH.out.2.1; omega
      have h4 : (n : Int) ≤ 1000 := by have := HH.out.2.2; omega
      have hkl : k < ks.length := by have := HN.out; omega
      have hx := List.getElem?_eq_getElem hkl
      have rx := rng _ (List.getElem_mem hkl)
      obtain ⟨ga, e1, k1⟩ := RA.out k _ hx
      obtain ⟨gb, e2, k2⟩ := RB.out k _ hx
      obtain ⟨x, hxx⟩ : ∃ x, ks[k] = x := ⟨_, rfl⟩
      rw [hxx] at k1 k2 rx
      have e1h := Lib.hid e1
      have e2h := Lib.hid e2
      subst e1 e2
      have HA := Lib.hid (fun (X : World) (hX : Below wr.heap.size wr X) => (k1.below BX.out).below hX)
      have HB := Lib.hid (fun (X : World) (hX : Below wr.heap.size wr X) => (k2.below BX.out).below hX)
      have TK := Lib.hid (fun w => toKey x w)
      unfold KAt K13.cs at HA HB
      unfold K13.cs at TK
      clear hkl hx rx k1 k2 hxx
      go_wp2
      have B0 := Lib.hid (show Below wr.heap.size wr wr.drew from (Below.refl _ _).drew)
      refine region_heldT (S := fun X => Below wr.heap.size wr X) 9 (by kernel_rfl) (by decide) (fun inv => ?_)
      change FirstH _ _ _ _ _ _ _ _ _ _ wr.drew
      have HS := B0.out
      refine FirstH.go (i := 0) (v := .slice (some ⟨ga, 0, none⟩) n ca) rfl rfl _ rfl _ rfl (by kernel_rfl) (fun _ _ _ h => h) inv (fun X _ => by unfold bareO; go_simp) HS (fun inv => ?_)
      try simp only [Act.put, List.setIfInBounds_toArray, List.set_cons_zero, List.set_cons_succ]
      refine FirstH.go (i := 1) (v := .int .i64 k) rfl rfl _ rfl _ rfl (by kernel_rfl) (fun _ _ _ h => h) inv (fun X _ => by unfold bareO; go_simp) HS (fun inv => ?_)
      try simp only [Act.put, List.setIfInBounds_toArray, List.set_cons_zero, List.set_cons_succ]
      refine FirstH.go (i := 2) (v := .pointer (some ⟨ga, k * 13, none⟩)) rfl rfl _ rfl _ rfl (by kernel_rfl) (fun _ _ _ h => h) inv (fun X _ => by unfold bareO; go_simp) HS (fun inv => ?_)
      try simp only [Act.put, List.setIfInBounds_toArray, List.set_cons_zero, List.set_cons_succ]
      refine FirstH.go (i := 3) (v := .agg #[.int .u8 x.k, .int .u8 x.pn, .int .u16 x.pl, .int .u8 x.x.n, .int .u16 x.x.l, .int .u32 x.x.s, .int .u8 x.x.d, .int .u8 x.x.a0, .int .u8 x.x.a1, .int .u8 x.x.b0, .int .u8 x.x.b1, .int .u8 x.x.c0, .int .u8 x.x.c1]) rfl rfl _ rfl _ rfl (by kernel_rfl) (fun _ _ _ h => h) inv (fun X hS => by have c0 : X.cell? ⟨ga, k * 13, none⟩ = _ := HA.out X hS 0 _ rfl; have c1 : X.cell? ⟨ga, k * 13 + 1, none⟩ = _ := HA.out X hS 1 _ rfl; have c2 : X.cell? ⟨ga, k * 13 + 2, none⟩ = _ := HA.out X hS 2 _ rfl; have c3 : X.cell? ⟨ga, k * 13 + 3, none⟩ = _ := HA.out X hS 3 _ rfl; have c4 : X.cell? ⟨ga, k * 13 + 4, none⟩ = _ := HA.out X hS 4 _ rfl; have c5 : X.cell? ⟨ga, k * 13 + 5, none⟩ = _ := HA.out X hS 5 _ rfl; have c6 : X.cell? ⟨ga, k * 13 + 6, none⟩ = _ := HA.out X hS 6 _ rfl; have c7 : X.cell? ⟨ga, k * 13 + 7, none⟩ = _ := HA.out X hS 7 _ rfl; have c8 : X.cell? ⟨ga, k * 13 + 8, none⟩ = _ := HA.out X hS 8 _ rfl; have c9 : X.cell? ⟨ga, k * 13 + 9, none⟩ = _ := HA.out X hS 9 _ rfl; have c10 : X.cell? ⟨ga, k * 13 + 10, none⟩ = _ := HA.out X hS 10 _ rfl; have c11 : X.cell? ⟨ga, k * 13 + 11, none⟩ = _ := HA.out X hS 11 _ rfl; have c12 : X.cell? ⟨ga, k * 13 + 12, none⟩ = _ := HA.out X hS 12 _ rfl; unfold bareO; go_simp) HS (fun inv => ?_)
      try simp only [Act.put, List.setIfInBounds_toArray, List.set_cons_zero, List.set_cons_succ]
      refine FirstH.go (i := 4) (v := .slice (some ⟨gb, 0, none⟩) n cb) rfl rfl _ rfl _ rfl (by kernel_rfl) (fun _ _ _ h => h) inv (fun X _ => by unfold bareO; go_simp) HS (fun inv => ?_)
      try simp only [Act.put, List.setIfInBounds_toArray, List.set_cons_zero, List.set_cons_succ]
      refine FirstH.go (i := 5) (v := .int .i64 k) rfl rfl _ rfl _ rfl (by kernel_rfl) (fun _ _ _ h => h) inv (fun X _ => by unfold bareO; go_simp) HS (fun inv => ?_)
      try simp only [Act.put, List.setIfInBounds_toArray, List.set_cons_zero, List.set_cons_succ]
      refine FirstH.go (i := 6) (v := .pointer (some ⟨gb, k * 13, none⟩)) rfl rfl _ rfl _ rfl (by kernel_rfl) (fun _ _ _ h => h) inv (fun X _ => by unfold bareO; go_simp) HS (fun inv => ?_)
      try simp only [Act.put, List.setIfInBounds_toArray, List.set_cons_zero, List.set_cons_succ]
      refine FirstH.go (i := 7) (v := .agg #[.int .u8 x.k, .int .u8 x.pn, .int .u16 x.pl, .int .u8 x.x.n, .int .u16 x.x.l, .int .u32 x.x.s, .int .u8 x.x.d, .int .u8 x.x.a0, .int .u8 x.x.a1, .int .u8 x.x.b0, .int .u8 x.x.b1, .int .u8 x.x.c0, .int .u8 x.x.c1]) rfl rfl _ rfl _ rfl (by kernel_rfl) (fun _ _ _ h => h) inv (fun X hS => by have c0 : X.cell? ⟨gb, k * 13, none⟩ = _ := HB.out X hS 0 _ rfl; have c1 : X.cell? ⟨gb, k * 13 + 1, none⟩ = _ := HB.out X hS 1 _ rfl; have c2 : X.cell? ⟨gb, k * 13 + 2, none⟩ = _ := HB.out X hS 2 _ rfl; have c3 : X.cell? ⟨gb, k * 13 + 3, none⟩ = _ := HB.out X hS 3 _ rfl; have c4 : X.cell? ⟨gb, k * 13 + 4, none⟩ = _ := HB.out X hS 4 _ rfl; have c5 : X.cell? ⟨gb, k * 13 + 5, none⟩ = _ := HB.out X hS 5 _ rfl; have c6 : X.cell? ⟨gb, k * 13 + 6, none⟩ = _ := HB.out X hS 6 _ rfl; have c7 : X.cell? ⟨gb, k * 13 + 7, none⟩ = _ := HB.out X hS 7 _ rfl; have c8 : X.cell? ⟨gb, k * 13 + 8, none⟩ = _ := HB.out X hS 8 _ rfl; have c9 : X.cell? ⟨gb, k * 13 + 9, none⟩ = _ := HB.out X hS 9 _ rfl; have c10 : X.cell? ⟨gb, k * 13 + 10, none⟩ = _ := HB.out X hS 10 _ rfl; have c11 : X.cell? ⟨gb, k * 13 + 11, none⟩ = _ := HB.out X hS 11 _ rfl; have c12 : X.cell? ⟨gb, k * 13 + 12, none⟩ = _ := HB.out X hS 12 _ rfl; unfold bareO; go_simp) HS (fun inv => ?_)
      try simp only [Act.put, List.setIfInBounds_toArray, List.set_cons_zero, List.set_cons_succ]
      refine FirstH.only (i := 8) (by kernel_rfl) (by decide) inv (fun inv => wpOp_call (i := 8) rfl rfl 25 rfl _ rfl 12 #[.agg #[.int .u8 x.k, .int .u8 x.pn, .int .u16 x.pl, .int .u8 x.x.n, .int .u16 x.x.l, .int .u32 x.x.s, .int .u8 x.x.d, .int .u8 x.x.a0, .int .u8 x.x.a1, .int .u8 x.x.b0, .int .u8 x.x.b1, .int .u8 x.x.c0, .int .u8 x.x.c1]] (by unfold bareO; go_simp) (TK.out _) ?_)
      rintro e w9 ⟨rfl, b9⟩
      have HS9 := HS.trans (b9.mono HS.size)
      refine ⟨_, rfl, HS9, ?_⟩
      try simp only [Act.put, List.setIfInBounds_toArray, List.set_cons_zero, List.set_cons_succ]
      clear HS b9
      have B9 := Lib.hid (BX.out.trans (HS9.mono BX.out.size))
      clear HS9
      refine ⟨by kernel_rfl, ?_⟩
      simp only [List.drop_succ_cons, List.drop_zero]
      refine wpList_val rfl 26 rfl _ rfl (neOpP x x _ _ _ rfl rfl) ?_
      have e3 : decide (x = x) = true := decide_eq_true rfl
      go_wp2
      go_roundw
      case rel => exact ⟨k + 1, by go_num, by omega, B9⟩
      case measure => simp [intOf]; omega
    · obtain rfl : k = n := by omega
      go_wp2
      go_ret
      exact ⟨rfl, BX.out⟩

end Go.Proofs.Ytfekkfphogjpeaa
