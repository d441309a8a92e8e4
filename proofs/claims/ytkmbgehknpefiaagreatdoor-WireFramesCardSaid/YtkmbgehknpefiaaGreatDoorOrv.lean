/-
  A Reader's numbers and texts: by exact answers. Condition: the Reader lies in memory.
-/
import Derived.Test.YtkmbgehknpefiaaGreatDoorOru
import Derived.Deep.RegionWith
import Derived.Deep.RegionHeld3
import Derived.BigRegion
import Derived.Deep.Draws
import Derived.RegionTactic
namespace Go.Proofs.YtkmbgehknpefiaaGreatDoor
set_option linter.unusedSimpArgs false
set_option linter.unusedVariables false
open Go.RowKit

theorem grownDrew (W : World) (row : Option Nat) : W.grownBy W.drew row := ⟨rfl, rfl, rfl, Nat.le_refl _, fun _ _ _ => rfl⟩
/-- a cell that is no reader's stays what it is over a reader's step. -/
theorem cell_other {top b p : Nat} {W W' : World} {s : RS} {v : Value} (h : RdAt top b W s) (hp : W.cell? ⟨p, 0, none⟩ = some v) (hv : ∀ A n c, v ≠ .slice A n c) (hg : W.grownBy W' (some b)) : W'.cell? ⟨p, 0, none⟩ = some v := by
  obtain ⟨_, _, A, c, h3, _⟩ := h
  have hne : p ≠ b := by
    intro e
    subst e
    rw [(cell_of_row _ _ 0 _ _ _ h3)] at hp
    have : Value.slice A s.L.length c = v := Option.some.inj hp
    exact hv _ _ _ this.symm
  exact (World.cell?_of_block (a := ⟨p, 0, none⟩) (hg.block p (block_lt_of_cell hp) (by simpa using hne))).trans hp

def RS.i (s : RS) : Int × RS := (zag (s.u 18446744073709551615).1, (s.u 18446744073709551615).2)
theorem u_eq (most : Nat) (L : List UInt8) : RS.u most ⟨L, 0⟩ = numAt most 0 0 L := by
  unfold RS.u
  rw [if_pos rfl]
theorem u_zero (most : Nat) (L : List UInt8) (h : (RS.u most ⟨L, 0⟩).2.E ≠ 0) : (RS.u most ⟨L, 0⟩).1 = 0 := by
  rw [u_eq] at h ⊢
  exact numAt_zero most L h
theorem i_zero (L : List UInt8) (h : (RS.i ⟨L, 0⟩).2.E ≠ 0) : (RS.i ⟨L, 0⟩).1 = 0 := by
  unfold RS.i at h ⊢
  rw [u_zero _ L h]
  rfl
theorem text_eq (most : Nat) (L : List UInt8) : RS.text most ⟨L, 0⟩ = textAt most L := by
  unfold RS.text textAt
  rw [u_eq]
theorem text_zero (most : Nat) (L : List UInt8) (h : (RS.text most ⟨L, 0⟩).2.E ≠ 0) : (RS.text most ⟨L, 0⟩).1 = [] := by
  rw [text_eq] at h ⊢
  unfold textAt at h ⊢
  split
  · rename_i h1
    rw [if_pos h1] at h
    split
    · rename_i h2
      rw [if_pos h2] at h
      exact absurd rfl h
    · rfl
  · rfl

set_option maxRecDepth 100000 in
set_option maxHeartbeats 1000000 in
theorem kindU (top b p q most : Nat) (L : List UInt8) (W : World) (h : RdAt top b W ⟨L, 0⟩) (hp : W.cell? ⟨p, 0, none⟩ = some (.pointer (some ⟨b, 0, none⟩))) (hq : W.cell? ⟨q, 0, none⟩ = some (.int .u64 most)) (hm : most < 18446744073709551616) :
    Calls Tryz.prog 160 #[.pointer (some ⟨p, 0, none⟩), .pointer (some ⟨q, 0, none⟩)] W fun e W' => e = .returned (.tuple #[.int .u64 (RS.u most ⟨L, 0⟩).1, .int .i64 (RS.u most ⟨L, 0⟩).2.E]) ∧ ∃ L', RdAt top b W' ⟨L', 0⟩ ∧ ((RS.u most ⟨L, 0⟩).2.E = 0 → L' = (RS.u most ⟨L, 0⟩).2.L) ∧ W.grownBy W' (some b) := by
  have K := Lib.hid (fun W0 (h0 : RdAt top b W0 ⟨L, 0⟩) => numO top b most L W0 h0 hm)
  rw [u_eq]
  have H0 := Lib.hid (h.below ((Below.refl _ _).drew))
  have S0 : Hid (W.drew.cell? ⟨p, 0, none⟩ = some (.pointer (some ⟨b, 0, none⟩)) ∧ W.drew.cell? ⟨q, 0, none⟩ = some (.int .u64 most)) := Lib.hid ⟨hp, hq⟩
  clear h
  go_enter Tryz.func160, Tryz.ntmps160
  go_wp2
  go_region_held3 (fun W1 => W1.cell? ⟨p, 0, none⟩ = some (.pointer (some ⟨b, 0, none⟩)) ∧ W1.cell? ⟨q, 0, none⟩ = some (.int .u64 most)) ((first | (exact S1.out) | (exact S0.out) | (exact ⟨hp, hq⟩) | (simp; done) | go_keep)) ((go_at_call 161; refine (K.out _ H0.out).mono ?_; rintro e w1 ⟨rfl, HH⟩; have S1 : Hid (w1.cell? ⟨p, 0, none⟩ = some (.pointer (some ⟨b, 0, none⟩)) ∧ w1.cell? ⟨q, 0, none⟩ = some (.int .u64 most)) := Lib.hid ⟨cell_other H0.out S0.out.1 (by simp) HH.choose_spec.2.2, cell_other H0.out S0.out.2 (by simp) HH.choose_spec.2.2⟩))
  go_wp2
  go_ret2
  obtain ⟨L', r1, hz, hg⟩ := HH
  exact ⟨rfl, L', r1, hz, grownTrans (grownDrew _ _) hg⟩

set_option maxRecDepth 100000 in
set_option maxHeartbeats 1000000 in
theorem fieldU (top b p q most : Nat) (s : RS) (W : World) (h : RdAt top b W s) (hp : W.cell? ⟨p, 0, none⟩ = some (.pointer (some ⟨b, 0, none⟩))) (hq : W.cell? ⟨q, 0, none⟩ = some (.int .u64 most)) (hm : most < 18446744073709551616) :
    Calls Tryz.prog 159 #[.pointer (some ⟨b, 0, none⟩), .func (.func 160) #[] #[.pointer (some ⟨p, 0, none⟩), .pointer (some ⟨q, 0, none⟩)]] W fun e W' => e = .returned (.int .u64 (RS.u most s).1) ∧ RdAt top b W' (RS.u most s).2 ∧ W.grownBy W' (some b) := by
  have K0 := Lib.hid (errO top b s W h)
  obtain ⟨L, E⟩ := s
  by_cases hE : E = 0
  · subst hE
    have K1 := Lib.hid (kindU top b p q most L W h hp hq hm)
    have hok : (RS.u most ⟨L, 0⟩).2.ok := u_ok (by intro h; exact absurd rfl h) most
    have hz : (RS.u most ⟨L, 0⟩).2.E ≠ 0 → (RS.u most ⟨L, 0⟩).1 = 0 := u_zero most L
    obtain ⟨N, hN⟩ : ∃ N, RS.u most ⟨L, 0⟩ = N := ⟨_, rfl⟩
    rw [hN] at K1 hok hz ⊢
    clear h hp hq
    by_cases he : N.2.E = 0
    · have he' : (N.2.E : Int) = 0 := by omega
      go_enter Tryz.func159, Tryz.ntmps159
      go_wp2_with fail
      refine K0.out.mono ?_
      rintro e w1 ⟨rfl, rfl⟩
      go_wp2_with fail
      refine K1.out.mono ?_
      rintro e w1 ⟨rfl, L', H, hL, hg⟩
      obtain rfl := hL he
      go_wp2
      go_ret
      refine ⟨rfl, ?_, hg⟩
      rw [show N.2 = ⟨N.2.L, 0⟩ by rw [← he]]
      exact H
    · have he' : ¬ (N.2.E : Int) = 0 := by omega
      go_enter Tryz.func159, Tryz.ntmps159
      go_wp2_with fail
      refine K0.out.mono ?_
      rintro e w1 ⟨rfl, rfl⟩
      go_wp2_with fail
      refine K1.out.mono ?_
      rintro e w1 ⟨rfl, L', H, hL, hg⟩
      have K2 := Lib.hid (failO top b N.2.E ⟨L', 0⟩ w1 H)
      rw [fail_whole hok he] at K2
      clear H
      go_wp2_with fail
      refine K2.out.mono ?_
      rintro e w2 ⟨rfl, H, hg2⟩
      go_wp2
      go_ret
      exact ⟨by rw [hz he]; rfl, H, grownTrans hg hg2⟩
  · have hE' : ¬ (E : Int) = 0 := by omega
    have H := Lib.hid h
    have hb : RS.u most ⟨L, E⟩ = (0, ⟨L, E⟩) := by unfold RS.u; rw [if_neg hE]
    rw [hb]
    clear h hp hq
    go_enter Tryz.func159, Tryz.ntmps159
    go_wp2_with fail
    refine K0.out.mono ?_
    rintro e w1 ⟨rfl, rfl⟩
    go_wp2
    go_ret
    exact ⟨rfl, H.out, grownRefl _ _⟩

set_option maxRecDepth 100000 in
set_option maxHeartbeats 1000000 in
theorem kindI (top b p : Nat) (L : List UInt8) (W : World) (h : RdAt top b W ⟨L, 0⟩) (hp : W.cell? ⟨p, 0, none⟩ = some (.pointer (some ⟨b, 0, none⟩))) :
    Calls Tryz.prog 197 #[.pointer (some ⟨p, 0, none⟩)] W fun e W' => e = .returned (.tuple #[.int .i64 (RS.i ⟨L, 0⟩).1, .int .i64 (RS.i ⟨L, 0⟩).2.E]) ∧ ∃ L', RdAt top b W' ⟨L', 0⟩ ∧ ((RS.i ⟨L, 0⟩).2.E = 0 → L' = (RS.i ⟨L, 0⟩).2.L) ∧ W.grownBy W' (some b) := by
  have K := Lib.hid (sgnO top b L W h)
  unfold RS.i
  rw [u_eq]
  clear h
  go_enter Tryz.func197, Tryz.ntmps197
  go_wp2_with fail
  refine K.out.mono ?_
  rintro e w1 ⟨rfl, H⟩
  go_wp2
  go_ret2
  exact ⟨rfl, H⟩

set_option maxRecDepth 100000 in
set_option maxHeartbeats 1000000 in
theorem fieldI (top b p : Nat) (s : RS) (W : World) (h : RdAt top b W s) (hp : W.cell? ⟨p, 0, none⟩ = some (.pointer (some ⟨b, 0, none⟩))) :
    Calls Tryz.prog 196 #[.pointer (some ⟨b, 0, none⟩), .func (.func 197) #[] #[.pointer (some ⟨p, 0, none⟩)]] W fun e W' => e = .returned (.int .i64 (RS.i s).1) ∧ RdAt top b W' (RS.i s).2 ∧ W.grownBy W' (some b) := by
  have K0 := Lib.hid (errO top b s W h)
  obtain ⟨L, E⟩ := s
  by_cases hE : E = 0
  · subst hE
    have K1 := Lib.hid (kindI top b p L W h hp)
    have hok : (RS.i ⟨L, 0⟩).2.ok := u_ok (by intro h; exact absurd rfl h) _
    have hz : (RS.i ⟨L, 0⟩).2.E ≠ 0 → (RS.i ⟨L, 0⟩).1 = 0 := i_zero L
    obtain ⟨N, hN⟩ : ∃ N, RS.i ⟨L, 0⟩ = N := ⟨_, rfl⟩
    rw [hN] at K1 hok hz ⊢
    clear h hp
    by_cases he : N.2.E = 0
    · have he' : (N.2.E : Int) = 0 := by omega
      go_enter Tryz.func196, Tryz.ntmps196
      go_wp2_with fail
      refine K0.out.mono ?_
      rintro e w1 ⟨rfl, rfl⟩
      go_wp2_with fail
      refine K1.out.mono ?_
      rintro e w1 ⟨rfl, L', H, hL, hg⟩
      obtain rfl := hL he
      go_wp2
      go_ret
      refine ⟨rfl, ?_, hg⟩
      rw [show N.2 = ⟨N.2.L, 0⟩ by rw [← he]]
      exact H
    · have he' : ¬ (N.2.E : Int) = 0 := by omega
      go_enter Tryz.func196, Tryz.ntmps196
      go_wp2_with fail
      refine K0.out.mono ?_
      rintro e w1 ⟨rfl, rfl⟩
      go_wp2_with fail
      refine K1.out.mono ?_
      rintro e w1 ⟨rfl, L', H, hL, hg⟩
      have K2 := Lib.hid (failO top b N.2.E ⟨L', 0⟩ w1 H)
      rw [fail_whole hok he] at K2
      clear H
      go_wp2_with fail
      refine K2.out.mono ?_
      rintro e w2 ⟨rfl, H, hg2⟩
      go_wp2
      go_ret
      exact ⟨by rw [hz he]; rfl, H, grownTrans hg hg2⟩
  · have hE' : ¬ (E : Int) = 0 := by omega
    have H := Lib.hid h
    have hb : RS.i ⟨L, E⟩ = (0, ⟨L, E⟩) := by unfold RS.i RS.u; rw [if_neg hE]; simp [zag]
    rw [hb]
    clear h hp
    go_enter Tryz.func196, Tryz.ntmps196
    go_wp2_with fail
    refine K0.out.mono ?_
    rintro e w1 ⟨rfl, rfl⟩
    go_wp2
    go_ret
    exact ⟨rfl, H.out, grownRefl _ _⟩

set_option maxRecDepth 100000 in
set_option maxHeartbeats 1000000 in
theorem kindT (top b p q : Nat) (most : Int) (L : List UInt8) (W : World) (h : RdAt top b W ⟨L, 0⟩) (hp : W.cell? ⟨p, 0, none⟩ = some (.pointer (some ⟨b, 0, none⟩))) (hq : W.cell? ⟨q, 0, none⟩ = some (.int .i64 most)) (hm : most ≤ 9223372036854775807) :
    Calls Tryz.prog 168 #[.pointer (some ⟨p, 0, none⟩), .pointer (some ⟨q, 0, none⟩)] W fun e W' => e = .returned (.tuple #[.string ⟨(RS.text most.toNat ⟨L, 0⟩).1.toArray⟩, .int .i64 (RS.text most.toNat ⟨L, 0⟩).2.E]) ∧ ∃ L', RdAt top b W' ⟨L', 0⟩ ∧ ((RS.text most.toNat ⟨L, 0⟩).2.E = 0 → L' = (RS.text most.toNat ⟨L, 0⟩).2.L) ∧ W.grownBy W' (some b) := by
  have K := Lib.hid (fun W0 (h0 : RdAt top b W0 ⟨L, 0⟩) => txtO top b most L W0 h0 hm)
  rw [text_eq]
  have H0 := Lib.hid (h.below ((Below.refl _ _).drew))
  have S0 : Hid (W.drew.cell? ⟨p, 0, none⟩ = some (.pointer (some ⟨b, 0, none⟩)) ∧ W.drew.cell? ⟨q, 0, none⟩ = some (.int .i64 most)) := Lib.hid ⟨hp, hq⟩
  clear h
  go_enter Tryz.func168, Tryz.ntmps168
  go_wp2
  go_region_held3 (fun W1 => W1.cell? ⟨p, 0, none⟩ = some (.pointer (some ⟨b, 0, none⟩)) ∧ W1.cell? ⟨q, 0, none⟩ = some (.int .i64 most)) ((first | (exact S1.out) | (exact S0.out) | (exact ⟨hp, hq⟩) | (simp; done) | go_keep)) ((go_at_call 169; refine (K.out _ H0.out).mono ?_; rintro e w1 ⟨rfl, HH⟩; have S1 : Hid (w1.cell? ⟨p, 0, none⟩ = some (.pointer (some ⟨b, 0, none⟩)) ∧ w1.cell? ⟨q, 0, none⟩ = some (.int .i64 most)) := Lib.hid ⟨cell_other H0.out S0.out.1 (by simp) HH.choose_spec.2.2, cell_other H0.out S0.out.2 (by simp) HH.choose_spec.2.2⟩))
  go_wp2
  go_ret2
  obtain ⟨L', r1, hz, hg⟩ := HH
  exact ⟨rfl, L', r1, hz, grownTrans (grownDrew _ _) hg⟩

set_option maxRecDepth 100000 in
set_option maxHeartbeats 1000000 in
theorem fieldT (top b p q : Nat) (most : Int) (s : RS) (W : World) (h : RdAt top b W s) (hp : W.cell? ⟨p, 0, none⟩ = some (.pointer (some ⟨b, 0, none⟩))) (hq : W.cell? ⟨q, 0, none⟩ = some (.int .i64 most)) (hm : most ≤ 9223372036854775807) :
    Calls Tryz.prog 167 #[.pointer (some ⟨b, 0, none⟩), .func (.func 168) #[] #[.pointer (some ⟨p, 0, none⟩), .pointer (some ⟨q, 0, none⟩)]] W fun e W' => e = .returned (.string ⟨(RS.text most.toNat s).1.toArray⟩) ∧ RdAt top b W' (RS.text most.toNat s).2 ∧ W.grownBy W' (some b) := by
  have K0 := Lib.hid (errO top b s W h)
  obtain ⟨L, E⟩ := s
  by_cases hE : E = 0
  · subst hE
    have K1 := Lib.hid (kindT top b p q most L W h hp hq hm)
    have hok : (RS.text most.toNat ⟨L, 0⟩).2.ok := text_ok (by intro h; exact absurd rfl h) _
    have hz : (RS.text most.toNat ⟨L, 0⟩).2.E ≠ 0 → (RS.text most.toNat ⟨L, 0⟩).1 = [] := text_zero most.toNat L
    obtain ⟨N, hN⟩ : ∃ N, RS.text most.toNat ⟨L, 0⟩ = N := ⟨_, rfl⟩
    rw [hN] at K1 hok hz ⊢
    clear h hp hq
    by_cases he : N.2.E = 0
    · have he' : (N.2.E : Int) = 0 := by omega
      go_enter Tryz.func167, Tryz.ntmps167
      go_wp2_with fail
      refine K0.out.mono ?_
      rintro e w1 ⟨rfl, rfl⟩
      go_wp2_with fail
      refine K1.out.mono ?_
      rintro e w1 ⟨rfl, L', H, hL, hg⟩
      obtain rfl := hL he
      go_wp2
      go_ret
      refine ⟨rfl, ?_, hg⟩
      rw [show N.2 = ⟨N.2.L, 0⟩ by rw [← he]]
      exact H
    · have he' : ¬ (N.2.E : Int) = 0 := by omega
      go_enter Tryz.func167, Tryz.ntmps167
      go_wp2_with fail
      refine K0.out.mono ?_
      rintro e w1 ⟨rfl, rfl⟩
      go_wp2_with fail
      refine K1.out.mono ?_
      rintro e w1 ⟨rfl, L', H, hL, hg⟩
      have K2 := Lib.hid (failO top b N.2.E ⟨L', 0⟩ w1 H)
      rw [fail_whole hok he] at K2
      clear H
      go_wp2_with fail
      refine K2.out.mono ?_
      rintro e w2 ⟨rfl, H, hg2⟩
      go_wp2
      go_ret
      exact ⟨by rw [hz he]; rfl, H, grownTrans hg hg2⟩
  · have hE' : ¬ (E : Int) = 0 := by omega
    have H := Lib.hid h
    have hb : RS.text most.toNat ⟨L, E⟩ = ([], ⟨L, E⟩) := by unfold RS.text RS.u; rw [if_neg hE, if_neg hE]
    rw [hb]
    clear h hp hq
    go_enter Tryz.func167, Tryz.ntmps167
    go_wp2_with fail
    refine K0.out.mono ?_
    rintro e w1 ⟨rfl, rfl⟩
    go_wp2
    go_ret
    exact ⟨rfl, H.out, grownRefl _ _⟩

theorem two_cells (W : World) (t u : TypeId) (v x : Value) : ((W.alloc (.cells #[v] t)).alloc (.cells #[x] u)).cell? ⟨W.heap.size, 0, none⟩ = some v ∧ ((W.alloc (.cells #[v] t)).alloc (.cells #[x] u)).cell? ⟨W.heap.size + 1, 0, none⟩ = some x := by
  refine ⟨((Boxed.new W t v).alloc _).cell, ?_⟩
  have := (Boxed.new (W.alloc (.cells #[v] t)) u x).cell
  rw [show (W.alloc (.cells #[v] t)).heap.size = W.heap.size + 1 by simp] at this
  exact this

set_option maxRecDepth 100000 in
set_option maxHeartbeats 1000000 in
theorem rU (top b most : Nat) (s : RS) (W : World) (h : RdAt top b W s) (hm : most < 18446744073709551616) :
    Calls Tryz.prog 107 #[.pointer (some ⟨b, 0, none⟩), .int .u64 most] W fun e W' => e = .returned (.int .u64 (s.u most).1) ∧ RdAt top b W' (s.u most).2 ∧ W.grownBy W' (some b) := by
  have K := Lib.hid (fieldU top b W.heap.size (W.heap.size + 1) most s ((W.alloc (.cells #[.pointer (some ⟨b, 0, none⟩)] 102)).alloc (.cells #[.int .u64 most] 23)) ((h.alloc _).alloc _) (two_cells _ _ _ _ _).1 (two_cells _ _ _ _ _).2 hm)
  clear h
  go_enter Tryz.func107, Tryz.ntmps107
  go_wp2_with fail
  refine K.out.mono ?_
  rintro e w1 ⟨rfl, H, hg⟩
  go_wp2
  go_ret
  exact ⟨rfl, H, grownAlloc (grownAlloc hg)⟩

set_option maxRecDepth 100000 in
set_option maxHeartbeats 1000000 in
theorem rI (top b : Nat) (s : RS) (W : World) (h : RdAt top b W s) :
    Calls Tryz.prog 182 #[.pointer (some ⟨b, 0, none⟩)] W fun e W' => e = .returned (.int .i64 s.i.1) ∧ RdAt top b W' s.i.2 ∧ W.grownBy W' (some b) := by
  have K := Lib.hid (fieldI top b W.heap.size s (W.alloc (.cells #[.pointer (some ⟨b, 0, none⟩)] 102)) (h.alloc _) (new_cell _ _ _))
  clear h
  go_enter Tryz.func182, Tryz.ntmps182
  go_wp2_with fail
  refine K.out.mono ?_
  rintro e w1 ⟨rfl, H, hg⟩
  go_wp2
  go_ret
  exact ⟨rfl, H, grownAlloc hg⟩

set_option maxRecDepth 100000 in
set_option maxHeartbeats 1000000 in
theorem rT (top b : Nat) (most : Int) (s : RS) (W : World) (h : RdAt top b W s) (hm : most ≤ 9223372036854775807) :
    Calls Tryz.prog 129 #[.pointer (some ⟨b, 0, none⟩), .int .i64 most] W fun e W' => e = .returned (.string ⟨(s.text most.toNat).1.toArray⟩) ∧ RdAt top b W' (s.text most.toNat).2 ∧ W.grownBy W' (some b) := by
  have K := Lib.hid (fieldT top b W.heap.size (W.heap.size + 1) most s ((W.alloc (.cells #[.pointer (some ⟨b, 0, none⟩)] 102)).alloc (.cells #[.int .i64 most] 3)) ((h.alloc _).alloc _) (two_cells _ _ _ _ _).1 (two_cells _ _ _ _ _).2 hm)
  clear h
  go_enter Tryz.func129, Tryz.ntmps129
  go_wp2_with fail
  refine K.out.mono ?_
  rintro e w1 ⟨rfl, H, hg⟩
  go_wp2
  go_ret
  exact ⟨rfl, H, grownAlloc (grownAlloc hg)⟩

end Go.Proofs.YtkmbgehknpefiaaGreatDoor
