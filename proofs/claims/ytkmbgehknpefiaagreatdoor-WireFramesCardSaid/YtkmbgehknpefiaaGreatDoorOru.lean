/-
  A Reader's calls: by exact answers. Condition: the Reader lies in memory.
-/
import Derived.Test.YtkmbgehknpefiaaGreatDoorOrt
namespace Go.Proofs.YtkmbgehknpefiaaGreatDoor
set_option linter.unusedSimpArgs false
set_option linter.unusedVariables false
open Go.RowKit

set_option maxRecDepth 100000 in
set_option maxHeartbeats 1000000 in
theorem kindB (top b p : Nat) (L : List UInt8) (W : World) (h : RdAt top b W ⟨L, 0⟩) (hp : W.cell? ⟨p, 0, none⟩ = some (.pointer (some ⟨b, 0, none⟩))) :
    Calls Tryz.prog 155 #[.pointer (some ⟨p, 0, none⟩)] W fun e W' => e = .returned (.tuple #[.int .u8 (RS.b ⟨L, 0⟩).1, .int .i64 (RS.b ⟨L, 0⟩).2.E]) ∧ ∃ L', RdAt top b W' ⟨L', 0⟩ ∧ ((RS.b ⟨L, 0⟩).2.E = 0 → L' = (RS.b ⟨L, 0⟩).2.L) ∧ W.grownBy W' (some b) := by
  cases L with
  | nil =>
    have K := Lib.hid (octO0 top b W h)
    have H := Lib.hid h
    clear h
    go_enter Tryz.func155, Tryz.ntmps155
    go_wp2_with fail
    refine K.out.mono ?_
    rintro e w1 ⟨rfl, rfl⟩
    go_wp2
    go_ret2
    exact ⟨rfl, [], H.out, (fun h => by cases h), grownRefl _ _⟩
  | cons x L =>
    have K := Lib.hid (octO1 top b x L W h)
    clear h
    go_enter Tryz.func155, Tryz.ntmps155
    go_wp2_with fail
    refine K.out.mono ?_
    rintro e w1 ⟨rfl, H, hg⟩
    go_wp2
    go_ret2
    exact ⟨rfl, L, H, fun _ => rfl, hg⟩

/-- a reader's block is not turned where one other is laid. -/
theorem RdAt.alloc {top b : Nat} {W : World} {s : RS} (h : RdAt top b W s) (o : Obj) : RdAt top b (W.alloc o) s := h.below ((Below.refl top W).alloc h.fits o)
theorem fail_whole {L' : List UInt8} {t : RS} (h : t.ok) (he : t.E ≠ 0) : RS.fail t.E ⟨L', 0⟩ = t := by
  unfold RS.fail
  rw [if_pos ⟨rfl, he⟩, ← h he]
theorem new_cell (W : World) (t : TypeId) (v : Value) : (W.alloc (.cells #[v] t)).cell? ⟨W.heap.size, 0, none⟩ = some v := (Boxed.new W t v).cell

set_option maxRecDepth 100000 in
set_option maxHeartbeats 1000000 in
theorem fieldB (top b p : Nat) (s : RS) (W : World) (h : RdAt top b W s) (hp : W.cell? ⟨p, 0, none⟩ = some (.pointer (some ⟨b, 0, none⟩))) :
    Calls Tryz.prog 154 #[.pointer (some ⟨b, 0, none⟩), .func (.func 155) #[] #[.pointer (some ⟨p, 0, none⟩)]] W fun e W' => e = .returned (.int .u8 s.b.1) ∧ RdAt top b W' s.b.2 ∧ W.grownBy W' (some b) := by
  have K0 := Lib.hid (errO top b s W h)
  obtain ⟨L, E⟩ := s
  by_cases hE : E = 0
  · subst hE
    have K1 := Lib.hid (kindB top b p L W h hp)
    have hok : (RS.b ⟨L, 0⟩).2.ok := b_ok (by intro h; exact absurd rfl h)
    have hz : (RS.b ⟨L, 0⟩).2.E ≠ 0 → (RS.b ⟨L, 0⟩).1 = 0 := by
      cases L with
      | nil => intro _; rfl
      | cons x L => intro h; exact absurd rfl h
    obtain ⟨N, hN⟩ : ∃ N, RS.b ⟨L, 0⟩ = N := ⟨_, rfl⟩
    rw [hN] at K1 hok hz ⊢
    clear h hp
    by_cases he : N.2.E = 0
    · have he' : (N.2.E : Int) = 0 := by omega
      go_enter Tryz.func154, Tryz.ntmps154
      go_wp2_with fail
      refine K0.out.mono ?_
      rintro e w1 ⟨rfl, rfl⟩
      go_wp2_with fail
      refine K1.out.mono ?_
      rintro e w1 ⟨rfl, L', H, hL, hg⟩
      obtain rfl := hL he
      go_wp2
      go_ret
      refine ⟨rfl, ?_, hg⟩
      rw [show N.2 = ⟨N.2.L, 0⟩ by rw [← he]]
      exact H
    · have he' : ¬ (N.2.E : Int) = 0 := by omega
      go_enter Tryz.func154, Tryz.ntmps154
      go_wp2_with fail
      refine K0.out.mono ?_
      rintro e w1 ⟨rfl, rfl⟩
      go_wp2_with fail
      refine K1.out.mono ?_
      rintro e w1 ⟨rfl, L', H, hL, hg⟩
      have K2 := Lib.hid (failO top b N.2.E ⟨L', 0⟩ w1 H)
      rw [fail_whole hok he] at K2
      clear H
      go_wp2_with fail
      refine K2.out.mono ?_
      rintro e w2 ⟨rfl, H, hg2⟩
      go_wp2
      go_ret
      exact ⟨by rw [hz he]; rfl, H, grownTrans hg hg2⟩
  · have hE' : ¬ (E : Int) = 0 := by omega
    have H := Lib.hid h
    have hb : RS.b ⟨L, E⟩ = (0, ⟨L, E⟩) := by unfold RS.b; rw [if_neg hE]
    rw [hb]
    clear h hp
    go_enter Tryz.func154, Tryz.ntmps154
    go_wp2_with fail
    refine K0.out.mono ?_
    rintro e w1 ⟨rfl, rfl⟩
    go_wp2
    go_ret
    exact ⟨rfl, H.out, grownRefl _ _⟩

theorem grownAlloc {W W' : World} {o : Obj} {row : Option Nat} (h : (W.alloc o).grownBy W' row) : W.grownBy W' row := grownTrans (World.grownBy_alloc W o row) h

set_option maxRecDepth 100000 in
set_option maxHeartbeats 1000000 in
theorem rB (top b : Nat) (s : RS) (W : World) (h : RdAt top b W s) :
    Calls Tryz.prog 104 #[.pointer (some ⟨b, 0, none⟩)] W fun e W' => e = .returned (.int .u8 s.b.1) ∧ RdAt top b W' s.b.2 ∧ W.grownBy W' (some b) := by
  have K := Lib.hid (fieldB top b W.heap.size s (W.alloc (.cells #[.pointer (some ⟨b, 0, none⟩)] 102)) (h.alloc _) (new_cell _ _ _))
  clear h
  go_enter Tryz.func104, Tryz.ntmps104
  go_wp2_with fail
  refine K.out.mono ?_
  rintro e w1 ⟨rfl, H, hg⟩
  go_wp2
  go_ret
  exact ⟨rfl, H, grownAlloc hg⟩

end Go.Proofs.YtkmbgehknpefiaaGreatDoor
