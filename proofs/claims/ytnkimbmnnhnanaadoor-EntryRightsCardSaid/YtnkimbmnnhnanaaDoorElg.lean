/-
  The group that made a call: the program's lastGroup, by an exact answer. Condition: the depth is at most 3.
-/
import Derived.Test.YtnkimbmnnhnanaaDoorErd
namespace Go.Proofs.YtnkimbmnnhnanaaDoor
set_option linter.unusedSimpArgs false
set_option linter.unusedVariables false
open Go.RowKit Go.Sort

set_option maxHeartbeats 400000 in
theorem lastE_0 (x : E18) (w : World) (ha : 0 ≤ x.a0 ∧ x.a0 ≤ 255) (hb : 0 ≤ x.b0 ∧ x.b0 ≤ 255) (hc : 0 ≤ x.c0 ∧ x.c0 ≤ 255) : Calls Tryd.prog 25 #[.agg #[.int .u8 x.n, .int .u16 x.l, .int .u32 x.s, .int .u8 0, .int .u8 x.a0, .int .u8 x.a1, .int .u8 x.b0, .int .u8 x.b1, .int .u8 x.c0, .int .u8 x.c1]] w fun e w' => e = .returned (.int .i64 (-1)) ∧ Below w.heap.size w w' := by
  obtain ⟨ha1, ha2⟩ := ha
  obtain ⟨hb1, hb2⟩ := hb
  obtain ⟨hc1, hc2⟩ := hc
  go_enter Tryd.func25, Tryd.ntmps25
  go_wp2
  go_ret
  exact ⟨rfl, by repeat (first | (with_reducible exact Below.refl _ _) | (with_reducible refine Below.alloc ?_ (by first | (simp; done) | (simp; omega)) _))⟩
set_option maxHeartbeats 400000 in
theorem lastE_1 (x : E18) (w : World) (ha : 0 ≤ x.a0 ∧ x.a0 ≤ 255) (hb : 0 ≤ x.b0 ∧ x.b0 ≤ 255) (hc : 0 ≤ x.c0 ∧ x.c0 ≤ 255) : Calls Tryd.prog 25 #[.agg #[.int .u8 x.n, .int .u16 x.l, .int .u32 x.s, .int .u8 1, .int .u8 x.a0, .int .u8 x.a1, .int .u8 x.b0, .int .u8 x.b1, .int .u8 x.c0, .int .u8 x.c1]] w fun e w' => e = .returned (.int .i64 (x.a0)) ∧ Below w.heap.size w w' := by
  obtain ⟨ha1, ha2⟩ := ha
  obtain ⟨hb1, hb2⟩ := hb
  obtain ⟨hc1, hc2⟩ := hc
  go_enter Tryd.func25, Tryd.ntmps25
  go_wp2
  go_ret
  exact ⟨rfl, by repeat (first | (with_reducible exact Below.refl _ _) | (with_reducible refine Below.alloc ?_ (by first | (simp; done) | (simp; omega)) _))⟩
set_option maxHeartbeats 400000 in
theorem lastE_2 (x : E18) (w : World) (ha : 0 ≤ x.a0 ∧ x.a0 ≤ 255) (hb : 0 ≤ x.b0 ∧ x.b0 ≤ 255) (hc : 0 ≤ x.c0 ∧ x.c0 ≤ 255) : Calls Tryd.prog 25 #[.agg #[.int .u8 x.n, .int .u16 x.l, .int .u32 x.s, .int .u8 2, .int .u8 x.a0, .int .u8 x.a1, .int .u8 x.b0, .int .u8 x.b1, .int .u8 x.c0, .int .u8 x.c1]] w fun e w' => e = .returned (.int .i64 (x.b0)) ∧ Below w.heap.size w w' := by
  obtain ⟨ha1, ha2⟩ := ha
  obtain ⟨hb1, hb2⟩ := hb
  obtain ⟨hc1, hc2⟩ := hc
  go_enter Tryd.func25, Tryd.ntmps25
  go_wp2
  go_ret
  exact ⟨rfl, by repeat (first | (with_reducible exact Below.refl _ _) | (with_reducible refine Below.alloc ?_ (by first | (simp; done) | (simp; omega)) _))⟩
set_option maxHeartbeats 400000 in
theorem lastE_3 (x : E18) (w : World) (ha : 0 ≤ x.a0 ∧ x.a0 ≤ 255) (hb : 0 ≤ x.b0 ∧ x.b0 ≤ 255) (hc : 0 ≤ x.c0 ∧ x.c0 ≤ 255) : Calls Tryd.prog 25 #[.agg #[.int .u8 x.n, .int .u16 x.l, .int .u32 x.s, .int .u8 3, .int .u8 x.a0, .int .u8 x.a1, .int .u8 x.b0, .int .u8 x.b1, .int .u8 x.c0, .int .u8 x.c1]] w fun e w' => e = .returned (.int .i64 (x.c0)) ∧ Below w.heap.size w w' := by
  obtain ⟨ha1, ha2⟩ := ha
  obtain ⟨hb1, hb2⟩ := hb
  obtain ⟨hc1, hc2⟩ := hc
  go_enter Tryd.func25, Tryd.ntmps25
  go_wp2
  go_ret
  exact ⟨rfl, by repeat (first | (with_reducible exact Below.refl _ _) | (with_reducible refine Below.alloc ?_ (by first | (simp; done) | (simp; omega)) _))⟩
theorem lastE (x : E18) (w : World) (h0 : 0 ≤ x.d) (h3 : x.d ≤ 3) (ha : 0 ≤ x.a0 ∧ x.a0 ≤ 255) (hb : 0 ≤ x.b0 ∧ x.b0 ≤ 255) (hc : 0 ≤ x.c0 ∧ x.c0 ≤ 255) : Calls Tryd.prog 25 #[.agg #[.int .u8 x.n, .int .u16 x.l, .int .u32 x.s, .int .u8 x.d, .int .u8 x.a0, .int .u8 x.a1, .int .u8 x.b0, .int .u8 x.b1, .int .u8 x.c0, .int .u8 x.c1]] w fun e w' => e = .returned (.int .i64 (lastB x)) ∧ Below w.heap.size w w' := by
  rcases (show x.d = 0 ∨ x.d = 1 ∨ x.d = 2 ∨ x.d = 3 by omega) with h | h | h | h
  · rw [h, show lastB x = -1 by simp [lastB, h]]; exact lastE_0 x w ha hb hc
  · rw [h, show lastB x = x.a0 by simp [lastB, h]]; exact lastE_1 x w ha hb hc
  · rw [h, show lastB x = x.b0 by simp [lastB, h]]; exact lastE_2 x w ha hb hc
  · rw [h, show lastB x = x.c0 by simp [lastB, h]]; exact lastE_3 x w ha hb hc

end Go.Proofs.YtnkimbmnnhnanaaDoor
