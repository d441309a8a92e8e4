/-
  The small comparisons: two numbers, the first that is not zero, two steps, two processes: each by a contract. No condition.
-/
import Derived.Test.YtldbmmganicliaaRows
import Derived.WalkKit
import Derived.WalkSpells
import Derived.WalkLawsBesides
import Derived.LoopN
import Derived.Handy
import Derived.Lib.Hide
import Derived.Test.YtldbmmganicliaaMath
import Derived.Test.YtldbmmganicliaaTail
namespace Go.Proofs.Ytldbmmganicliaa
set_option linter.unusedSimpArgs false
set_option linter.unusedVariables false
open Go.RowKit Go.Sort

set_option maxHeartbeats 400000 in
theorem cmpU8 (a b : Int) (w : World) : Calls Try.prog 66 #[.int .u8 a, .int .u8 b] w fun e w' => e = .returned (.int .i64 (sgn a b)) ∧ w = w' := by
  by_cases h1 : a < b
  · have e := sgn_lt h1
    have E := Lib.hid e
    clear e
    go_enter Try.func66, Try.ntmps66
    go_wp2
    go_ret
    rw [E.out]
    exact ⟨rfl, rfl⟩
  · by_cases h2 : b < a
    · have e := sgn_gt h2
      have E := Lib.hid e
      clear e
      go_enter Try.func66, Try.ntmps66
      go_wp2
      go_ret
      rw [E.out]
      exact ⟨rfl, rfl⟩
    · obtain rfl : a = b := by omega
      have e := sgn_self a
      have E := Lib.hid e
      clear e
      go_enter Try.func66, Try.ntmps66
      go_wp2
      go_ret
      rw [E.out]
      exact ⟨rfl, rfl⟩

set_option maxHeartbeats 400000 in
theorem cmpU16 (a b : Int) (w : World) : Calls Try.prog 72 #[.int .u16 a, .int .u16 b] w fun e w' => e = .returned (.int .i64 (sgn a b)) ∧ w = w' := by
  by_cases h1 : a < b
  · have e := sgn_lt h1
    have E := Lib.hid e
    clear e
    go_enter Try.func72, Try.ntmps72
    go_wp2
    go_ret
    rw [E.out]
    exact ⟨rfl, rfl⟩
  · by_cases h2 : b < a
    · have e := sgn_gt h2
      have E := Lib.hid e
      clear e
      go_enter Try.func72, Try.ntmps72
      go_wp2
      go_ret
      rw [E.out]
      exact ⟨rfl, rfl⟩
    · obtain rfl : a = b := by omega
      have e := sgn_self a
      have E := Lib.hid e
      clear e
      go_enter Try.func72, Try.ntmps72
      go_wp2
      go_ret
      rw [E.out]
      exact ⟨rfl, rfl⟩

set_option maxHeartbeats 400000 in
theorem cmpU32 (a b : Int) (w : World) : Calls Try.prog 63 #[.int .u32 a, .int .u32 b] w fun e w' => e = .returned (.int .i64 (sgn a b)) ∧ w = w' := by
  by_cases h1 : a < b
  · have e := sgn_lt h1
    have E := Lib.hid e
    clear e
    go_enter Try.func63, Try.ntmps63
    go_wp2
    go_ret
    rw [E.out]
    exact ⟨rfl, rfl⟩
  · by_cases h2 : b < a
    · have e := sgn_gt h2
      have E := Lib.hid e
      clear e
      go_enter Try.func63, Try.ntmps63
      go_wp2
      go_ret
      rw [E.out]
      exact ⟨rfl, rfl⟩
    · obtain rfl : a = b := by omega
      have e := sgn_self a
      have E := Lib.hid e
      clear e
      go_enter Try.func63, Try.ntmps63
      go_wp2
      go_ret
      rw [E.out]
      exact ⟨rfl, rfl⟩

set_option maxHeartbeats 400000 in
theorem number (a b : Int) (w : World) : Calls Try.prog 68 #[.int .i64 a, .int .i64 b] w fun e w' => e = .returned (.int .i64 (sgn a b)) ∧ w = w' := by
  by_cases h1 : a < b
  · have e := sgn_lt h1
    have E := Lib.hid e
    clear e
    go_enter Try.func68, Try.ntmps68
    go_wp2
    go_ret
    rw [E.out]
    exact ⟨rfl, rfl⟩
  · by_cases h2 : b < a
    · have e := sgn_gt h2
      have E := Lib.hid e
      clear e
      go_enter Try.func68, Try.ntmps68
      go_wp2
      go_ret
      rw [E.out]
      exact ⟨rfl, rfl⟩
    · obtain rfl : a = b := by omega
      have e := sgn_self a
      have E := Lib.hid e
      clear e
      go_enter Try.func68, Try.ntmps68
      go_wp2
      go_ret
      rw [E.out]
      exact ⟨rfl, rfl⟩

set_option maxHeartbeats 1000000 in
theorem orTwo (b : Nat) (x0 x1 : Int) (w : World) (c0 : w.cell? ⟨b, 0, none⟩ = some (.int .i64 x0)) (c1 : w.cell? ⟨b, 1, none⟩ = some (.int .i64 x1)) :
    Calls Try.prog 61 #[.slice (some ⟨b, 0, none⟩) 2 2] w fun e w' => e = .returned (.int .i64 (or2 x0 x1)) ∧ w = w' := by
  go_enter Try.func61, Try.ntmps61
  go_wp2
  go_rounds 3
  all_goals
    go_ret
    refine ⟨?_, rfl⟩
    simp_all [or2]

set_option maxHeartbeats 1000000 in
theorem orFive (b : Nat) (x0 x1 x2 x3 x4 : Int) (w : World) (c0 : w.cell? ⟨b, 0, none⟩ = some (.int .i64 x0)) (c1 : w.cell? ⟨b, 1, none⟩ = some (.int .i64 x1)) (c2 : w.cell? ⟨b, 2, none⟩ = some (.int .i64 x2)) (c3 : w.cell? ⟨b, 3, none⟩ = some (.int .i64 x3)) (c4 : w.cell? ⟨b, 4, none⟩ = some (.int .i64 x4)) :
    Calls Try.prog 61 #[.slice (some ⟨b, 0, none⟩) 5 5] w fun e w' => e = .returned (.int .i64 (or2 x0 (or2 x1 (or2 x2 (or2 x3 x4))))) ∧ w = w' := by
  go_enter Try.func61, Try.ntmps61
  go_wp2
  go_rounds 6
  all_goals
    go_ret
    refine ⟨?_, rfl⟩
    simp_all [or2]

set_option maxHeartbeats 1000000 in
theorem compareSteps (g i x y : Int) (w : World) : Calls Try.prog 65 #[.agg #[.int .u8 g, .int .u8 i], .agg #[.int .u8 x, .int .u8 y]] w fun e w' => e = .returned (.int .i64 (cs g i x y)) ∧ Below w.heap.size w w' := by
  go_enter Try.func65, Try.ntmps65
  go_wp2_with fail
  have z : Below w.heap.size w ((w.alloc (.cells #[.int .u8 g, .int .u8 i] 34)).alloc (.cells #[.int .u8 x, .int .u8 y] 34)) := ((Below.refl _ _).alloc (Nat.le_refl _) _).alloc (by simp) _
  have s0 : ((w.alloc (.cells #[.int .u8 g, .int .u8 i] 34)).alloc (.cells #[.int .u8 x, .int .u8 y] 34)).cell? ⟨w.heap.size, 0, none⟩ = some (.int .u8 g) := by simp
  have s1 : ((w.alloc (.cells #[.int .u8 g, .int .u8 i] 34)).alloc (.cells #[.int .u8 x, .int .u8 y] 34)).cell? ⟨w.heap.size, 1, none⟩ = some (.int .u8 i) := by simp
  have s2 : ((w.alloc (.cells #[.int .u8 g, .int .u8 i] 34)).alloc (.cells #[.int .u8 x, .int .u8 y] 34)).cell? ⟨w.heap.size + 1, 0, none⟩ = some (.int .u8 x) := by simp
  have s3 : ((w.alloc (.cells #[.int .u8 g, .int .u8 i] 34)).alloc (.cells #[.int .u8 x, .int .u8 y] 34)).cell? ⟨w.heap.size + 1, 1, none⟩ = some (.int .u8 y) := by simp
  generalize (w.alloc (.cells #[.int .u8 g, .int .u8 i] 34)).alloc (.cells #[.int .u8 x, .int .u8 y] 34) = W at *
  have t0 := cell_regrown s0
  have t1 := cell_regrown s1
  have t2 := cell_regrown s2
  have t3 := cell_regrown s3
  clear s0 s1 s2 s3
  have Z : Hid _ := Lib.hid z
  clear z
  refine region_first_below 10 (by kernel_rfl) (by kernel_rfl) ?_
  simp only [List.take_succ_cons, List.take_zero, List.drop_succ_cons, List.drop_zero]
  repeat (go_big_quiet_step (first | exact Calls.regrown_of ((cmpU8 _ _ _).mono fun _ _ ⟨he, hw⟩ => ⟨he, hw ▸ Below.refl _ _⟩) | exact Calls.regrown_of ((cmpU8 _ _ _).mono fun _ _ ⟨he, hw⟩ => ⟨he, hw ▸ Below.refl _ _⟩)))
  refine wpQuiet_nil ?_
  rintro W1 ⟨p, rfl⟩
  have z2 := below_regrown W p.d p.os
  generalize grow (redrawn W p.d) p.os = W2 at *
  clear t0 t1 t2 t3
  have Z2 : Hid _ := Lib.hid z2
  clear z2
  go_wp2_with (go_at_call 61; refine (orTwo _ (sgn g x) (sgn i y) _ (by simp) (by simp)).mono ?_; rintro e w' ⟨rfl, rfl⟩)
  go_ret
  exact ⟨rfl, (Z.out.trans (Z2.out.mono Z.out.size)).alloc (Nat.le_trans Z.out.size Z2.out.size) _⟩

set_option maxHeartbeats 1000000 in
theorem compareProcs (g i x y : Int) (w : World) : Calls Try.prog 62 #[.agg #[.int .u8 g, .int .u16 i], .agg #[.int .u8 x, .int .u16 y]] w fun e w' => e = .returned (.int .i64 (cp g i x y)) ∧ Below w.heap.size w w' := by
  go_enter Try.func62, Try.ntmps62
  go_wp2_with fail
  have z : Below w.heap.size w ((w.alloc (.cells #[.int .u8 g, .int .u16 i] 31)).alloc (.cells #[.int .u8 x, .int .u16 y] 31)) := ((Below.refl _ _).alloc (Nat.le_refl _) _).alloc (by simp) _
  have s0 : ((w.alloc (.cells #[.int .u8 g, .int .u16 i] 31)).alloc (.cells #[.int .u8 x, .int .u16 y] 31)).cell? ⟨w.heap.size, 0, none⟩ = some (.int .u8 g) := by simp
  have s1 : ((w.alloc (.cells #[.int .u8 g, .int .u16 i] 31)).alloc (.cells #[.int .u8 x, .int .u16 y] 31)).cell? ⟨w.heap.size, 1, none⟩ = some (.int .u16 i) := by simp
  have s2 : ((w.alloc (.cells #[.int .u8 g, .int .u16 i] 31)).alloc (.cells #[.int .u8 x, .int .u16 y] 31)).cell? ⟨w.heap.size + 1, 0, none⟩ = some (.int .u8 x) := by simp
  have s3 : ((w.alloc (.cells #[.int .u8 g, .int .u16 i] 31)).alloc (.cells #[.int .u8 x, .int .u16 y] 31)).cell? ⟨w.heap.size + 1, 1, none⟩ = some (.int .u16 y) := by simp
  generalize (w.alloc (.cells #[.int .u8 g, .int .u16 i] 31)).alloc (.cells #[.int .u8 x, .int .u16 y] 31) = W at *
  have t0 := cell_regrown s0
  have t1 := cell_regrown s1
  have t2 := cell_regrown s2
  have t3 := cell_regrown s3
  clear s0 s1 s2 s3
  have Z : Hid _ := Lib.hid z
  clear z
  refine region_first_below 10 (by kernel_rfl) (by kernel_rfl) ?_
  simp only [List.take_succ_cons, List.take_zero, List.drop_succ_cons, List.drop_zero]
  repeat (go_big_quiet_step (first | exact Calls.regrown_of ((cmpU8 _ _ _).mono fun _ _ ⟨he, hw⟩ => ⟨he, hw ▸ Below.refl _ _⟩) | exact Calls.regrown_of ((cmpU16 _ _ _).mono fun _ _ ⟨he, hw⟩ => ⟨he, hw ▸ Below.refl _ _⟩)))
  refine wpQuiet_nil ?_
  rintro W1 ⟨p, rfl⟩
  have z2 := below_regrown W p.d p.os
  generalize grow (redrawn W p.d) p.os = W2 at *
  clear t0 t1 t2 t3
  have Z2 : Hid _ := Lib.hid z2
  clear z2
  go_wp2_with (go_at_call 61; refine (orTwo _ (sgn g x) (sgn i y) _ (by simp) (by simp)).mono ?_; rintro e w' ⟨rfl, rfl⟩)
  go_ret
  exact ⟨rfl, (Z.out.trans (Z2.out.mono Z.out.size)).alloc (Nat.le_trans Z.out.size Z2.out.size) _⟩

end Go.Proofs.Ytldbmmganicliaa
