/-
  The text of one known call, by contracts. Condition: the table of the powers of ten is as its text lays it.
-/
import Derived.Test.YtnkimbmnnhnanaaDoorPshow
import Derived.Test.YtnkimbmnnhnanaaDoorShelf
import Derived.Test.YtnkimbmnnhnanaaDoorEcn
import Derived.Handy
namespace Go.Proofs.YtnkimbmnnhnanaaDoor
set_option linter.unusedSimpArgs false
set_option linter.unusedVariables false
open Go.RowKit Go.Sort

theorem small1 (w : World) : Calls Tryd.prog 57 #[.int .i64 1] w fun e w' => e = .returned (.string { data := #[49] }) ∧ w' = w :=
  (Tryd.strconv_Itoa_small 1 (by omega) w).mono fun e w' ⟨he, hw⟩ => ⟨he.trans (congrArg (fun l => Ending.returned (.string ⟨List.toArray l⟩)) (show Lib.decDigits 1 = [49] by rw [Lib.decDigits]; rfl)), hw⟩
theorem smallI5 (w : World) : Calls Tryd.prog 68 #[.int .i64 5] w fun e w' => e = .returned (.string { data := #[53] }) ∧ w' = w :=
  (Tryd.internal_strconv_small 5 (by omega) w).mono fun e w' ⟨he, hw⟩ => ⟨he.trans (congrArg (fun l => Ending.returned (.string ⟨List.toArray l⟩)) (show Lib.decDigits 5 = [53] by rw [Lib.decDigits]; rfl)), hw⟩
theorem word0 (w : World) : Calls Tryd.prog 44 #[.int .u8 0] w fun e w' => e = .returned (.string { data := #[67, 97, 108, 108] }) ∧ w' = w := by
  go_enter Tryd.func44, Tryd.ntmps44
  go_wp2
  go_ret
  exact ⟨rfl, rfl⟩
theorem pair11 (w : World) : Calls Tryd.prog 55 #[.int .i64 1, .int .i64 1] w fun e w' => e = .returned (.string { data := #[49, 46, 49] }) ∧ w' = w := by
  go_enter Tryd.func55, Tryd.ntmps55
  go_wp2_with (go_at_call 57; refine (small1 _).mono ?_; rintro e w1 ⟨rfl, rfl⟩)
  go_ret
  exact ⟨rfl, rfl⟩
theorem proc11 (w : World) : Calls Tryd.prog 45 #[.agg #[.int .u8 1, .int .u16 1]] w fun e w' => e = .returned (.string { data := #[49, 46, 49] }) ∧ Below w.heap.size w w' := by
  go_enter Tryd.func45, Tryd.ntmps45
  go_wp2_with (go_at_call 55; refine (pair11 _).mono ?_; rintro e w1 ⟨rfl, rfl⟩)
  go_ret
  exact ⟨rfl, (Below.refl _ _).alloc (Nat.le_refl _) _⟩
theorem ifu5 (w : World) : Calls Tryd.prog 63 #[.int .u64 5, .int .i64 10] w fun e w' => e = .returned (.string { data := #[53] }) ∧ w' = w := by
  go_enter Tryd.func63, Tryd.ntmps63
  go_wp2_with (go_at_call 68; refine (smallI5 _).mono ?_; rintro e w1 ⟨rfl, rfl⟩)
  go_ret
  exact ⟨rfl, rfl⟩
theorem fu5 (w : World) : Calls Tryd.prog 56 #[.int .u64 5, .int .i64 10] w fun e w' => e = .returned (.string { data := #[53] }) ∧ w' = w := by
  go_enter Tryd.func56, Tryd.ntmps56
  go_wp2_with (go_at_call 63; refine (ifu5 _).mono ?_; rintro e w1 ⟨rfl, rfl⟩)
  go_ret
  exact ⟨rfl, rfl⟩
set_option maxRecDepth 100000 in
set_option maxHeartbeats 1000000 in
theorem id115 (w : World) : Calls Tryd.prog 46 #[.agg #[.int .u8 1, .int .u16 1, .int .u32 5, .int .u8 0, .int .u8 0, .int .u8 0, .int .u8 0, .int .u8 0, .int .u8 0, .int .u8 0]] w fun e w' => e = .returned (.string { data := #[49, 46, 49, 47, 53] }) ∧ Below w.heap.size w w' := by
  go_enter Tryd.func46, Tryd.ntmps46
  go_wp2
  have B0 := Lib.hid ((Below.refl w.heap.size w).alloc (Nat.le_refl _) (.cells #[.int .u8 1, .int .u16 1, .int .u32 5, .int .u8 0, .int .u8 0, .int .u8 0, .int .u8 0, .int .u8 0, .int .u8 0, .int .u8 0] 44)).drew
  have q0 : (w.alloc (.cells #[.int .u8 1, .int .u16 1, .int .u32 5, .int .u8 0, .int .u8 0, .int .u8 0, .int .u8 0, .int .u8 0, .int .u8 0, .int .u8 0] 44)).drew.cell? ⟨w.heap.size, 2, none⟩ = some (.int .u32 5) := by simp
  have q3 : (w.alloc (.cells #[.int .u8 1, .int .u16 1, .int .u32 5, .int .u8 0, .int .u8 0, .int .u8 0, .int .u8 0, .int .u8 0, .int .u8 0, .int .u8 0] 44)).drew.cell? ⟨w.heap.size, 3, none⟩ = some (.int .u8 0) := by simp
  have hmin : (min 0 3 : Int) = 0 := by decide
  have Q0 := Lib.hid q0
  have Q3 := Lib.hid q3
  clear q0 q3
  go_region_held3 (fun w' => w'.cell? ⟨w.heap.size, 0, none⟩ = some (.int .u8 1) ∧ w'.cell? ⟨w.heap.size, 1, none⟩ = some (.int .u16 1) ∧ w'.cell? ⟨w.heap.size, 2, none⟩ = some (.int .u32 5)) (first | exact ⟨k0, k1, k2⟩ | (simp; done) | (go_simp; done) | go_keep)
    (first
      | (go_at_call 45; refine (proc11 _).mono ?_; rintro e w1 ⟨rfl, b1⟩
         have k0 := (b1.cell (p := ⟨w.heap.size, 0, none⟩) (by simp)).trans (show (w.alloc (.cells #[.int .u8 1, .int .u16 1, .int .u32 5, .int .u8 0, .int .u8 0, .int .u8 0, .int .u8 0, .int .u8 0, .int .u8 0, .int .u8 0] 44)).drew.cell? ⟨w.heap.size, 0, none⟩ = some (.int .u8 1) by simp)
         have k1 := (b1.cell (p := ⟨w.heap.size, 1, none⟩) (by simp)).trans (show (w.alloc (.cells #[.int .u8 1, .int .u16 1, .int .u32 5, .int .u8 0, .int .u8 0, .int .u8 0, .int .u8 0, .int .u8 0, .int .u8 0, .int .u8 0] 44)).drew.cell? ⟨w.heap.size, 1, none⟩ = some (.int .u16 1) by simp)
         have k2 := (b1.cell (p := ⟨w.heap.size, 2, none⟩) (by simp)).trans Q0.out
         have k3 := (b1.cell (p := ⟨w.heap.size, 3, none⟩) (by simp)).trans Q3.out
         have H1 := Lib.hid (B0.out.trans (b1.mono B0.out.size))
         clear b1)
      | (go_at_call 56; refine (fu5 _).mono ?_; rintro e w2 ⟨rfl, rfl⟩))
  all_goals
    go_wp2
    refine wp_loop_rounds 1 ?_
    rw [rounds_succ]
    go_wp2
    go_ret
    exact ⟨rfl, H1.out⟩

end Go.Proofs.YtnkimbmnnhnanaaDoor
