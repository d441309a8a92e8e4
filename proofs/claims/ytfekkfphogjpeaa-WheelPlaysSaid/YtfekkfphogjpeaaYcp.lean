/-
  The wheel's Compare: two keys held against each other: by an exact answer; what stands behind it is the world before it, after some draws, with some blocks laid behind it. Condition: the depths are not below 0.
-/
import Derived.Test.YtfekkfphogjpeaaLcmp
import Derived.Test.YtfekkfphogjpeaaYsm
namespace Go.Proofs.Ytfekkfphogjpeaa
set_option linter.unusedSimpArgs false
set_option linter.unusedVariables false
open Go.RowKit Go.Maps Go.Sort

theorem orThree (b : Nat) (x0 x1 x2 : Int) (w : World) (c0 : w.cell? ⟨b, 0, none⟩ = some (.int .i64 x0)) (c1 : w.cell? ⟨b, 1, none⟩ = some (.int .i64 x1)) (c2 : w.cell? ⟨b, 2, none⟩ = some (.int .i64 x2)) :
    Calls Try.prog 32 #[.slice (some ⟨b, 0, none⟩) 3 3] w fun e w' => e = .returned (.int .i64 (or2 x0 (or2 x1 x2))) ∧ w = w' := by
  go_enter Try.func32, Try.ntmps32
  go_wp2
  go_rounds 4
  all_goals
    go_ret
    refine ⟨?_, rfl⟩
    simp_all [or2]

namespace L
open Go.RowKit Go.Sort

set_option maxRecDepth 100000 in
set_option maxHeartbeats 2000000 in
theorem compareK0 (k pn pl n l s d a0 a1 b0 b1 c0 c1 k' pn' pl' n' l' s' d' x0 x1 y0 y1 z0 z1 : Int) (w : World) (hd : 0 ≤ d) (hd' : 0 ≤ d') :
    Go.Calls Try.prog 25 #[.agg #[.int .u8 k, .int .u8 pn, .int .u16 pl, .int .u8 n, .int .u16 l, .int .u32 s, .int .u8 d, .int .u8 a0, .int .u8 a1, .int .u8 b0, .int .u8 b1, .int .u8 c0, .int .u8 c1], .agg #[.int .u8 k', .int .u8 pn', .int .u16 pl', .int .u8 n', .int .u16 l', .int .u32 s', .int .u8 d', .int .u8 x0, .int .u8 x1, .int .u8 y0, .int .u8 y1, .int .u8 z0, .int .u8 z1]] w fun e w' => e = .returned (.int .i64 (or2 (sgn k k') (or2 (cp pn pl pn' pl') (ci n l s d a0 a1 b0 b1 c0 c1 n' l' s' d' x0 x1 y0 y1 z0 z1)))) ∧ Below w.heap.size w w' := by
  obtain ⟨W, hW⟩ : ∃ W, ((w.alloc (.cells #[.int .u8 k, .int .u8 pn, .int .u16 pl, .int .u8 n, .int .u16 l, .int .u32 s, .int .u8 d, .int .u8 a0, .int .u8 a1, .int .u8 b0, .int .u8 b1, .int .u8 c0, .int .u8 c1] 50)).alloc (.cells #[.int .u8 k', .int .u8 pn', .int .u16 pl', .int .u8 n', .int .u16 l', .int .u32 s', .int .u8 d', .int .u8 x0, .int .u8 x1, .int .u8 y0, .int .u8 y1, .int .u8 z0, .int .u8 z1] 50)) = W := ⟨_, rfl⟩
  have z : Below w.heap.size w W := by rw [← hW]; exact ((Below.refl _ _).alloc (Nat.le_refl _) _).alloc (by simp) _
  have rC : W.heap[w.heap.size]? = some (.cells #[.int .u8 k, .int .u8 pn, .int .u16 pl, .int .u8 n, .int .u16 l, .int .u32 s, .int .u8 d, .int .u8 a0, .int .u8 a1, .int .u8 b0, .int .u8 b1, .int .u8 c0, .int .u8 c1] 50 (0, 0)) := by rw [← hW, Go.RowKit.Below.heap_alloc _ _ _ (by simp)]; exact heap_alloc_new _ _
  have rD : W.heap[w.heap.size + 1]? = some (.cells #[.int .u8 k', .int .u8 pn', .int .u16 pl', .int .u8 n', .int .u16 l', .int .u32 s', .int .u8 d', .int .u8 x0, .int .u8 x1, .int .u8 y0, .int .u8 y1, .int .u8 z0, .int .u8 z1] 50 (0, 0)) := by
    rw [← hW]
    have := heap_alloc_new (w.alloc (.cells #[.int .u8 k, .int .u8 pn, .int .u16 pl, .int .u8 n, .int .u16 l, .int .u32 s, .int .u8 d, .int .u8 a0, .int .u8 a1, .int .u8 b0, .int .u8 b1, .int .u8 c0, .int .u8 c1] 50)) (.cells #[.int .u8 k', .int .u8 pn', .int .u16 pl', .int .u8 n', .int .u16 l', .int .u32 s', .int .u8 d', .int .u8 x0, .int .u8 x1, .int .u8 y0, .int .u8 y1, .int .u8 z0, .int .u8 z1] 50)
    simpa using this
  have p0 := cell_regrown (cell_of rC 0 _ rfl)
  have q0 := cell_regrown (cell_of rD 0 _ rfl)
  have p1 := cell_regrown (cell_of rC 1 _ rfl)
  have q1 := cell_regrown (cell_of rD 1 _ rfl)
  have p2 := cell_regrown (cell_of rC 2 _ rfl)
  have q2 := cell_regrown (cell_of rD 2 _ rfl)
  have p3 := cell_regrown (cell_of rC 3 _ rfl)
  have q3 := cell_regrown (cell_of rD 3 _ rfl)
  have p4 := cell_regrown (cell_of rC 4 _ rfl)
  have q4 := cell_regrown (cell_of rD 4 _ rfl)
  have p5 := cell_regrown (cell_of rC 5 _ rfl)
  have q5 := cell_regrown (cell_of rD 5 _ rfl)
  have p6 := cell_regrown (cell_of rC 6 _ rfl)
  have q6 := cell_regrown (cell_of rD 6 _ rfl)
  have p7 := cell_regrown (cell_of rC 7 _ rfl)
  have q7 := cell_regrown (cell_of rD 7 _ rfl)
  have p8 := cell_regrown (cell_of rC 8 _ rfl)
  have q8 := cell_regrown (cell_of rD 8 _ rfl)
  have p9 := cell_regrown (cell_of rC 9 _ rfl)
  have q9 := cell_regrown (cell_of rD 9 _ rfl)
  have p10 := cell_regrown (cell_of rC 10 _ rfl)
  have q10 := cell_regrown (cell_of rD 10 _ rfl)
  have p11 := cell_regrown (cell_of rC 11 _ rfl)
  have q11 := cell_regrown (cell_of rD 11 _ rfl)
  have p12 := cell_regrown (cell_of rC 12 _ rfl)
  have q12 := cell_regrown (cell_of rD 12 _ rfl)
  have HW := Lib.hid hW
  have Z := Lib.hid z
  have HD := Lib.hid hd
  have HD' := Lib.hid hd'
  clear z rC rD hW hd hd'
  go_enter Try.func25, Try.ntmps25
  go_wp2_with (rw [HW.out])
  refine region_first_below 15 (by kernel_rfl) (by kernel_rfl) ?_
  simp only [List.take_succ_cons, List.take_zero, List.drop_succ_cons, List.drop_zero]
  repeat (go_big_quiet_step (first | (go_at_call 34; exact Calls.regrown_of (compareProcs _ _ _ _ _)) | (go_at_call 33; exact Calls.regrown_of ((cmpU8 _ _ _).mono fun _ _ ⟨he, hw⟩ => ⟨he, hw ▸ Below.refl _ _⟩)) | (go_at_call 35; exact Calls.regrown_of (compare _ _ _ _ _ _ _ _ _ _ _ _ _ _ _ _ _ _ _ _ _ HD.out HD'.out)) | fail))
  refine wpQuiet_nil ?_
  rintro W1 ⟨p, rfl⟩
  have z2 := below_regrown W p.d p.os
  generalize grow (redrawn W p.d) p.os = W2 at *
  clear p0 q0 p1 q1 p2 q2 p3 q3 p4 q4 p5 q5 p6 q6 p7 q7 p8 q8 p9 q9 p10 q10 p11 q11 p12 q12
  have Z2 := Lib.hid z2
  clear z2
  go_wp2_with (go_at_call 32; refine (orThree _ (sgn k k') (cp pn pl pn' pl') (ci n l s d a0 a1 b0 b1 c0 c1 n' l' s' d' x0 x1 y0 y1 z0 z1) _ (by simp) (by simp) (by simp)).mono ?_; rintro e w' ⟨rfl, rfl⟩)
  go_ret
  exact ⟨rfl, (Z.out.trans (Z2.out.mono Z.out.size)).alloc (Nat.le_trans Z.out.size Z2.out.size) _⟩

theorem compareK (x y : K13) (rx : x.Rng) (ry : y.Rng) (w : World) :
    Go.Calls Try.prog 25 #[.agg x.cs, .agg y.cs] w fun e w' => e = .returned (.int .i64 (x.cmp y)) ∧ Below w.heap.size w w' :=
  compareK0 _ _ _ _ _ _ _ _ _ _ _ _ _ _ _ _ _ _ _ _ _ _ _ _ _ _ w rx.x.d.1 ry.x.d.1

end L

end Go.Proofs.Ytfekkfphogjpeaa
