/-
  The walk of the law IdentSteps: it answers true and changes nothing that was there. Condition: the depth is not below 0.
-/
import Derived.Test.YtjdaejklegenbaaStq
import Derived.Test.YtjdaejklegenbaaKnw
import Derived.BigQuiet
namespace Go.Proofs.Ytjdaejklegenbaa
set_option linter.unusedSimpArgs false
set_option linter.unusedVariables false
open Go.RowKit

/-- hidden from the walk. -/
theorem hide {p : Prop} (h : p) : Hid p := h

theorem numOf_b (x : Int) (w : World) : Calls Try.prog 14 #[.int .i64 x] w fun e w' => e = .returned (.int .i64 x) ∧ Below w.heap.size w w' :=
  (numOf x w).mono fun _ _ ⟨he, hw⟩ => ⟨he, hw ▸ Below.refl _ _⟩
theorem toProc_b (n l : Int) (w : World) : Calls Try.prog 19 #[.agg #[.int .u8 n, .int .u16 l]] w fun e w' => e = .returned (.agg #[.int .u8 n, .int .u16 l]) ∧ Below w.heap.size w w' :=
  (toProc n l w).mono fun _ _ ⟨he, hw⟩ => ⟨he, hw ▸ ((Below.refl _ _).alloc (Nat.le_refl _) _).alloc (by simp) _⟩
theorem rightProc_b (n l : Int) (w : World) : Calls Try.prog 20 #[.agg #[.int .u8 n, .int .u16 l]] w fun e w' => e = .returned (.bool (rP n l)) ∧ Below w.heap.size w w' :=
  (rightProc n l w).mono fun _ _ ⟨he, hw⟩ => ⟨he, hw ▸ (Below.refl _ _).alloc (Nat.le_refl _) _⟩
theorem refRightProc_b (n l : Int) (w : World) : Calls Try.prog 21 #[.agg #[.int .u8 n, .int .u16 l]] w fun e w' => e = .returned (.bool (rP n l)) ∧ Below w.heap.size w w' :=
  (refRightProc n l w).mono fun _ _ ⟨he, hw⟩ => ⟨he, hw ▸ (Below.refl _ _).alloc (Nat.le_refl _) _⟩

set_option maxRecDepth 100000 in
set_option maxHeartbeats 4000000 in
theorem steps_walk (n l s d a0 a1 b0 b1 c0 c1 g i : Int) (w : World) (hd : 0 ≤ d) :
    Calls Try.prog 3 #[.agg #[.int .u8 n, .int .u16 l, .int .u32 s, .int .u8 d, .int .u8 a0, .int .u8 a1, .int .u8 b0, .int .u8 b1, .int .u8 c0, .int .u8 c1], .int .u8 g, .int .u8 i] w fun e w' => e = .returned (.bool true) ∧ Below w.heap.size w w' := by
  have cc := fun W => child n l s d a0 a1 b0 b1 c0 c1 g i W hd
  have rc := fun W => refChild n l s d a0 a1 b0 b1 c0 c1 g i W hd
  generalize chi ⟨n, l, s, d, a0, a1, b0, b1, c0, c1⟩ g i = X at cc rc
  obtain ⟨⟨xn, xl, xs, xd, xa0, xa1, xb0, xb1, xc0, xc1⟩, xe⟩ := X
  dsimp only at cc rc
  have cp := fun W => parent n l s d a0 a1 b0 b1 c0 c1 W hd
  have rp := fun W => refParent n l s d a0 a1 b0 b1 c0 c1 W hd
  generalize par ⟨n, l, s, d, a0, a1, b0, b1, c0, c1⟩ = Y at cp rp
  obtain ⟨⟨yn, yl, ys, yd, ya0, ya1, yb0, yb1, yc0, yc1⟩, ye⟩ := Y
  dsimp only at cp rp
  have cr := fun W => rightID n l s d a0 a1 b0 b1 c0 c1 W hd
  have rr := fun W => refRight n l s d a0 a1 b0 b1 c0 c1 W hd
  generalize rI n l s d a0 a1 b0 b1 c0 c1 = r at cr rr
  have cq := fun W => rightProc_b n l W
  have rq := fun W => refRightProc_b n l W
  generalize rP n l = q at cq rq
  have CC := hide cc
  have RC := hide rc
  have CP := hide cp
  have RP := hide rp
  have CR := hide cr
  have RR := hide rr
  have CQ := hide cq
  have RQ := hide rq
  clear cc rc cp rp cr rr cq rq
  go_enter Try.func3, Try.ntmps3
  go_wp2_with fail
  refine (toID n l s d a0 a1 b0 b1 c0 c1 _).mono ?_
  rintro e w1 ⟨rfl, h1⟩
  have B1 : Below w.heap.size w w1 := ((Below.refl _ _).alloc (Nat.le_refl _) _).trans (h1.mono (by simp))
  have C1 := (cells10_new w (.int .u8 n) (.int .u16 l) (.int .u32 s) (.int .u8 d) (.int .u8 a0) (.int .u8 a1) (.int .u8 b0) (.int .u8 b1) (.int .u8 c0) (.int .u8 c1) 30).kept h1 (by simp)
  have H1 := hide h1
  clear h1
  go_wp2_with fail
  refine (CC _).mono ?_
  rintro e w2 ⟨rfl, h2⟩
  have B2 := B1.trans (h2.mono B1.size)
  have z2 : w.heap.size < w2.heap.size := by have := H1.out.size; have := h2.size; simp at *; omega
  have C2 := C1.kept h2 (by have := H1.out.size; simp at this; omega)
  clear C1 h2 H1
  have k0 := C2.c0
  have k1 := C2.c1
  have k2 := C2.c2
  have k3 := C2.c3
  have k4 := C2.c4
  have k5 := C2.c5
  have k6 := C2.c6
  have k7 := C2.c7
  have k8 := C2.c8
  have k9 := C2.c9
  go_wp2_with fail
  refine (RC _).mono ?_
  rintro e w3 ⟨rfl, h3⟩
  clear k0 k1 k2 k3 k4 k5 k6 k7 k8 k9
  have C3 := (C2.kept (W' := w2.alloc _) ((Below.refl _ _).alloc (Nat.le_refl _) _) z2).kept h3 (by simp; omega)
  have X3 := (cells10_new w2 (.int .u8 xn) (.int .u16 xl) (.int .u32 xs) (.int .u8 xd) (.int .u8 xa0) (.int .u8 xa1) (.int .u8 xb0) (.int .u8 xb1) (.int .u8 xc0) (.int .u8 xc1) 35).kept h3 (by simp)
  have z3 : w2.heap.size < w3.heap.size := by have := h3.size; simp at this; omega
  have y3 : w.heap.size < w3.heap.size := by omega
  have B3 := (B2.alloc (by omega) _).trans (h3.mono (by simp; omega))
  clear C2 h3
  have k0 := C3.c0
  have k1 := C3.c1
  have k2 := C3.c2
  have k3 := C3.c3
  have k4 := C3.c4
  have k5 := C3.c5
  have k6 := C3.c6
  have k7 := C3.c7
  have k8 := C3.c8
  have k9 := C3.c9
  go_wp2_with fail
  refine (toID n l s d a0 a1 b0 b1 c0 c1 _).mono ?_
  rintro e w4 ⟨rfl, h4⟩
  clear k0 k1 k2 k3 k4 k5 k6 k7 k8 k9
  have C4 := (C3.kept (W' := w3.alloc _) ((Below.refl _ _).alloc (Nat.le_refl _) _) (by omega)).kept h4 (by simp; omega)
  have X4 := (X3.kept (W' := w3.alloc _) ((Below.refl _ _).alloc (Nat.le_refl _) _) (by omega)).kept h4 (by simp; omega)
  have R4 := (cells10_new w3 (.int .u8 xn) (.int .u16 xl) (.int .u32 xs) (.int .u8 xd) (.int .u8 xa0) (.int .u8 xa1) (.int .u8 xb0) (.int .u8 xb1) (.int .u8 xc0) (.int .u8 xc1) 30).kept h4 (by simp)
  have z4 : w3.heap.size < w4.heap.size := by have := h4.size; simp at this; omega
  have B4 := (B3.alloc (by omega) _).trans (h4.mono (by simp; omega))
  clear C3 X3 h4
  go_wp2_with fail
  refine (CP _).mono ?_
  rintro e w5 ⟨rfl, h5⟩
  have C5 := C4.kept h5 (by omega)
  have X5 := X4.kept h5 (by omega)
  have R5 := R4.kept h5 (by omega)
  have z5 := h5.size
  have y5 : w.heap.size < w5.heap.size := by omega
  have B5 := B4.trans (h5.mono (by omega))
  clear C4 X4 R4 h5
  have k0 := C5.c0
  have k1 := C5.c1
  have k2 := C5.c2
  have k3 := C5.c3
  have k4 := C5.c4
  have k5 := C5.c5
  have k6 := C5.c6
  have k7 := C5.c7
  have k8 := C5.c8
  have k9 := C5.c9
  go_wp2_with fail
  refine (RP _).mono ?_
  rintro e w6 ⟨rfl, h6⟩
  clear k0 k1 k2 k3 k4 k5 k6 k7 k8 k9
  have C6 := (C5.kept (W' := w5.alloc _) ((Below.refl _ _).alloc (Nat.le_refl _) _) (by omega)).kept h6 (by simp; omega)
  have X6 := (X5.kept (W' := w5.alloc _) ((Below.refl _ _).alloc (Nat.le_refl _) _) (by omega)).kept h6 (by simp; omega)
  have R6 := (R5.kept (W' := w5.alloc _) ((Below.refl _ _).alloc (Nat.le_refl _) _) (by omega)).kept h6 (by simp; omega)
  have P6 := (cells10_new w5 (.int .u8 yn) (.int .u16 yl) (.int .u32 ys) (.int .u8 yd) (.int .u8 ya0) (.int .u8 ya1) (.int .u8 yb0) (.int .u8 yb1) (.int .u8 yc0) (.int .u8 yc1) 35).kept h6 (by simp)
  have z6 : w5.heap.size < w6.heap.size := by have := h6.size; simp at this; omega
  have B6 := (B5.alloc (by omega) _).trans (h6.mono (by simp; omega))
  clear C5 X5 R5 h6
  go_wp2_with fail
  have z7 : Below w6.heap.size w6 (w6.alloc (.cells #[.int .u8 yn, .int .u16 yl, .int .u32 ys, .int .u8 yd, .int .u8 ya0, .int .u8 ya1, .int .u8 yb0, .int .u8 yb1, .int .u8 yc0, .int .u8 yc1] 30)) := (Below.refl _ _).alloc (Nat.le_refl _) _
  have C7 := C6.kept z7 (by omega)
  have X7 := X6.kept z7 (by omega)
  have R7 := R6.kept z7 (by omega)
  have P7 := P6.kept z7 z6
  have Q7 := cells10_new w6 (.int .u8 yn) (.int .u16 yl) (.int .u32 ys) (.int .u8 yd) (.int .u8 ya0) (.int .u8 ya1) (.int .u8 yb0) (.int .u8 yb1) (.int .u8 yc0) (.int .u8 yc1) 30
  have B7 := B6.trans (z7.mono B6.size)
  clear z7 C6 X6 R6 P6 B1 B2 B3 B4 B5 B6
  generalize w6.alloc (.cells #[.int .u8 yn, .int .u16 yl, .int .u32 ys, .int .u8 yd, .int .u8 ya0, .int .u8 ya1, .int .u8 yb0, .int .u8 yb1, .int .u8 yc0, .int .u8 yc1] 30) = W7 at *
  have hB7 := hide B7
  clear B7
  have kc0 := cell_regrown C7.c0
  have kc1 := cell_regrown C7.c1
  have kc2 := cell_regrown C7.c2
  have kc3 := cell_regrown C7.c3
  have kc4 := cell_regrown C7.c4
  have kc5 := cell_regrown C7.c5
  have kc6 := cell_regrown C7.c6
  have kc7 := cell_regrown C7.c7
  have kc8 := cell_regrown C7.c8
  have kc9 := cell_regrown C7.c9
  have kx0 := cell_regrown X7.c0
  have kx1 := cell_regrown X7.c1
  have kx2 := cell_regrown X7.c2
  have kx3 := cell_regrown X7.c3
  have kx4 := cell_regrown X7.c4
  have kx5 := cell_regrown X7.c5
  have kx6 := cell_regrown X7.c6
  have kx7 := cell_regrown X7.c7
  have kx8 := cell_regrown X7.c8
  have kx9 := cell_regrown X7.c9
  have kr0 := cell_regrown R7.c0
  have kr1 := cell_regrown R7.c1
  have kr2 := cell_regrown R7.c2
  have kr3 := cell_regrown R7.c3
  have kr4 := cell_regrown R7.c4
  have kr5 := cell_regrown R7.c5
  have kr6 := cell_regrown R7.c6
  have kr7 := cell_regrown R7.c7
  have kr8 := cell_regrown R7.c8
  have kr9 := cell_regrown R7.c9
  have kp0 := cell_regrown P7.c0
  have kp1 := cell_regrown P7.c1
  have kp2 := cell_regrown P7.c2
  have kp3 := cell_regrown P7.c3
  have kp4 := cell_regrown P7.c4
  have kp5 := cell_regrown P7.c5
  have kp6 := cell_regrown P7.c6
  have kp7 := cell_regrown P7.c7
  have kp8 := cell_regrown P7.c8
  have kp9 := cell_regrown P7.c9
  have kq0 := cell_regrown Q7.c0
  have kq1 := cell_regrown Q7.c1
  have kq2 := cell_regrown Q7.c2
  have kq3 := cell_regrown Q7.c3
  have kq4 := cell_regrown Q7.c4
  have kq5 := cell_regrown Q7.c5
  have kq6 := cell_regrown Q7.c6
  have kq7 := cell_regrown Q7.c7
  have kq8 := cell_regrown Q7.c8
  have kq9 := cell_regrown Q7.c9
  clear C7 X7 R7 P7 Q7 z2 z3 z4 z5 z6 y3 y5
  have hE := eqArrRef
  refine wp_region_quiet_below (by kernel_rfl) (by kernel_rfl) ?_
  repeat (go_big_quiet_step (first | exact Calls.regrown_of (refID _ _ _ _ _ _ _ _ _ _ _) | exact Calls.regrown_of (toID _ _ _ _ _ _ _ _ _ _ _) | exact Calls.regrown_of (numOf_b _ _) | exact Calls.regrown_of (root _ _ _ _ _ _ _ _ _ _ _) | exact Calls.regrown_of (refRoot _ _ _ _ _ _ _ _ _ _ _) | exact Calls.regrown_of (CR _) | exact Calls.regrown_of (RR _) | exact Calls.regrown_of (toProc_b _ _ _) | exact Calls.regrown_of (CQ _) | exact Calls.regrown_of (RQ _) | exact Calls.regrown_of (knows _)))
  refine wpQuiet_nil ?_
  intro W hW
  obtain ⟨p, rfl⟩ := hW
  go_wp2
  go_ret
  exact ⟨rfl, hB7.out.trans ((below_regrown _ _ _).mono hB7.out.size)⟩

end Go.Proofs.Ytjdaejklegenbaa
