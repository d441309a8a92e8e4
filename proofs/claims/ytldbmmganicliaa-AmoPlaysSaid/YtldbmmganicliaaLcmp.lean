/-
  Compare once more: what stands behind it is the world before it, after some draws, with some blocks laid behind it (what slices.SortFunc asks of its compare function). Condition: the depths are not below 0.
-/
import Derived.Test.YtldbmmganicliaaCpr
import Derived.Sort.Grow
namespace Go.Proofs.Ytldbmmganicliaa
namespace L
set_option linter.unusedSimpArgs false
set_option linter.unusedVariables false
open Go.RowKit Go.Sort

/-- Nothing that was there has changed, and the draws only add up. -/
structure Below (B : Nat) (w w' : World) : Prop extends Go.RowKit.Below B w w' where
  drawn : w.drawn ≤ w'.drawn

theorem Below.refl (B : Nat) (w : World) : Below B w w := ⟨Go.RowKit.Below.refl B w, Nat.le_refl _⟩
theorem Below.trans {B : Nat} {a b c : World} (h : Below B a b) (k : Below B b c) : Below B a c := ⟨h.toBelow.trans k.toBelow, Nat.le_trans h.drawn k.drawn⟩
theorem Below.mono {B B' : Nat} {w w' : World} (h : Below B w w') (hB : B' ≤ B) : Below B' w w' := ⟨h.toBelow.mono hB, h.drawn⟩
theorem Below.alloc {B : Nat} {a w : World} (h : Below B a w) (hB : B ≤ w.heap.size) (o : Obj) : Below B a (w.alloc o) := ⟨h.toBelow.alloc hB o, h.drawn⟩
theorem Below.cell {B : Nat} {w w' : World} (h : Below B w w') {p : Addr} (hp : p.block < B) : w'.cell? p = w.cell? p := h.toBelow.cell hp

def redrawn (w : World) (d : Nat) : World := w.drewN d

structure Regrown where
  d : Nat
  os : Array Obj
  deriving Inhabited

theorem below_regrown (w : World) (d : Nat) (os : Array Obj) : Below w.heap.size w (grow (redrawn w d) os) :=
  ⟨Go.below_regrown w (w.drawn + d) os, Nat.le_add_right _ _⟩

theorem regrown_of_below {w w' : World} (h : Below w.heap.size w w') : ∃ p : Regrown, w' = grow (redrawn w p.d) p.os := by
  obtain ⟨p, hp⟩ := Go.regrown_of_below h.toBelow
  have hd := h.drawn
  subst hp
  have hd' : w.drawn ≤ p.d := hd
  refine ⟨⟨p.d - w.drawn, p.os⟩, ?_⟩
  unfold redrawn Go.redrawn World.drewN
  rw [Nat.add_sub_cancel' hd']

theorem cell_regrown {w : World} {a : Addr} {v : Value} (h : w.cell? a = some v) (d : Nat) (os : Array Obj) : (grow (redrawn w d) os).cell? a = some v := by
  rw [(below_regrown w d os).cell (block_lt_of_cell h)]; exact h

theorem Calls.regrown_of {P : Program} {f : FuncId} {args : Array Value} {w : World} {d : Nat} {os : Array Obj} {v : Value}
    (h : Go.Calls P f args (grow (redrawn w d) os) fun e w' => e = .returned v ∧ Below (grow (redrawn w d) os).heap.size (grow (redrawn w d) os) w') : Go.Calls P f args (grow (redrawn w d) os) fun e w'' => e = .returned v ∧ ∃ p : Regrown, w'' = grow (redrawn w p.d) p.os :=
  h.mono fun _ _ ⟨he, hb⟩ => ⟨he, regrown_of_below ((below_regrown w d os).trans (hb.mono (below_regrown w d os).size))⟩

theorem region_first_below {P : Program} {id : Nat} {Q : Exit → Act → World → Prop} {a : Act} {w : World} {l : List Oper} (n : Nat) (hm : P.follows .mixedOrders = true) (hB : Region.lexTailB .any l.toArray n = true)
    (h : wpQuiet P l.toArray (fun w' => ∃ p : Regrown, w' = grow (redrawn w p.d) p.os) (fun a' => ∀ w', (∃ p : Regrown, w' = grow (redrawn w p.d) p.os) → wpList P l.toArray Q (l.drop n) a' w') (l.take n) a) : (Code.region id l.toArray true).wp P Q a w :=
  region_first (C := fun w' => ∃ p : Regrown, w' = grow (redrawn w p.d) p.os) n hm hB ⟨⟨1, #[]⟩, by rw [grow_empty]; rfl⟩ h

/-- ten cells side by side. -/
structure Cells10 (W : World) (b : Nat) (v0 v1 v2 v3 v4 v5 v6 v7 v8 v9 : Value) : Prop where
  c0 : W.cell? ⟨b, 0, none⟩ = some v0
  c1 : W.cell? ⟨b, 1, none⟩ = some v1
  c2 : W.cell? ⟨b, 2, none⟩ = some v2
  c3 : W.cell? ⟨b, 3, none⟩ = some v3
  c4 : W.cell? ⟨b, 4, none⟩ = some v4
  c5 : W.cell? ⟨b, 5, none⟩ = some v5
  c6 : W.cell? ⟨b, 6, none⟩ = some v6
  c7 : W.cell? ⟨b, 7, none⟩ = some v7
  c8 : W.cell? ⟨b, 8, none⟩ = some v8
  c9 : W.cell? ⟨b, 9, none⟩ = some v9

theorem Cells10.kept {W W' : World} {B b : Nat} {v0 v1 v2 v3 v4 v5 v6 v7 v8 v9 : Value} (h : Cells10 W b v0 v1 v2 v3 v4 v5 v6 v7 v8 v9) (hb : Below B W W') (hl : b < B) : Cells10 W' b v0 v1 v2 v3 v4 v5 v6 v7 v8 v9 :=
  ⟨(hb.cell (p := ⟨b, 0, none⟩) hl).trans h.c0, (hb.cell (p := ⟨b, 1, none⟩) hl).trans h.c1, (hb.cell (p := ⟨b, 2, none⟩) hl).trans h.c2, (hb.cell (p := ⟨b, 3, none⟩) hl).trans h.c3, (hb.cell (p := ⟨b, 4, none⟩) hl).trans h.c4, (hb.cell (p := ⟨b, 5, none⟩) hl).trans h.c5, (hb.cell (p := ⟨b, 6, none⟩) hl).trans h.c6, (hb.cell (p := ⟨b, 7, none⟩) hl).trans h.c7, (hb.cell (p := ⟨b, 8, none⟩) hl).trans h.c8, (hb.cell (p := ⟨b, 9, none⟩) hl).trans h.c9⟩

theorem cells10_new (W : World) (v0 v1 v2 v3 v4 v5 v6 v7 v8 v9 : Value) (t : TypeId) : Cells10 (W.alloc (.cells #[v0, v1, v2, v3, v4, v5, v6, v7, v8, v9] t)) W.heap.size v0 v1 v2 v3 v4 v5 v6 v7 v8 v9 :=
  ⟨by simp, by simp, by simp, by simp, by simp, by simp, by simp, by simp, by simp, by simp⟩

set_option maxHeartbeats 1000000 in
theorem compareSteps (g i x y : Int) (w : World) : Calls Try.prog 65 #[.agg #[.int .u8 g, .int .u8 i], .agg #[.int .u8 x, .int .u8 y]] w fun e w' => e = .returned (.int .i64 (cs g i x y)) ∧ Below w.heap.size w w' := by
  go_enter Try.func65, Try.ntmps65
  go_wp2_with fail
  have z : Below w.heap.size w ((w.alloc (.cells #[.int .u8 g, .int .u8 i] 34)).alloc (.cells #[.int .u8 x, .int .u8 y] 34)) := ((Below.refl _ _).alloc (Nat.le_refl _) _).alloc (by simp) _
  have s0 : ((w.alloc (.cells #[.int .u8 g, .int .u8 i] 34)).alloc (.cells #[.int .u8 x, .int .u8 y] 34)).cell? ⟨w.heap.size, 0, none⟩ = some (.int .u8 g) := by simp
  have s1 : ((w.alloc (.cells #[.int .u8 g, .int .u8 i] 34)).alloc (.cells #[.int .u8 x, .int .u8 y] 34)).cell? ⟨w.heap.size, 1, none⟩ = some (.int .u8 i) := by simp
  have s2 : ((w.alloc (.cells #[.int .u8 g, .int .u8 i] 34)).alloc (.cells #[.int .u8 x, .int .u8 y] 34)).cell? ⟨w.heap.size + 1, 0, none⟩ = some (.int .u8 x) := by simp
  have s3 : ((w.alloc (.cells #[.int .u8 g, .int .u8 i] 34)).alloc (.cells #[.int .u8 x, .int .u8 y] 34)).cell? ⟨w.heap.size + 1, 1, none⟩ = some (.int .u8 y) := by simp
  generalize (w.alloc (.cells #[.int .u8 g, .int .u8 i] 34)).alloc (.cells #[.int .u8 x, .int .u8 y] 34) = W at *
  have t0 := cell_regrown s0
  have t1 := cell_regrown s1
  have t2 := cell_regrown s2
  have t3 := cell_regrown s3
  clear s0 s1 s2 s3
  have Z : Hid _ := Lib.hid z
  clear z
  refine region_first_below 10 (by kernel_rfl) (by kernel_rfl) ?_
  simp only [List.take_succ_cons, List.take_zero, List.drop_succ_cons, List.drop_zero]
  repeat (go_big_quiet_step (first | exact Calls.regrown_of ((cmpU8 _ _ _).mono fun _ _ ⟨he, hw⟩ => ⟨he, hw ▸ Below.refl _ _⟩) | exact Calls.regrown_of ((cmpU8 _ _ _).mono fun _ _ ⟨he, hw⟩ => ⟨he, hw ▸ Below.refl _ _⟩)))
  refine wpQuiet_nil ?_
  rintro W1 ⟨p, rfl⟩
  have z2 := below_regrown W p.d p.os
  generalize grow (redrawn W p.d) p.os = W2 at *
  clear t0 t1 t2 t3
  have Z2 : Hid _ := Lib.hid z2
  clear z2
  go_wp2_with (go_at_call 61; refine (orTwo _ (sgn g x) (sgn i y) _ (by simp) (by simp)).mono ?_; rintro e w' ⟨rfl, rfl⟩)
  go_ret
  exact ⟨rfl, (Z.out.trans (Z2.out.mono Z.out.size)).alloc (Nat.le_trans Z.out.size Z2.out.size) _⟩

set_option maxHeartbeats 1000000 in
theorem compareProcs (g i x y : Int) (w : World) : Calls Try.prog 62 #[.agg #[.int .u8 g, .int .u16 i], .agg #[.int .u8 x, .int .u16 y]] w fun e w' => e = .returned (.int .i64 (cp g i x y)) ∧ Below w.heap.size w w' := by
  go_enter Try.func62, Try.ntmps62
  go_wp2_with fail
  have z : Below w.heap.size w ((w.alloc (.cells #[.int .u8 g, .int .u16 i] 31)).alloc (.cells #[.int .u8 x, .int .u16 y] 31)) := ((Below.refl _ _).alloc (Nat.le_refl _) _).alloc (by simp) _
  have s0 : ((w.alloc (.cells #[.int .u8 g, .int .u16 i] 31)).alloc (.cells #[.int .u8 x, .int .u16 y] 31)).cell? ⟨w.heap.size, 0, none⟩ = some (.int .u8 g) := by simp
  have s1 : ((w.alloc (.cells #[.int .u8 g, .int .u16 i] 31)).alloc (.cells #[.int .u8 x, .int .u16 y] 31)).cell? ⟨w.heap.size, 1, none⟩ = some (.int .u16 i) := by simp
  have s2 : ((w.alloc (.cells #[.int .u8 g, .int .u16 i] 31)).alloc (.cells #[.int .u8 x, .int .u16 y] 31)).cell? ⟨w.heap.size + 1, 0, none⟩ = some (.int .u8 x) := by simp
  have s3 : ((w.alloc (.cells #[.int .u8 g, .int .u16 i] 31)).alloc (.cells #[.int .u8 x, .int .u16 y] 31)).cell? ⟨w.heap.size + 1, 1, none⟩ = some (.int .u16 y) := by simp
  generalize (w.alloc (.cells #[.int .u8 g, .int .u16 i] 31)).alloc (.cells #[.int .u8 x, .int .u16 y] 31) = W at *
  have t0 := cell_regrown s0
  have t1 := cell_regrown s1
  have t2 := cell_regrown s2
  have t3 := cell_regrown s3
  clear s0 s1 s2 s3
  have Z : Hid _ := Lib.hid z
  clear z
  refine region_first_below 10 (by kernel_rfl) (by kernel_rfl) ?_
  simp only [List.take_succ_cons, List.take_zero, List.drop_succ_cons, List.drop_zero]
  repeat (go_big_quiet_step (first | exact Calls.regrown_of ((cmpU8 _ _ _).mono fun _ _ ⟨he, hw⟩ => ⟨he, hw ▸ Below.refl _ _⟩) | exact Calls.regrown_of ((cmpU16 _ _ _).mono fun _ _ ⟨he, hw⟩ => ⟨he, hw ▸ Below.refl _ _⟩)))
  refine wpQuiet_nil ?_
  rintro W1 ⟨p, rfl⟩
  have z2 := below_regrown W p.d p.os
  generalize grow (redrawn W p.d) p.os = W2 at *
  clear t0 t1 t2 t3
  have Z2 : Hid _ := Lib.hid z2
  clear z2
  go_wp2_with (go_at_call 61; refine (orTwo _ (sgn g x) (sgn i y) _ (by simp) (by simp)).mono ?_; rintro e w' ⟨rfl, rfl⟩)
  go_ret
  exact ⟨rfl, (Z.out.trans (Z2.out.mono Z.out.size)).alloc (Nat.le_trans Z.out.size Z2.out.size) _⟩

/-- six numbers side by side, from the fifth cell of a block on. -/
structure Cells6 (W : World) (b : Nat) (v0 v1 v2 v3 v4 v5 : Int) : Prop where
  c0 : W.cell? ⟨b, 4, none⟩ = some (.int .u8 v0)
  c1 : W.cell? ⟨b, 5, none⟩ = some (.int .u8 v1)
  c2 : W.cell? ⟨b, 6, none⟩ = some (.int .u8 v2)
  c3 : W.cell? ⟨b, 7, none⟩ = some (.int .u8 v3)
  c4 : W.cell? ⟨b, 8, none⟩ = some (.int .u8 v4)
  c5 : W.cell? ⟨b, 9, none⟩ = some (.int .u8 v5)

theorem Cells6.kept {W W' : World} {B b : Nat} {v0 v1 v2 v3 v4 v5 : Int} (h : Cells6 W b v0 v1 v2 v3 v4 v5) (hb : Below B W W') (hl : b < B) : Cells6 W' b v0 v1 v2 v3 v4 v5 :=
  ⟨(hb.cell (p := ⟨b, 4, none⟩) hl).trans h.c0, (hb.cell (p := ⟨b, 5, none⟩) hl).trans h.c1, (hb.cell (p := ⟨b, 6, none⟩) hl).trans h.c2, (hb.cell (p := ⟨b, 7, none⟩) hl).trans h.c3, (hb.cell (p := ⟨b, 8, none⟩) hl).trans h.c4, (hb.cell (p := ⟨b, 9, none⟩) hl).trans h.c5⟩

set_option maxHeartbeats 1000000 in
theorem compareFunc0 (N M : Nat) (a0 a1 b0 b1 c0 c1 x0 x1 y0 y1 z0 z1 : Int) (w : World) (hN : N < w.heap.size) (hM : M < w.heap.size) (C : Cells6 w N a0 a1 b0 b1 c0 c1) (D : Cells6 w M x0 x1 y0 y1 z0 z1) :
    Calls Try.prog 64 #[.slice (some ⟨N, 4, none⟩) 0 3, .slice (some ⟨M, 4, none⟩) 0 3, .func (.func 65) #[] #[]] w fun e w' =>
      e = .returned (.int .i64 (cf 0 (cs a0 a1 x0 x1) (cs b0 b1 y0 y1) (cs c0 c1 z0 z1))) ∧ Below w.heap.size w w' := by
  have p00 := C.c0
  have q00 := D.c0
  have p01 := C.c1
  have q01 := D.c1
  have p02 := C.c2
  have q02 := D.c2
  have p03 := C.c3
  have q03 := D.c3
  have p04 := C.c4
  have q04 := D.c4
  have p05 := C.c5
  have q05 := D.c5
  go_enter Try.func64, Try.ntmps64
  go_wp2
  refine wp_loop_rounds 1 ?_
  rw [rounds_succ]
  go_wp2
  go_ret
  exact ⟨by simp [cf, or2], (Below.refl w.heap.size w)⟩

set_option maxHeartbeats 1000000 in
theorem compareFunc1 (N M : Nat) (a0 a1 b0 b1 c0 c1 x0 x1 y0 y1 z0 z1 : Int) (w : World) (hN : N < w.heap.size) (hM : M < w.heap.size) (C : Cells6 w N a0 a1 b0 b1 c0 c1) (D : Cells6 w M x0 x1 y0 y1 z0 z1) :
    Calls Try.prog 64 #[.slice (some ⟨N, 4, none⟩) 1 3, .slice (some ⟨M, 4, none⟩) 1 3, .func (.func 65) #[] #[]] w fun e w' =>
      e = .returned (.int .i64 (cf 1 (cs a0 a1 x0 x1) (cs b0 b1 y0 y1) (cs c0 c1 z0 z1))) ∧ Below w.heap.size w w' := by
  have p00 := C.c0
  have q00 := D.c0
  have p01 := C.c1
  have q01 := D.c1
  have p02 := C.c2
  have q02 := D.c2
  have p03 := C.c3
  have q03 := D.c3
  have p04 := C.c4
  have q04 := D.c4
  have p05 := C.c5
  have q05 := D.c5
  go_enter Try.func64, Try.ntmps64
  go_wp2
  refine wp_loop_rounds 2 ?_
  rw [rounds_succ]
  go_wp2_with fail
  refine (compareSteps a0 a1 x0 x1 _).mono ?_
  rintro e w1 ⟨rfl, hb1⟩
  have g1 : w.heap.size ≤ w.heap.size := (Below.refl w.heap.size w).size
  have z1 : Below w.heap.size w w1 := (((Below.refl w.heap.size w).alloc g1 _).alloc (by first | (simp; done) | (simp; omega)) _).trans (hb1.mono (by first | (simp; done) | (simp; omega)))
  have n1 : N < w1.heap.size := Nat.lt_of_lt_of_le hN z1.size
  have m1 : M < w1.heap.size := Nat.lt_of_lt_of_le hM z1.size
  clear hb1
  clear p00 q00 p01 q01 p02 q02 p03 q03 p04 q04 p05 q05
  have C1 := C.kept z1 hN
  have D1 := D.kept z1 hM
  have p10 := C1.c0
  have q10 := D1.c0
  have p11 := C1.c1
  have q11 := D1.c1
  have p12 := C1.c2
  have q12 := D1.c2
  have p13 := C1.c3
  have q13 := D1.c3
  have p14 := C1.c4
  have q14 := D1.c4
  have p15 := C1.c5
  have q15 := D1.c5
  have Z1 := Lib.hid z1
  clear z1
  by_cases s0 : cs a0 a1 x0 x1 = 0
  rotate_left
  · have sb : (cs a0 a1 x0 x1 != 0) = true := by simpa using s0
    go_wp2
    go_ret
    exact ⟨by simp [cf, or2, s0], Z1.out⟩
  have s0' := Lib.hid s0
  rw [s0]
  clear s0
  go_wp2
  rw [rounds_succ]
  go_wp2
  go_ret
  exact ⟨by simp [cf, or2, s0'.out], Z1.out⟩

set_option maxHeartbeats 1000000 in
theorem compareFunc2 (N M : Nat) (a0 a1 b0 b1 c0 c1 x0 x1 y0 y1 z0 z1 : Int) (w : World) (hN : N < w.heap.size) (hM : M < w.heap.size) (C : Cells6 w N a0 a1 b0 b1 c0 c1) (D : Cells6 w M x0 x1 y0 y1 z0 z1) :
    Calls Try.prog 64 #[.slice (some ⟨N, 4, none⟩) 2 3, .slice (some ⟨M, 4, none⟩) 2 3, .func (.func 65) #[] #[]] w fun e w' =>
      e = .returned (.int .i64 (cf 2 (cs a0 a1 x0 x1) (cs b0 b1 y0 y1) (cs c0 c1 z0 z1))) ∧ Below w.heap.size w w' := by
  have p00 := C.c0
  have q00 := D.c0
  have p01 := C.c1
  have q01 := D.c1
  have p02 := C.c2
  have q02 := D.c2
  have p03 := C.c3
  have q03 := D.c3
  have p04 := C.c4
  have q04 := D.c4
  have p05 := C.c5
  have q05 := D.c5
  go_enter Try.func64, Try.ntmps64
  go_wp2
  refine wp_loop_rounds 3 ?_
  rw [rounds_succ]
  go_wp2_with fail
  refine (compareSteps a0 a1 x0 x1 _).mono ?_
  rintro e w1 ⟨rfl, hb1⟩
  have g1 : w.heap.size ≤ w.heap.size := (Below.refl w.heap.size w).size
  have z1 : Below w.heap.size w w1 := (((Below.refl w.heap.size w).alloc g1 _).alloc (by first | (simp; done) | (simp; omega)) _).trans (hb1.mono (by first | (simp; done) | (simp; omega)))
  have n1 : N < w1.heap.size := Nat.lt_of_lt_of_le hN z1.size
  have m1 : M < w1.heap.size := Nat.lt_of_lt_of_le hM z1.size
  clear hb1
  clear p00 q00 p01 q01 p02 q02 p03 q03 p04 q04 p05 q05
  have C1 := C.kept z1 hN
  have D1 := D.kept z1 hM
  have p10 := C1.c0
  have q10 := D1.c0
  have p11 := C1.c1
  have q11 := D1.c1
  have p12 := C1.c2
  have q12 := D1.c2
  have p13 := C1.c3
  have q13 := D1.c3
  have p14 := C1.c4
  have q14 := D1.c4
  have p15 := C1.c5
  have q15 := D1.c5
  have Z1 := Lib.hid z1
  clear z1
  by_cases s0 : cs a0 a1 x0 x1 = 0
  rotate_left
  · have sb : (cs a0 a1 x0 x1 != 0) = true := by simpa using s0
    go_wp2
    go_ret
    exact ⟨by simp [cf, or2, s0], Z1.out⟩
  have s0' := Lib.hid s0
  rw [s0]
  clear s0
  go_wp2
  rw [rounds_succ]
  go_wp2_with fail
  refine (compareSteps b0 b1 y0 y1 _).mono ?_
  rintro e w2 ⟨rfl, hb2⟩
  have g2 : w.heap.size ≤ w1.heap.size := Z1.out.size
  have z2 : Below w.heap.size w w2 := ((Z1.out.alloc g2 _).alloc (by first | (simp; done) | (simp; omega)) _).trans (hb2.mono (by first | (simp; done) | (simp; omega)))
  have n2 : N < w2.heap.size := Nat.lt_of_lt_of_le hN z2.size
  have m2 : M < w2.heap.size := Nat.lt_of_lt_of_le hM z2.size
  clear hb2
  clear p10 q10 p11 q11 p12 q12 p13 q13 p14 q14 p15 q15
  have C2 := C.kept z2 hN
  have D2 := D.kept z2 hM
  have p20 := C2.c0
  have q20 := D2.c0
  have p21 := C2.c1
  have q21 := D2.c1
  have p22 := C2.c2
  have q22 := D2.c2
  have p23 := C2.c3
  have q23 := D2.c3
  have p24 := C2.c4
  have q24 := D2.c4
  have p25 := C2.c5
  have q25 := D2.c5
  have Z2 := Lib.hid z2
  clear z2
  by_cases s1 : cs b0 b1 y0 y1 = 0
  rotate_left
  · have sb : (cs b0 b1 y0 y1 != 0) = true := by simpa using s1
    go_wp2
    go_ret
    exact ⟨by simp [cf, or2, s0'.out, s1], Z2.out⟩
  have s1' := Lib.hid s1
  rw [s1]
  clear s1
  go_wp2
  rw [rounds_succ]
  go_wp2
  go_ret
  exact ⟨by simp [cf, or2, s0'.out, s1'.out], Z2.out⟩

set_option maxHeartbeats 1000000 in
theorem compareFunc3 (N M : Nat) (a0 a1 b0 b1 c0 c1 x0 x1 y0 y1 z0 z1 : Int) (w : World) (hN : N < w.heap.size) (hM : M < w.heap.size) (C : Cells6 w N a0 a1 b0 b1 c0 c1) (D : Cells6 w M x0 x1 y0 y1 z0 z1) :
    Calls Try.prog 64 #[.slice (some ⟨N, 4, none⟩) 3 3, .slice (some ⟨M, 4, none⟩) 3 3, .func (.func 65) #[] #[]] w fun e w' =>
      e = .returned (.int .i64 (cf 3 (cs a0 a1 x0 x1) (cs b0 b1 y0 y1) (cs c0 c1 z0 z1))) ∧ Below w.heap.size w w' := by
  have p00 := C.c0
  have q00 := D.c0
  have p01 := C.c1
  have q01 := D.c1
  have p02 := C.c2
  have q02 := D.c2
  have p03 := C.c3
  have q03 := D.c3
  have p04 := C.c4
  have q04 := D.c4
  have p05 := C.c5
  have q05 := D.c5
  go_enter Try.func64, Try.ntmps64
  go_wp2
  refine wp_loop_rounds 4 ?_
  rw [rounds_succ]
  go_wp2_with fail
  refine (compareSteps a0 a1 x0 x1 _).mono ?_
  rintro e w1 ⟨rfl, hb1⟩
  have g1 : w.heap.size ≤ w.heap.size := (Below.refl w.heap.size w).size
  have z1 : Below w.heap.size w w1 := (((Below.refl w.heap.size w).alloc g1 _).alloc (by first | (simp; done) | (simp; omega)) _).trans (hb1.mono (by first | (simp; done) | (simp; omega)))
  have n1 : N < w1.heap.size := Nat.lt_of_lt_of_le hN z1.size
  have m1 : M < w1.heap.size := Nat.lt_of_lt_of_le hM z1.size
  clear hb1
  clear p00 q00 p01 q01 p02 q02 p03 q03 p04 q04 p05 q05
  have C1 := C.kept z1 hN
  have D1 := D.kept z1 hM
  have p10 := C1.c0
  have q10 := D1.c0
  have p11 := C1.c1
  have q11 := D1.c1
  have p12 := C1.c2
  have q12 := D1.c2
  have p13 := C1.c3
  have q13 := D1.c3
  have p14 := C1.c4
  have q14 := D1.c4
  have p15 := C1.c5
  have q15 := D1.c5
  have Z1 := Lib.hid z1
  clear z1
  by_cases s0 : cs a0 a1 x0 x1 = 0
  rotate_left
  · have sb : (cs a0 a1 x0 x1 != 0) = true := by simpa using s0
    go_wp2
    go_ret
    exact ⟨by simp [cf, or2, s0], Z1.out⟩
  have s0' := Lib.hid s0
  rw [s0]
  clear s0
  go_wp2
  rw [rounds_succ]
  go_wp2_with fail
  refine (compareSteps b0 b1 y0 y1 _).mono ?_
  rintro e w2 ⟨rfl, hb2⟩
  have g2 : w.heap.size ≤ w1.heap.size := Z1.out.size
  have z2 : Below w.heap.size w w2 := ((Z1.out.alloc g2 _).alloc (by first | (simp; done) | (simp; omega)) _).trans (hb2.mono (by first | (simp; done) | (simp; omega)))
  have n2 : N < w2.heap.size := Nat.lt_of_lt_of_le hN z2.size
  have m2 : M < w2.heap.size := Nat.lt_of_lt_of_le hM z2.size
  clear hb2
  clear p10 q10 p11 q11 p12 q12 p13 q13 p14 q14 p15 q15
  have C2 := C.kept z2 hN
  have D2 := D.kept z2 hM
  have p20 := C2.c0
  have q20 := D2.c0
  have p21 := C2.c1
  have q21 := D2.c1
  have p22 := C2.c2
  have q22 := D2.c2
  have p23 := C2.c3
  have q23 := D2.c3
  have p24 := C2.c4
  have q24 := D2.c4
  have p25 := C2.c5
  have q25 := D2.c5
  have Z2 := Lib.hid z2
  clear z2
  by_cases s1 : cs b0 b1 y0 y1 = 0
  rotate_left
  · have sb : (cs b0 b1 y0 y1 != 0) = true := by simpa using s1
    go_wp2
    go_ret
    exact ⟨by simp [cf, or2, s0'.out, s1], Z2.out⟩
  have s1' := Lib.hid s1
  rw [s1]
  clear s1
  go_wp2
  rw [rounds_succ]
  go_wp2_with fail
  refine (compareSteps c0 c1 z0 z1 _).mono ?_
  rintro e w3 ⟨rfl, hb3⟩
  have g3 : w.heap.size ≤ w2.heap.size := Z2.out.size
  have z3 : Below w.heap.size w w3 := ((Z2.out.alloc g3 _).alloc (by first | (simp; done) | (simp; omega)) _).trans (hb3.mono (by first | (simp; done) | (simp; omega)))
  have n3 : N < w3.heap.size := Nat.lt_of_lt_of_le hN z3.size
  have m3 : M < w3.heap.size := Nat.lt_of_lt_of_le hM z3.size
  clear hb3
  clear p20 q20 p21 q21 p22 q22 p23 q23 p24 q24 p25 q25
  have C3 := C.kept z3 hN
  have D3 := D.kept z3 hM
  have p30 := C3.c0
  have q30 := D3.c0
  have p31 := C3.c1
  have q31 := D3.c1
  have p32 := C3.c2
  have q32 := D3.c2
  have p33 := C3.c3
  have q33 := D3.c3
  have p34 := C3.c4
  have q34 := D3.c4
  have p35 := C3.c5
  have q35 := D3.c5
  have Z3 := Lib.hid z3
  clear z3
  by_cases s2 : cs c0 c1 z0 z1 = 0
  rotate_left
  · have sb : (cs c0 c1 z0 z1 != 0) = true := by simpa using s2
    go_wp2
    go_ret
    exact ⟨by simp [cf, or2, s0'.out, s1'.out, s2], Z3.out⟩
  have s2' := Lib.hid s2
  rw [s2]
  clear s2
  go_wp2
  rw [rounds_succ]
  go_wp2
  go_ret
  exact ⟨by simp [cf, or2, s0'.out, s1'.out, s2'.out], Z3.out⟩

theorem compareFunc (k N M : Nat) (hk : k ≤ 3) (a0 a1 b0 b1 c0 c1 x0 x1 y0 y1 z0 z1 : Int) (w : World) (hN : N < w.heap.size) (hM : M < w.heap.size) (C : Cells6 w N a0 a1 b0 b1 c0 c1) (D : Cells6 w M x0 x1 y0 y1 z0 z1) :
    Calls Try.prog 64 #[.slice (some ⟨N, 4, none⟩) k 3, .slice (some ⟨M, 4, none⟩) k 3, .func (.func 65) #[] #[]] w fun e w' =>
      e = .returned (.int .i64 (cf k (cs a0 a1 x0 x1) (cs b0 b1 y0 y1) (cs c0 c1 z0 z1))) ∧ Below w.heap.size w w' := by
  have h : k = 0 ∨ k = 1 ∨ k = 2 ∨ k = 3 := by omega
  rcases h with rfl | rfl | rfl | rfl
  · exact compareFunc0 N M a0 a1 b0 b1 c0 c1 x0 x1 y0 y1 z0 z1 w hN hM C D
  · exact compareFunc1 N M a0 a1 b0 b1 c0 c1 x0 x1 y0 y1 z0 z1 w hN hM C D
  · exact compareFunc2 N M a0 a1 b0 b1 c0 c1 x0 x1 y0 y1 z0 z1 w hN hM C D
  · exact compareFunc3 N M a0 a1 b0 b1 c0 c1 x0 x1 y0 y1 z0 z1 w hN hM C D

theorem Cells10.six {W : World} {b : Nat} {v0 v1 v2 v3 : Value} {a0 a1 b0 b1 c0 c1 : Int} (h : Cells10 W b v0 v1 v2 v3 (.int .u8 a0) (.int .u8 a1) (.int .u8 b0) (.int .u8 b1) (.int .u8 c0) (.int .u8 c1)) : Cells6 W b a0 a1 b0 b1 c0 c1 :=
  ⟨h.c4, h.c5, h.c6, h.c7, h.c8, h.c9⟩

set_option maxRecDepth 100000 in
set_option maxHeartbeats 2000000 in
theorem compare (n l s d a0 a1 b0 b1 c0 c1 n' l' s' d' x0 x1 y0 y1 z0 z1 : Int) (w : World) (hd : 0 ≤ d) (hd' : 0 ≤ d') :
    Calls Try.prog 52 #[.agg #[.int .u8 n, .int .u16 l, .int .u32 s, .int .u8 d, .int .u8 a0, .int .u8 a1, .int .u8 b0, .int .u8 b1, .int .u8 c0, .int .u8 c1], .agg #[.int .u8 n', .int .u16 l', .int .u32 s', .int .u8 d', .int .u8 x0, .int .u8 x1, .int .u8 y0, .int .u8 y1, .int .u8 z0, .int .u8 z1]] w fun e w' => e = .returned (.int .i64 (ci n l s d a0 a1 b0 b1 c0 c1 n' l' s' d' x0 x1 y0 y1 z0 z1)) ∧ Below w.heap.size w w' := by
  have hmin : ∀ (ts : Array TypeId) (t : TypeId) (W : World), (Builtin.min_ ts t #[.int .u8 d, .int .u8 d', .int .u8 3]).run Try.prog W = .ok (.int .u8 ((mn d d' : Nat) : Int)) W := by
    intro ts t W
    have e : (if (3 : Int) < (if d' < d then d' else d) then 3 else (if d' < d then d' else d)) = ((mn d d' : Nat) : Int) := by
      unfold mn
      split <;> split at * <;> omega
    rw [← e, run_min_int3]
  have hk := mn_le d d'
  have hci : ci n l s d a0 a1 b0 b1 c0 c1 n' l' s' d' x0 x1 y0 y1 z0 z1 = or2 (cp n l n' l') (or2 (sgn s s') (or2 (cf (mn d d') (cs a0 a1 x0 x1) (cs b0 b1 y0 y1) (cs c0 c1 z0 z1)) (or2 (sgn d d') (cf 3 (cs a0 a1 x0 x1) (cs b0 b1 y0 y1) (cs c0 c1 z0 z1))))) := rfl
  rw [hci]
  clear hci
  generalize mn d d' = k at hmin hk ⊢
  have hk3 : (k : Int) ≤ 3 := by omega
  go_enter Try.func52, Try.ntmps52
  go_wp2_with fail
  clear hmin
  have z : Below w.heap.size w ((w.alloc (.cells #[.int .u8 n, .int .u16 l, .int .u32 s, .int .u8 d, .int .u8 a0, .int .u8 a1, .int .u8 b0, .int .u8 b1, .int .u8 c0, .int .u8 c1] 37)).alloc (.cells #[.int .u8 n', .int .u16 l', .int .u32 s', .int .u8 d', .int .u8 x0, .int .u8 x1, .int .u8 y0, .int .u8 y1, .int .u8 z0, .int .u8 z1] 37)) := ((Below.refl _ _).alloc (Nat.le_refl _) _).alloc (by simp) _
  have C := (cells10_new w (.int .u8 n) (.int .u16 l) (.int .u32 s) (.int .u8 d) (.int .u8 a0) (.int .u8 a1) (.int .u8 b0) (.int .u8 b1) (.int .u8 c0) (.int .u8 c1) 37).kept (W' := (w.alloc (.cells #[.int .u8 n, .int .u16 l, .int .u32 s, .int .u8 d, .int .u8 a0, .int .u8 a1, .int .u8 b0, .int .u8 b1, .int .u8 c0, .int .u8 c1] 37)).alloc (.cells #[.int .u8 n', .int .u16 l', .int .u32 s', .int .u8 d', .int .u8 x0, .int .u8 x1, .int .u8 y0, .int .u8 y1, .int .u8 z0, .int .u8 z1] 37)) ((Below.refl _ _).alloc (Nat.le_refl _) _) (by simp)
  have D := cells10_new (w.alloc (.cells #[.int .u8 n, .int .u16 l, .int .u32 s, .int .u8 d, .int .u8 a0, .int .u8 a1, .int .u8 b0, .int .u8 b1, .int .u8 c0, .int .u8 c1] 37)) (.int .u8 n') (.int .u16 l') (.int .u32 s') (.int .u8 d') (.int .u8 x0) (.int .u8 x1) (.int .u8 y0) (.int .u8 y1) (.int .u8 z0) (.int .u8 z1) 37
  have eD : (w.alloc (.cells #[.int .u8 n, .int .u16 l, .int .u32 s, .int .u8 d, .int .u8 a0, .int .u8 a1, .int .u8 b0, .int .u8 b1, .int .u8 c0, .int .u8 c1] 37)).heap.size = w.heap.size + 1 := by simp
  rw [eD] at D
  clear eD
  have hz : w.heap.size + 1 < ((w.alloc (.cells #[.int .u8 n, .int .u16 l, .int .u32 s, .int .u8 d, .int .u8 a0, .int .u8 a1, .int .u8 b0, .int .u8 b1, .int .u8 c0, .int .u8 c1] 37)).alloc (.cells #[.int .u8 n', .int .u16 l', .int .u32 s', .int .u8 d', .int .u8 x0, .int .u8 x1, .int .u8 y0, .int .u8 y1, .int .u8 z0, .int .u8 z1] 37)).heap.size := by simp
  generalize (w.alloc (.cells #[.int .u8 n, .int .u16 l, .int .u32 s, .int .u8 d, .int .u8 a0, .int .u8 a1, .int .u8 b0, .int .u8 b1, .int .u8 c0, .int .u8 c1] 37)).alloc (.cells #[.int .u8 n', .int .u16 l', .int .u32 s', .int .u8 d', .int .u8 x0, .int .u8 x1, .int .u8 y0, .int .u8 y1, .int .u8 z0, .int .u8 z1] 37) = W at *
  have hz0 : w.heap.size < W.heap.size := by omega
  have p0 := cell_regrown C.c0
  have p1 := cell_regrown C.c1
  have p2 := cell_regrown C.c2
  have p3 := cell_regrown C.c3
  have q0 := cell_regrown D.c0
  have q1 := cell_regrown D.c1
  have q2 := cell_regrown D.c2
  have q3 := cell_regrown D.c3
  have cfk : ∀ (k : Nat), k ≤ 3 → ∀ d os, Calls Try.prog 64 #[.slice (some ⟨w.heap.size, 4, none⟩) k 3, .slice (some ⟨w.heap.size + 1, 4, none⟩) k 3, .func (.func 65) #[] #[]] (grow (redrawn W d) os) fun e w'' => e = .returned (.int .i64 (cf k (cs a0 a1 x0 x1) (cs b0 b1 y0 y1) (cs c0 c1 z0 z1))) ∧ ∃ p : Regrown, w'' = grow (redrawn W p.d) p.os :=
    fun k hk d os => Calls.regrown_of (compareFunc k _ _ hk _ _ _ _ _ _ _ _ _ _ _ _ _ (Nat.lt_of_lt_of_le hz0 (below_regrown W d os).size) (Nat.lt_of_lt_of_le hz (below_regrown W d os).size) (C.six.kept (below_regrown W d os) hz0) (D.six.kept (below_regrown W d os) hz))
  have CK := Lib.hid (cfk k hk)
  have C3 := Lib.hid (cfk 3 (by omega))
  clear cfk C D hz hz0
  have Z := Lib.hid z
  clear z
  refine region_first_below 27 (by kernel_rfl) (by kernel_rfl) ?_
  simp only [List.take_succ_cons, List.take_zero, List.drop_succ_cons, List.drop_zero]
  repeat (go_big_quiet_step (first | (go_at_call 62; exact Calls.regrown_of (compareProcs _ _ _ _ _)) | (go_at_call 63; exact Calls.regrown_of ((cmpU32 _ _ _).mono fun _ _ ⟨he, hw⟩ => ⟨he, hw ▸ Below.refl _ _⟩)) | (go_at_call 66; exact Calls.regrown_of ((cmpU8 _ _ _).mono fun _ _ ⟨he, hw⟩ => ⟨he, hw ▸ Below.refl _ _⟩)) | (go_at_call 64; first | (with_reducible exact CK.out _ _) | (with_reducible exact C3.out _ _))))
  refine wpQuiet_nil ?_
  rintro W1 ⟨p, rfl⟩
  have z2 := below_regrown W p.d p.os
  generalize grow (redrawn W p.d) p.os = W2 at *
  clear p0 q0 p1 q1 p2 q2 p3 q3
  have Z2 := Lib.hid z2
  clear z2
  go_wp2_with (go_at_call 61; refine (orFive _ (cp n l n' l') (sgn s s') (cf k (cs a0 a1 x0 x1) (cs b0 b1 y0 y1) (cs c0 c1 z0 z1)) (sgn d d') (cf 3 (cs a0 a1 x0 x1) (cs b0 b1 y0 y1) (cs c0 c1 z0 z1)) _ (by simp) (by simp) (by simp) (by simp) (by simp)).mono ?_; rintro e w' ⟨rfl, rfl⟩)
  go_ret
  exact ⟨rfl, (Z.out.trans (Z2.out.mono Z.out.size)).alloc (Nat.le_trans Z.out.size Z2.out.size) _⟩

/-- In the form that slices.SortFunc asks for. -/
theorem compare_lays (n l s d a0 a1 b0 b1 c0 c1 n' l' s' d' x0 x1 y0 y1 z0 z1 : Int) (w : World) (hd : 0 ≤ d) (hd' : 0 ≤ d') :
    Go.Calls Try.prog 52 #[.agg #[.int .u8 n, .int .u16 l, .int .u32 s, .int .u8 d, .int .u8 a0, .int .u8 a1, .int .u8 b0, .int .u8 b1, .int .u8 c0, .int .u8 c1], .agg #[.int .u8 n', .int .u16 l', .int .u32 s', .int .u8 d', .int .u8 x0, .int .u8 x1, .int .u8 y0, .int .u8 y1, .int .u8 z0, .int .u8 z1]] w fun e w' => e = .returned (.int .i64 (ci n l s d a0 a1 b0 b1 c0 c1 n' l' s' d' x0 x1 y0 y1 z0 z1)) ∧ ∃ q os, w' = grow (w.drewN q) os :=
  (compare n l s d a0 a1 b0 b1 c0 c1 n' l' s' d' x0 x1 y0 y1 z0 z1 w hd hd').mono fun _ _ ⟨he, hb⟩ => ⟨he, by obtain ⟨p, hp⟩ := regrown_of_below hb; exact ⟨p.d, p.os, hp⟩⟩

end L
end Go.Proofs.Ytldbmmganicliaa
