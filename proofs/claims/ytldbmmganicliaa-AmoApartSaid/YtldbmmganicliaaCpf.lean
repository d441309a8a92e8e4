/-
  Two rows of steps, compared one by one: by a contract. Condition: both are as long, at most three; their numbers lie in memory.
-/
import Derived.Test.YtldbmmganicliaaCmp
namespace Go.Proofs.Ytldbmmganicliaa
set_option linter.unusedSimpArgs false
set_option linter.unusedVariables false
open Go.RowKit

/-- six numbers side by side, from the fifth cell of a block on. -/
structure Cells6 (W : World) (b : Nat) (v0 v1 v2 v3 v4 v5 : Int) : Prop where
  c0 : W.cell? ⟨b, 4, none⟩ = some (.int .u8 v0)
  c1 : W.cell? ⟨b, 5, none⟩ = some (.int .u8 v1)
  c2 : W.cell? ⟨b, 6, none⟩ = some (.int .u8 v2)
  c3 : W.cell? ⟨b, 7, none⟩ = some (.int .u8 v3)
  c4 : W.cell? ⟨b, 8, none⟩ = some (.int .u8 v4)
  c5 : W.cell? ⟨b, 9, none⟩ = some (.int .u8 v5)

theorem Cells6.kept {W W' : World} {B b : Nat} {v0 v1 v2 v3 v4 v5 : Int} (h : Cells6 W b v0 v1 v2 v3 v4 v5) (hb : Below B W W') (hl : b < B) : Cells6 W' b v0 v1 v2 v3 v4 v5 :=
  ⟨(hb.cell (p := ⟨b, 4, none⟩) hl).trans h.c0, (hb.cell (p := ⟨b, 5, none⟩) hl).trans h.c1, (hb.cell (p := ⟨b, 6, none⟩) hl).trans h.c2, (hb.cell (p := ⟨b, 7, none⟩) hl).trans h.c3, (hb.cell (p := ⟨b, 8, none⟩) hl).trans h.c4, (hb.cell (p := ⟨b, 9, none⟩) hl).trans h.c5⟩

set_option maxHeartbeats 1000000 in
theorem compareFunc0 (N M : Nat) (a0 a1 b0 b1 c0 c1 x0 x1 y0 y1 z0 z1 : Int) (w : World) (hN : N < w.heap.size) (hM : M < w.heap.size) (C : Cells6 w N a0 a1 b0 b1 c0 c1) (D : Cells6 w M x0 x1 y0 y1 z0 z1) :
    Calls Try.prog 64 #[.slice (some ⟨N, 4, none⟩) 0 3, .slice (some ⟨M, 4, none⟩) 0 3, .func (.func 65) #[] #[]] w fun e w' =>
      e = .returned (.int .i64 (cf 0 (cs a0 a1 x0 x1) (cs b0 b1 y0 y1) (cs c0 c1 z0 z1))) ∧ Below w.heap.size w w' := by
  have p00 := C.c0
  have q00 := D.c0
  have p01 := C.c1
  have q01 := D.c1
  have p02 := C.c2
  have q02 := D.c2
  have p03 := C.c3
  have q03 := D.c3
  have p04 := C.c4
  have q04 := D.c4
  have p05 := C.c5
  have q05 := D.c5
  go_enter Try.func64, Try.ntmps64
  go_wp2
  refine wp_loop_rounds 1 ?_
  rw [rounds_succ]
  go_wp2
  go_ret
  exact ⟨by simp [cf, or2], (Below.refl w.heap.size w)⟩

set_option maxHeartbeats 1000000 in
theorem compareFunc1 (N M : Nat) (a0 a1 b0 b1 c0 c1 x0 x1 y0 y1 z0 z1 : Int) (w : World) (hN : N < w.heap.size) (hM : M < w.heap.size) (C : Cells6 w N a0 a1 b0 b1 c0 c1) (D : Cells6 w M x0 x1 y0 y1 z0 z1) :
    Calls Try.prog 64 #[.slice (some ⟨N, 4, none⟩) 1 3, .slice (some ⟨M, 4, none⟩) 1 3, .func (.func 65) #[] #[]] w fun e w' =>
      e = .returned (.int .i64 (cf 1 (cs a0 a1 x0 x1) (cs b0 b1 y0 y1) (cs c0 c1 z0 z1))) ∧ Below w.heap.size w w' := by
  have p00 := C.c0
  have q00 := D.c0
  have p01 := C.c1
  have q01 := D.c1
  have p02 := C.c2
  have q02 := D.c2
  have p03 := C.c3
  have q03 := D.c3
  have p04 := C.c4
  have q04 := D.c4
  have p05 := C.c5
  have q05 := D.c5
  go_enter Try.func64, Try.ntmps64
  go_wp2
  refine wp_loop_rounds 2 ?_
  rw [rounds_succ]
  go_wp2_with fail
  refine (compareSteps a0 a1 x0 x1 _).mono ?_
  rintro e w1 ⟨rfl, hb1⟩
  have g1 : w.heap.size ≤ w.heap.size := (Below.refl w.heap.size w).size
  have z1 : Below w.heap.size w w1 := (((Below.refl w.heap.size w).alloc g1 _).alloc (by first | (simp; done) | (simp; omega)) _).trans (hb1.mono (by first | (simp; done) | (simp; omega)))
  have n1 : N < w1.heap.size := Nat.lt_of_lt_of_le hN z1.size
  have m1 : M < w1.heap.size := Nat.lt_of_lt_of_le hM z1.size
  clear hb1
  clear p00 q00 p01 q01 p02 q02 p03 q03 p04 q04 p05 q05
  have C1 := C.kept z1 hN
  have D1 := D.kept z1 hM
  have p10 := C1.c0
  have q10 := D1.c0
  have p11 := C1.c1
  have q11 := D1.c1
  have p12 := C1.c2
  have q12 := D1.c2
  have p13 := C1.c3
  have q13 := D1.c3
  have p14 := C1.c4
  have q14 := D1.c4
  have p15 := C1.c5
  have q15 := D1.c5
  have Z1 := Lib.hid z1
  clear z1
  by_cases s0 : cs a0 a1 x0 x1 = 0
  rotate_left
  · have sb : (cs a0 a1 x0 x1 != 0) = true := by simpa using s0
    go_wp2
    go_ret
    exact ⟨by simp [cf, or2, s0], Z1.out⟩
  have s0' := Lib.hid s0
  rw [s0]
  clear s0
  go_wp2
  rw [rounds_succ]
  go_wp2
  go_ret
  exact ⟨by simp [cf, or2, s0'.out], Z1.out⟩

set_option maxHeartbeats 1000000 in
theorem compareFunc2 (N M : Nat) (a0 a1 b0 b1 c0 c1 x0 x1 y0 y1 z0 z1 : Int) (w : World) (hN : N < w.heap.size) (hM : M < w.heap.size) (C : Cells6 w N a0 a1 b0 b1 c0 c1) (D : Cells6 w M x0 x1 y0 y1 z0 z1) :
    Calls Try.prog 64 #[.slice (some ⟨N, 4, none⟩) 2 3, .slice (some ⟨M, 4, none⟩) 2 3, .func (.func 65) #[] #[]] w fun e w' =>
      e = .returned (.int .i64 (cf 2 (cs a0 a1 x0 x1) (cs b0 b1 y0 y1) (cs c0 c1 z0 z1))) ∧ Below w.heap.size w w' := by
  have p00 := C.c0
  have q00 := D.c0
  have p01 := C.c1
  have q01 := D.c1
  have p02 := C.c2
  have q02 := D.c2
  have p03 := C.c3
  have q03 := D.c3
  have p04 := C.c4
  have q04 := D.c4
  have p05 := C.c5
  have q05 := D.c5
  go_enter Try.func64, Try.ntmps64
  go_wp2
  refine wp_loop_rounds 3 ?_
  rw [rounds_succ]
  go_wp2_with fail
  refine (compareSteps a0 a1 x0 x1 _).mono ?_
  rintro e w1 ⟨rfl, hb1⟩
  have g1 : w.heap.size ≤ w.heap.size := (Below.refl w.heap.size w).size
  have z1 : Below w.heap.size w w1 := (((Below.refl w.heap.size w).alloc g1 _).alloc (by first | (simp; done) | (simp; omega)) _).trans (hb1.mono (by first | (simp; done) | (simp; omega)))
  have n1 : N < w1.heap.size := Nat.lt_of_lt_of_le hN z1.size
  have m1 : M < w1.heap.size := Nat.lt_of_lt_of_le hM z1.size
  clear hb1
  clear p00 q00 p01 q01 p02 q02 p03 q03 p04 q04 p05 q05
  have C1 := C.kept z1 hN
  have D1 := D.kept z1 hM
  have p10 := C1.c0
  have q10 := D1.c0
  have p11 := C1.c1
  have q11 := D1.c1
  have p12 := C1.c2
  have q12 := D1.c2
  have p13 := C1.c3
  have q13 := D1.c3
  have p14 := C1.c4
  have q14 := D1.c4
  have p15 := C1.c5
  have q15 := D1.c5
  have Z1 := Lib.hid z1
  clear z1
  by_cases s0 : cs a0 a1 x0 x1 = 0
  rotate_left
  · have sb : (cs a0 a1 x0 x1 != 0) = true := by simpa using s0
    go_wp2
    go_ret
    exact ⟨by simp [cf, or2, s0], Z1.out⟩
  have s0' := Lib.hid s0
  rw [s0]
  clear s0
  go_wp2
  rw [rounds_succ]
  go_wp2_with fail
  refine (compareSteps b0 b1 y0 y1 _).mono ?_
  rintro e w2 ⟨rfl, hb2⟩
  have g2 : w.heap.size ≤ w1.heap.size := Z1.out.size
  have z2 : Below w.heap.size w w2 := ((Z1.out.alloc g2 _).alloc (by first | (simp; done) | (simp; omega)) _).trans (hb2.mono (by first | (simp; done) | (simp; omega)))
  have n2 : N < w2.heap.size := Nat.lt_of_lt_of_le hN z2.size
  have m2 : M < w2.heap.size := Nat.lt_of_lt_of_le hM z2.size
  clear hb2
  clear p10 q10 p11 q11 p12 q12 p13 q13 p14 q14 p15 q15
  have C2 := C.kept z2 hN
  have D2 := D.kept z2 hM
  have p20 := C2.c0
  have q20 := D2.c0
  have p21 := C2.c1
  have q21 := D2.c1
  have p22 := C2.c2
  have q22 := D2.c2
  have p23 := C2.c3
  have q23 := D2.c3
  have p24 := C2.c4
  have q24 := D2.c4
  have p25 := C2.c5
  have q25 := D2.c5
  have Z2 := Lib.hid z2
  clear z2
  by_cases s1 : cs b0 b1 y0 y1 = 0
  rotate_left
  · have sb : (cs b0 b1 y0 y1 != 0) = true := by simpa using s1
    go_wp2
    go_ret
    exact ⟨by simp [cf, or2, s0'.out, s1], Z2.out⟩
  have s1' := Lib.hid s1
  rw [s1]
  clear s1
  go_wp2
  rw [rounds_succ]
  go_wp2
  go_ret
  exact ⟨by simp [cf, or2, s0'.out, s1'.out], Z2.out⟩

set_option maxHeartbeats 1000000 in
theorem compareFunc3 (N M : Nat) (a0 a1 b0 b1 c0 c1 x0 x1 y0 y1 z0 z1 : Int) (w : World) (hN : N < w.heap.size) (hM : M < w.heap.size) (C : Cells6 w N a0 a1 b0 b1 c0 c1) (D : Cells6 w M x0 x1 y0 y1 z0 z1) :
    Calls Try.prog 64 #[.slice (some ⟨N, 4, none⟩) 3 3, .slice (some ⟨M, 4, none⟩) 3 3, .func (.func 65) #[] #[]] w fun e w' =>
      e = .returned (.int .i64 (cf 3 (cs a0 a1 x0 x1) (cs b0 b1 y0 y1) (cs c0 c1 z0 z1))) ∧ Below w.heap.size w w' := by
  have p00 := C.c0
  have q00 := D.c0
  have p01 := C.c1
  have q01 := D.c1
  have p02 := C.c2
  have q02 := D.c2
  have p03 := C.c3
  have q03 := D.c3
  have p04 := C.c4
  have q04 := D.c4
  have p05 := C.c5
  have q05 := D.c5
  go_enter Try.func64, Try.ntmps64
  go_wp2
  refine wp_loop_rounds 4 ?_
  rw [rounds_succ]
  go_wp2_with fail
  refine (compareSteps a0 a1 x0 x1 _).mono ?_
  rintro e w1 ⟨rfl, hb1⟩
  have g1 : w.heap.size ≤ w.heap.size := (Below.refl w.heap.size w).size
  have z1 : Below w.heap.size w w1 := (((Below.refl w.heap.size w).alloc g1 _).alloc (by first | (simp; done) | (simp; omega)) _).trans (hb1.mono (by first | (simp; done) | (simp; omega)))
  have n1 : N < w1.heap.size := Nat.lt_of_lt_of_le hN z1.size
  have m1 : M < w1.heap.size := Nat.lt_of_lt_of_le hM z1.size
  clear hb1
  clear p00 q00 p01 q01 p02 q02 p03 q03 p04 q04 p05 q05
  have C1 := C.kept z1 hN
  have D1 := D.kept z1 hM
  have p10 := C1.c0
  have q10 := D1.c0
  have p11 := C1.c1
  have q11 := D1.c1
  have p12 := C1.c2
  have q12 := D1.c2
  have p13 := C1.c3
  have q13 := D1.c3
  have p14 := C1.c4
  have q14 := D1.c4
  have p15 := C1.c5
  have q15 := D1.c5
  have Z1 := Lib.hid z1
  clear z1
  by_cases s0 : cs a0 a1 x0 x1 = 0
  rotate_left
  · have sb : (cs a0 a1 x0 x1 != 0) = true := by simpa using s0
    go_wp2
    go_ret
    exact ⟨by simp [cf, or2, s0], Z1.out⟩
  have s0' := Lib.hid s0
  rw [s0]
  clear s0
  go_wp2
  rw [rounds_succ]
  go_wp2_with fail
  refine (compareSteps b0 b1 y0 y1 _).mono ?_
  rintro e w2 ⟨rfl, hb2⟩
  have g2 : w.heap.size ≤ w1.heap.size := Z1.out.size
  have z2 : Below w.heap.size w w2 := ((Z1.out.alloc g2 _).alloc (by first | (simp; done) | (simp; omega)) _).trans (hb2.mono (by first | (simp; done) | (simp; omega)))
  have n2 : N < w2.heap.size := Nat.lt_of_lt_of_le hN z2.size
  have m2 : M < w2.heap.size := Nat.lt_of_lt_of_le hM z2.size
  clear hb2
  clear p10 q10 p11 q11 p12 q12 p13 q13 p14 q14 p15 q15
  have C2 := C.kept z2 hN
  have D2 := D.kept z2 hM
  have p20 := C2.c0
  have q20 := D2.c0
  have p21 := C2.c1
  have q21 := D2.c1
  have p22 := C2.c2
  have q22 := D2.c2
  have p23 := C2.c3
  have q23 := D2.c3
  have p24 := C2.c4
  have q24 := D2.c4
  have p25 := C2.c5
  have q25 := D2.c5
  have Z2 := Lib.hid z2
  clear z2
  by_cases s1 : cs b0 b1 y0 y1 = 0
  rotate_left
  · have sb : (cs b0 b1 y0 y1 != 0) = true := by simpa using s1
    go_wp2
    go_ret
    exact ⟨by simp [cf, or2, s0'.out, s1], Z2.out⟩
  have s1' := Lib.hid s1
  rw [s1]
  clear s1
  go_wp2
  rw [rounds_succ]
  go_wp2_with fail
  refine (compareSteps c0 c1 z0 z1 _).mono ?_
  rintro e w3 ⟨rfl, hb3⟩
  have g3 : w.heap.size ≤ w2.heap.size := Z2.out.size
  have z3 : Below w.heap.size w w3 := ((Z2.out.alloc g3 _).alloc (by first | (simp; done) | (simp; omega)) _).trans (hb3.mono (by first | (simp; done) | (simp; omega)))
  have n3 : N < w3.heap.size := Nat.lt_of_lt_of_le hN z3.size
  have m3 : M < w3.heap.size := Nat.lt_of_lt_of_le hM z3.size
  clear hb3
  clear p20 q20 p21 q21 p22 q22 p23 q23 p24 q24 p25 q25
  have C3 := C.kept z3 hN
  have D3 := D.kept z3 hM
  have p30 := C3.c0
  have q30 := D3.c0
  have p31 := C3.c1
  have q31 := D3.c1
  have p32 := C3.c2
  have q32 := D3.c2
  have p33 := C3.c3
  have q33 := D3.c3
  have p34 := C3.c4
  have q34 := D3.c4
  have p35 := C3.c5
  have q35 := D3.c5
  have Z3 := Lib.hid z3
  clear z3
  by_cases s2 : cs c0 c1 z0 z1 = 0
  rotate_left
  · have sb : (cs c0 c1 z0 z1 != 0) = true := by simpa using s2
    go_wp2
    go_ret
    exact ⟨by simp [cf, or2, s0'.out, s1'.out, s2], Z3.out⟩
  have s2' := Lib.hid s2
  rw [s2]
  clear s2
  go_wp2
  rw [rounds_succ]
  go_wp2
  go_ret
  exact ⟨by simp [cf, or2, s0'.out, s1'.out, s2'.out], Z3.out⟩

theorem compareFunc (k N M : Nat) (hk : k ≤ 3) (a0 a1 b0 b1 c0 c1 x0 x1 y0 y1 z0 z1 : Int) (w : World) (hN : N < w.heap.size) (hM : M < w.heap.size) (C : Cells6 w N a0 a1 b0 b1 c0 c1) (D : Cells6 w M x0 x1 y0 y1 z0 z1) :
    Calls Try.prog 64 #[.slice (some ⟨N, 4, none⟩) k 3, .slice (some ⟨M, 4, none⟩) k 3, .func (.func 65) #[] #[]] w fun e w' =>
      e = .returned (.int .i64 (cf k (cs a0 a1 x0 x1) (cs b0 b1 y0 y1) (cs c0 c1 z0 z1))) ∧ Below w.heap.size w w' := by
  have h : k = 0 ∨ k = 1 ∨ k = 2 ∨ k = 3 := by omega
  rcases h with rfl | rfl | rfl | rfl
  · exact compareFunc0 N M a0 a1 b0 b1 c0 c1 x0 x1 y0 y1 z0 z1 w hN hM C D
  · exact compareFunc1 N M a0 a1 b0 b1 c0 c1 x0 x1 y0 y1 z0 z1 w hN hM C D
  · exact compareFunc2 N M a0 a1 b0 b1 c0 c1 x0 x1 y0 y1 z0 z1 w hN hM C D
  · exact compareFunc3 N M a0 a1 b0 b1 c0 c1 x0 x1 y0 y1 z0 z1 w hN hM C D

end Go.Proofs.Ytldbmmganicliaa
