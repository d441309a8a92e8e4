/-
  Which entries may be: the document's Right at a Back, by an exact answer. Condition: the lists lie in memory, each number fits its kind.
-/
import Derived.Test.YtnkimbmnnhnanaaDoorEsn
import Derived.Test.YtnkimbmnnhnanaaDoorEas
import Derived.Test.YtnkimbmnnhnanaaDoorErg
import Derived.Test.YtnkimbmnnhnanaaDoorEch
import Derived.IntWalk
namespace Go.Proofs.YtnkimbmnnhnanaaDoor
set_option linter.unusedSimpArgs false
set_option linter.unusedVariables false
open Go.RowKit Go.Sort

set_option maxRecDepth 100000 in
set_option maxHeartbeats 1000000 in
theorem refR1_0 (x : E18) (A B : Option Addr) (X : List P5) (Y : List W3) (c d : Nat) (g : Int) (w : World) (hr : RowsP w w.heap.size A X) (hs : RowsW w w.heap.size B Y) (hX : ∀ x ∈ X, x.Rng) (hc : X.length ≤ c) (hm : c ≤ maxLen) (hd : Y.length ≤ d) (hn : d ≤ maxLen) (bx : X.length ≤ 140737488355328) (bY : Y.length ≤ 140737488355328) (hdd : x.d = 0) (hI : I.rI x.n x.l x.s x.d x.a0 x.a1 x.b0 x.b1 x.c0 x.c1 = true) :
    Calls Tryd.prog 9 #[.agg #[.int .u8 1, .int .u8 x.n, .int .u16 x.l, .int .u32 x.s, .int .u8 0, .int .u8 x.a0, .int .u8 x.a1, .int .u8 x.b0, .int .u8 x.b1, .int .u8 x.c0, .int .u8 x.c1, .int .u32 x.fl, .slice A X.length c, .int .u8 x.rc, .string x.rv, .slice B Y.length d, .int .u8 x.vn, .int .u16 x.vl], .int .u8 g] w fun e w' => e = .returned (.bool (false)) ∧ Below w.heap.size w w' := by
  have H0 : Hid (Below w.heap.size w (w.alloc (.cells #[.int .u8 1, .int .u8 x.n, .int .u16 x.l, .int .u32 x.s, .int .u8 0, .int .u8 x.a0, .int .u8 x.a1, .int .u8 x.b0, .int .u8 x.b1, .int .u8 x.c0, .int .u8 x.c1, .int .u32 x.fl, .slice A X.length c, .int .u8 x.rc, .string x.rv, .slice B Y.length d, .int .u8 x.vn, .int .u16 x.vl] 36))) := Lib.hid ((Below.refl _ _).alloc (Nat.le_refl _) _)
  have R0 : Hid ((w.alloc (.cells #[.int .u8 1, .int .u8 x.n, .int .u16 x.l, .int .u32 x.s, .int .u8 0, .int .u8 x.a0, .int .u8 x.a1, .int .u8 x.b0, .int .u8 x.b1, .int .u8 x.c0, .int .u8 x.c1, .int .u32 x.fl, .slice A X.length c, .int .u8 x.rc, .string x.rv, .slice B Y.length d, .int .u8 x.vn, .int .u16 x.vl] 36)).heap[w.heap.size]? = some (.cells #[.int .u8 1, .int .u8 x.n, .int .u16 x.l, .int .u32 x.s, .int .u8 0, .int .u8 x.a0, .int .u8 x.a1, .int .u8 x.b0, .int .u8 x.b1, .int .u8 x.c0, .int .u8 x.c1, .int .u32 x.fl, .slice A X.length c, .int .u8 x.rc, .string x.rv, .slice B Y.length d, .int .u8 x.vn, .int .u16 x.vl] 36 (0, 0))) := Lib.hid (heap_alloc_new w _)
  have L0 : Hid (w.heap.size < (w.alloc (.cells #[.int .u8 1, .int .u8 x.n, .int .u16 x.l, .int .u32 x.s, .int .u8 0, .int .u8 x.a0, .int .u8 x.a1, .int .u8 x.b0, .int .u8 x.b1, .int .u8 x.c0, .int .u8 x.c1, .int .u32 x.fl, .slice A X.length c, .int .u8 x.rc, .string x.rv, .slice B Y.length d, .int .u8 x.vn, .int .u16 x.vl] 36)).heap.size) := Lib.hid (by simp)
  have q1 : ∀ W, Sem.run Tryd.prog (binOp .eql 33 (.agg #[.int .u8 x.rc, .string x.rv]) (.agg #[.int .u8 0, .string ByteArray.empty])) W = .ok (.bool (eqR x E0)) W := fun W => eqlRResg x E0 W
  have q1' : ∀ W, Sem.run Tryd.prog (binOp .eql 33 (.agg #[.int .u8 x.rc, .string x.rv]) (.agg #[.int .u8 0, .string { data := #[] }])) W = .ok (.bool (eqR x E0)) W := fun W => eqlRResg x E0 W
  have q2 : ∀ W, Sem.run Tryd.prog (binOp .eql 24 (.agg #[.int .u8 x.vn, .int .u16 x.vl]) (.agg #[.int .u8 0, .int .u16 0])) W = .ok (.bool (eqV x E0)) W := fun W => eqlRPrg x E0 W
  have K1 : Hid (∀ W, Calls Tryd.prog 30 #[.agg #[.int .u8 x.n, .int .u16 x.l, .int .u32 x.s, .int .u8 0, .int .u8 x.a0, .int .u8 x.a1, .int .u8 x.b0, .int .u8 x.b1, .int .u8 x.c0, .int .u8 x.c1]] W fun e w' => e = .returned (.bool true) ∧ Below W.heap.size W w') := Lib.hid (fun W => by
    have := I.refRight x.n x.l x.s x.d x.a0 x.a1 x.b0 x.b1 x.c0 x.c1 W (by omega)
    rw [hI, hdd] at this
    exact this)
  have K3 : Hid (∀ W, Calls Tryd.prog 31 #[.agg #[.int .u8 x.rc, .string x.rv]] W fun e w' => e = .returned (.bool (rR x.rc x.rv)) ∧ Below W.heap.size W w') := Lib.hid (fun W => (refRightRes _ _ W).mono fun e w' h => ⟨h.1, by rw [← h.2]; exact (Below.refl _ _).alloc (Nat.le_refl _) _⟩)
  clear hr hs hX hc hm hd hn hI hdd
  have hs1 : IntKind.i64.wrap ((X.length : Int) + (Y.length : Int)) = (X.length : Int) + (Y.length : Int) := IntWalk.i64_in _ (by omega)
  have hs2 : ((X.length : Int) + (Y.length : Int) == 0) = decide (X.length + Y.length = 0) := by rw [Bool.eq_iff_iff, beq_iff_eq, decide_eq_true_eq]; omega
  go_enter Tryd.func9, Tryd.ntmps9
  go_wp2_with (first
      | (go_at_call 30; refine (K1.out _).mono ?_; rintro e w1 ⟨rfl, b1⟩
         have H1 := Lib.hid ((two_below _ _ _ _ _).trans (b1.mono (two_below _ _ _ _ _).size))
         have R1 := Lib.hid ((b1.block _ (by simp; omega)).trans (rowA _ _ _ _ _))
         have S1 := Lib.hid ((b1.block _ (by simp)).trans (rowB _ _ _ _ _))
         have L1 : Hid (w.heap.size < w1.heap.size) := Lib.hid (Nat.lt_of_lt_of_le (by simp; omega) b1.size)
         have e13 : w1.cell? ⟨w.heap.size, 13, none⟩ = some (.int .u8 x.rc) := (cell_of_row _ _ 13 _ _ _ R1.out).trans rfl
         have e14 : w1.cell? ⟨w.heap.size, 14, none⟩ = some (.string x.rv) := (cell_of_row _ _ 14 _ _ _ R1.out).trans rfl
         have s0 : w1.cell? ⟨w.heap.size + 1, 0, none⟩ = some (.int .u8 x.n) := (cell_of_row _ _ 0 _ _ _ S1.out).trans rfl
         have s1 : w1.cell? ⟨w.heap.size + 1, 1, none⟩ = some (.int .u16 x.l) := (cell_of_row _ _ 1 _ _ _ S1.out).trans rfl
         have s2 : w1.cell? ⟨w.heap.size + 1, 2, none⟩ = some (.int .u32 x.s) := (cell_of_row _ _ 2 _ _ _ S1.out).trans rfl
         have s3 : w1.cell? ⟨w.heap.size + 1, 3, none⟩ = some (.int .u8 0) := (cell_of_row _ _ 3 _ _ _ S1.out).trans rfl
         have s4 : w1.cell? ⟨w.heap.size + 1, 4, none⟩ = some (.int .u8 x.a0) := (cell_of_row _ _ 4 _ _ _ S1.out).trans rfl
         have s5 : w1.cell? ⟨w.heap.size + 1, 5, none⟩ = some (.int .u8 x.a1) := (cell_of_row _ _ 5 _ _ _ S1.out).trans rfl
         have s6 : w1.cell? ⟨w.heap.size + 1, 6, none⟩ = some (.int .u8 x.b0) := (cell_of_row _ _ 6 _ _ _ S1.out).trans rfl
         have s7 : w1.cell? ⟨w.heap.size + 1, 7, none⟩ = some (.int .u8 x.b1) := (cell_of_row _ _ 7 _ _ _ S1.out).trans rfl
         have s8 : w1.cell? ⟨w.heap.size + 1, 8, none⟩ = some (.int .u8 x.c0) := (cell_of_row _ _ 8 _ _ _ S1.out).trans rfl
         have s9 : w1.cell? ⟨w.heap.size + 1, 9, none⟩ = some (.int .u8 x.c1) := (cell_of_row _ _ 9 _ _ _ S1.out).trans rfl
         clear b1 R0 L0)
      | (go_at_call 31; refine (K3.out _).mono ?_; rintro e w2 ⟨rfl, b2⟩
         have H2 := Lib.hid (H1.out.trans (b2.mono H1.out.size))
         have R2 := Lib.hid ((b2.block _ L1.out).trans R1.out)
         clear e13 e14
         have e11 : w2.cell? ⟨w.heap.size, 11, none⟩ = some (.int .u32 x.fl) := (cell_of_row _ _ 11 _ _ _ R2.out).trans rfl
         have e12 : w2.cell? ⟨w.heap.size, 12, none⟩ = some (.slice A X.length c) := (cell_of_row _ _ 12 _ _ _ R2.out).trans rfl
         have e15 : w2.cell? ⟨w.heap.size, 15, none⟩ = some (.slice B Y.length d) := (cell_of_row _ _ 15 _ _ _ R2.out).trans rfl
         have e16 : w2.cell? ⟨w.heap.size, 16, none⟩ = some (.int .u8 x.vn) := (cell_of_row _ _ 16 _ _ _ R2.out).trans rfl
         have e17 : w2.cell? ⟨w.heap.size, 17, none⟩ = some (.int .u16 x.vl) := (cell_of_row _ _ 17 _ _ _ R2.out).trans rfl
         clear b2 R1 L1))
  all_goals
    go_ret
    exact ⟨ret_bool (by first | (simp [*]; done) | (simp_all; done) | (simp_all; omega)), by first | exact H2.out | exact H1.out⟩

set_option maxRecDepth 100000 in
set_option maxHeartbeats 1000000 in
theorem refR1_1 (x : E18) (A B : Option Addr) (X : List P5) (Y : List W3) (c d : Nat) (g : Int) (w : World) (hr : RowsP w w.heap.size A X) (hs : RowsW w w.heap.size B Y) (hX : ∀ x ∈ X, x.Rng) (hc : X.length ≤ c) (hm : c ≤ maxLen) (hd : Y.length ≤ d) (hn : d ≤ maxLen) (bx : X.length ≤ 140737488355328) (bY : Y.length ≤ 140737488355328) (hdd : x.d = 1) (hI : I.rI x.n x.l x.s x.d x.a0 x.a1 x.b0 x.b1 x.c0 x.c1 = true) :
    Calls Tryd.prog 9 #[.agg #[.int .u8 1, .int .u8 x.n, .int .u16 x.l, .int .u32 x.s, .int .u8 1, .int .u8 x.a0, .int .u8 x.a1, .int .u8 x.b0, .int .u8 x.b1, .int .u8 x.c0, .int .u8 x.c1, .int .u32 x.fl, .slice A X.length c, .int .u8 x.rc, .string x.rv, .slice B Y.length d, .int .u8 x.vn, .int .u16 x.vl], .int .u8 g] w fun e w' => e = .returned (.bool (decide (x.a0 = g) && rR x.rc x.rv && decide (x.fl = 0) && decide (X.length + Y.length = 0) && eqV x E0)) ∧ Below w.heap.size w w' := by
  have H0 : Hid (Below w.heap.size w (w.alloc (.cells #[.int .u8 1, .int .u8 x.n, .int .u16 x.l, .int .u32 x.s, .int .u8 1, .int .u8 x.a0, .int .u8 x.a1, .int .u8 x.b0, .int .u8 x.b1, .int .u8 x.c0, .int .u8 x.c1, .int .u32 x.fl, .slice A X.length c, .int .u8 x.rc, .string x.rv, .slice B Y.length d, .int .u8 x.vn, .int .u16 x.vl] 36))) := Lib.hid ((Below.refl _ _).alloc (Nat.le_refl _) _)
  have R0 : Hid ((w.alloc (.cells #[.int .u8 1, .int .u8 x.n, .int .u16 x.l, .int .u32 x.s, .int .u8 1, .int .u8 x.a0, .int .u8 x.a1, .int .u8 x.b0, .int .u8 x.b1, .int .u8 x.c0, .int .u8 x.c1, .int .u32 x.fl, .slice A X.length c, .int .u8 x.rc, .string x.rv, .slice B Y.length d, .int .u8 x.vn, .int .u16 x.vl] 36)).heap[w.heap.size]? = some (.cells #[.int .u8 1, .int .u8 x.n, .int .u16 x.l, .int .u32 x.s, .int .u8 1, .int .u8 x.a0, .int .u8 x.a1, .int .u8 x.b0, .int .u8 x.b1, .int .u8 x.c0, .int .u8 x.c1, .int .u32 x.fl, .slice A X.length c, .int .u8 x.rc, .string x.rv, .slice B Y.length d, .int .u8 x.vn, .int .u16 x.vl] 36 (0, 0))) := Lib.hid (heap_alloc_new w _)
  have L0 : Hid (w.heap.size < (w.alloc (.cells #[.int .u8 1, .int .u8 x.n, .int .u16 x.l, .int .u32 x.s, .int .u8 1, .int .u8 x.a0, .int .u8 x.a1, .int .u8 x.b0, .int .u8 x.b1, .int .u8 x.c0, .int .u8 x.c1, .int .u32 x.fl, .slice A X.length c, .int .u8 x.rc, .string x.rv, .slice B Y.length d, .int .u8 x.vn, .int .u16 x.vl] 36)).heap.size) := Lib.hid (by simp)
  have q1 : ∀ W, Sem.run Tryd.prog (binOp .eql 33 (.agg #[.int .u8 x.rc, .string x.rv]) (.agg #[.int .u8 0, .string ByteArray.empty])) W = .ok (.bool (eqR x E0)) W := fun W => eqlRResg x E0 W
  have q1' : ∀ W, Sem.run Tryd.prog (binOp .eql 33 (.agg #[.int .u8 x.rc, .string x.rv]) (.agg #[.int .u8 0, .string { data := #[] }])) W = .ok (.bool (eqR x E0)) W := fun W => eqlRResg x E0 W
  have q2 : ∀ W, Sem.run Tryd.prog (binOp .eql 24 (.agg #[.int .u8 x.vn, .int .u16 x.vl]) (.agg #[.int .u8 0, .int .u16 0])) W = .ok (.bool (eqV x E0)) W := fun W => eqlRPrg x E0 W
  have K1 : Hid (∀ W, Calls Tryd.prog 30 #[.agg #[.int .u8 x.n, .int .u16 x.l, .int .u32 x.s, .int .u8 1, .int .u8 x.a0, .int .u8 x.a1, .int .u8 x.b0, .int .u8 x.b1, .int .u8 x.c0, .int .u8 x.c1]] W fun e w' => e = .returned (.bool true) ∧ Below W.heap.size W w') := Lib.hid (fun W => by
    have := I.refRight x.n x.l x.s x.d x.a0 x.a1 x.b0 x.b1 x.c0 x.c1 W (by omega)
    rw [hI, hdd] at this
    exact this)
  have K3 : Hid (∀ W, Calls Tryd.prog 31 #[.agg #[.int .u8 x.rc, .string x.rv]] W fun e w' => e = .returned (.bool (rR x.rc x.rv)) ∧ Below W.heap.size W w') := Lib.hid (fun W => (refRightRes _ _ W).mono fun e w' h => ⟨h.1, by rw [← h.2]; exact (Below.refl _ _).alloc (Nat.le_refl _) _⟩)
  clear hr hs hX hc hm hd hn hI hdd
  have hs1 : IntKind.i64.wrap ((X.length : Int) + (Y.length : Int)) = (X.length : Int) + (Y.length : Int) := IntWalk.i64_in _ (by omega)
  have hs2 : ((X.length : Int) + (Y.length : Int) == 0) = decide (X.length + Y.length = 0) := by rw [Bool.eq_iff_iff, beq_iff_eq, decide_eq_true_eq]; omega
  go_enter Tryd.func9, Tryd.ntmps9
  go_wp2_with (first
      | (go_at_call 30; refine (K1.out _).mono ?_; rintro e w1 ⟨rfl, b1⟩
         have H1 := Lib.hid ((two_below _ _ _ _ _).trans (b1.mono (two_below _ _ _ _ _).size))
         have R1 := Lib.hid ((b1.block _ (by simp; omega)).trans (rowA _ _ _ _ _))
         have S1 := Lib.hid ((b1.block _ (by simp)).trans (rowB _ _ _ _ _))
         have L1 : Hid (w.heap.size < w1.heap.size) := Lib.hid (Nat.lt_of_lt_of_le (by simp; omega) b1.size)
         have e13 : w1.cell? ⟨w.heap.size, 13, none⟩ = some (.int .u8 x.rc) := (cell_of_row _ _ 13 _ _ _ R1.out).trans rfl
         have e14 : w1.cell? ⟨w.heap.size, 14, none⟩ = some (.string x.rv) := (cell_of_row _ _ 14 _ _ _ R1.out).trans rfl
         have s0 : w1.cell? ⟨w.heap.size + 1, 0, none⟩ = some (.int .u8 x.n) := (cell_of_row _ _ 0 _ _ _ S1.out).trans rfl
         have s1 : w1.cell? ⟨w.heap.size + 1, 1, none⟩ = some (.int .u16 x.l) := (cell_of_row _ _ 1 _ _ _ S1.out).trans rfl
         have s2 : w1.cell? ⟨w.heap.size + 1, 2, none⟩ = some (.int .u32 x.s) := (cell_of_row _ _ 2 _ _ _ S1.out).trans rfl
         have s3 : w1.cell? ⟨w.heap.size + 1, 3, none⟩ = some (.int .u8 1) := (cell_of_row _ _ 3 _ _ _ S1.out).trans rfl
         have s4 : w1.cell? ⟨w.heap.size + 1, 4, none⟩ = some (.int .u8 x.a0) := (cell_of_row _ _ 4 _ _ _ S1.out).trans rfl
         have s5 : w1.cell? ⟨w.heap.size + 1, 5, none⟩ = some (.int .u8 x.a1) := (cell_of_row _ _ 5 _ _ _ S1.out).trans rfl
         have s6 : w1.cell? ⟨w.heap.size + 1, 6, none⟩ = some (.int .u8 x.b0) := (cell_of_row _ _ 6 _ _ _ S1.out).trans rfl
         have s7 : w1.cell? ⟨w.heap.size + 1, 7, none⟩ = some (.int .u8 x.b1) := (cell_of_row _ _ 7 _ _ _ S1.out).trans rfl
         have s8 : w1.cell? ⟨w.heap.size + 1, 8, none⟩ = some (.int .u8 x.c0) := (cell_of_row _ _ 8 _ _ _ S1.out).trans rfl
         have s9 : w1.cell? ⟨w.heap.size + 1, 9, none⟩ = some (.int .u8 x.c1) := (cell_of_row _ _ 9 _ _ _ S1.out).trans rfl
         clear b1 R0 L0)
      | (go_at_call 31; refine (K3.out _).mono ?_; rintro e w2 ⟨rfl, b2⟩
         have H2 := Lib.hid (H1.out.trans (b2.mono H1.out.size))
         have R2 := Lib.hid ((b2.block _ L1.out).trans R1.out)
         clear e13 e14
         have e11 : w2.cell? ⟨w.heap.size, 11, none⟩ = some (.int .u32 x.fl) := (cell_of_row _ _ 11 _ _ _ R2.out).trans rfl
         have e12 : w2.cell? ⟨w.heap.size, 12, none⟩ = some (.slice A X.length c) := (cell_of_row _ _ 12 _ _ _ R2.out).trans rfl
         have e15 : w2.cell? ⟨w.heap.size, 15, none⟩ = some (.slice B Y.length d) := (cell_of_row _ _ 15 _ _ _ R2.out).trans rfl
         have e16 : w2.cell? ⟨w.heap.size, 16, none⟩ = some (.int .u8 x.vn) := (cell_of_row _ _ 16 _ _ _ R2.out).trans rfl
         have e17 : w2.cell? ⟨w.heap.size, 17, none⟩ = some (.int .u16 x.vl) := (cell_of_row _ _ 17 _ _ _ R2.out).trans rfl
         clear b2 R1 L1))
  all_goals
    go_ret
    exact ⟨ret_bool (by first | (simp [*]; done) | (simp_all; done) | (simp_all; omega)), by first | exact H2.out | exact H1.out⟩

set_option maxRecDepth 100000 in
set_option maxHeartbeats 1000000 in
theorem refR1_2 (x : E18) (A B : Option Addr) (X : List P5) (Y : List W3) (c d : Nat) (g : Int) (w : World) (hr : RowsP w w.heap.size A X) (hs : RowsW w w.heap.size B Y) (hX : ∀ x ∈ X, x.Rng) (hc : X.length ≤ c) (hm : c ≤ maxLen) (hd : Y.length ≤ d) (hn : d ≤ maxLen) (bx : X.length ≤ 140737488355328) (bY : Y.length ≤ 140737488355328) (hdd : x.d = 2) (hI : I.rI x.n x.l x.s x.d x.a0 x.a1 x.b0 x.b1 x.c0 x.c1 = true) :
    Calls Tryd.prog 9 #[.agg #[.int .u8 1, .int .u8 x.n, .int .u16 x.l, .int .u32 x.s, .int .u8 2, .int .u8 x.a0, .int .u8 x.a1, .int .u8 x.b0, .int .u8 x.b1, .int .u8 x.c0, .int .u8 x.c1, .int .u32 x.fl, .slice A X.length c, .int .u8 x.rc, .string x.rv, .slice B Y.length d, .int .u8 x.vn, .int .u16 x.vl], .int .u8 g] w fun e w' => e = .returned (.bool (decide (x.b0 = g) && rR x.rc x.rv && decide (x.fl = 0) && decide (X.length + Y.length = 0) && eqV x E0)) ∧ Below w.heap.size w w' := by
  have H0 : Hid (Below w.heap.size w (w.alloc (.cells #[.int .u8 1, .int .u8 x.n, .int .u16 x.l, .int .u32 x.s, .int .u8 2, .int .u8 x.a0, .int .u8 x.a1, .int .u8 x.b0, .int .u8 x.b1, .int .u8 x.c0, .int .u8 x.c1, .int .u32 x.fl, .slice A X.length c, .int .u8 x.rc, .string x.rv, .slice B Y.length d, .int .u8 x.vn, .int .u16 x.vl] 36))) := Lib.hid ((Below.refl _ _).alloc (Nat.le_refl _) _)
  have R0 : Hid ((w.alloc (.cells #[.int .u8 1, .int .u8 x.n, .int .u16 x.l, .int .u32 x.s, .int .u8 2, .int .u8 x.a0, .int .u8 x.a1, .int .u8 x.b0, .int .u8 x.b1, .int .u8 x.c0, .int .u8 x.c1, .int .u32 x.fl, .slice A X.length c, .int .u8 x.rc, .string x.rv, .slice B Y.length d, .int .u8 x.vn, .int .u16 x.vl] 36)).heap[w.heap.size]? = some (.cells #[.int .u8 1, .int .u8 x.n, .int .u16 x.l, .int .u32 x.s, .int .u8 2, .int .u8 x.a0, .int .u8 x.a1, .int .u8 x.b0, .int .u8 x.b1, .int .u8 x.c0, .int .u8 x.c1, .int .u32 x.fl, .slice A X.length c, .int .u8 x.rc, .string x.rv, .slice B Y.length d, .int .u8 x.vn, .int .u16 x.vl] 36 (0, 0))) := Lib.hid (heap_alloc_new w _)
  have L0 : Hid (w.heap.size < (w.alloc (.cells #[.int .u8 1, .int .u8 x.n, .int .u16 x.l, .int .u32 x.s, .int .u8 2, .int .u8 x.a0, .int .u8 x.a1, .int .u8 x.b0, .int .u8 x.b1, .int .u8 x.c0, .int .u8 x.c1, .int .u32 x.fl, .slice A X.length c, .int .u8 x.rc, .string x.rv, .slice B Y.length d, .int .u8 x.vn, .int .u16 x.vl] 36)).heap.size) := Lib.hid (by simp)
  have q1 : ∀ W, Sem.run Tryd.prog (binOp .eql 33 (.agg #[.int .u8 x.rc, .string x.rv]) (.agg #[.int .u8 0, .string ByteArray.empty])) W = .ok (.bool (eqR x E0)) W := fun W => eqlRResg x E0 W
  have q1' : ∀ W, Sem.run Tryd.prog (binOp .eql 33 (.agg #[.int .u8 x.rc, .string x.rv]) (.agg #[.int .u8 0, .string { data := #[] }])) W = .ok (.bool (eqR x E0)) W := fun W => eqlRResg x E0 W
  have q2 : ∀ W, Sem.run Tryd.prog (binOp .eql 24 (.agg #[.int .u8 x.vn, .int .u16 x.vl]) (.agg #[.int .u8 0, .int .u16 0])) W = .ok (.bool (eqV x E0)) W := fun W => eqlRPrg x E0 W
  have K1 : Hid (∀ W, Calls Tryd.prog 30 #[.agg #[.int .u8 x.n, .int .u16 x.l, .int .u32 x.s, .int .u8 2, .int .u8 x.a0, .int .u8 x.a1, .int .u8 x.b0, .int .u8 x.b1, .int .u8 x.c0, .int .u8 x.c1]] W fun e w' => e = .returned (.bool true) ∧ Below W.heap.size W w') := Lib.hid (fun W => by
    have := I.refRight x.n x.l x.s x.d x.a0 x.a1 x.b0 x.b1 x.c0 x.c1 W (by omega)
    rw [hI, hdd] at this
    exact this)
  have K3 : Hid (∀ W, Calls Tryd.prog 31 #[.agg #[.int .u8 x.rc, .string x.rv]] W fun e w' => e = .returned (.bool (rR x.rc x.rv)) ∧ Below W.heap.size W w') := Lib.hid (fun W => (refRightRes _ _ W).mono fun e w' h => ⟨h.1, by rw [← h.2]; exact (Below.refl _ _).alloc (Nat.le_refl _) _⟩)
  clear hr hs hX hc hm hd hn hI hdd
  have hs1 : IntKind.i64.wrap ((X.length : Int) + (Y.length : Int)) = (X.length : Int) + (Y.length : Int) := IntWalk.i64_in _ (by omega)
  have hs2 : ((X.length : Int) + (Y.length : Int) == 0) = decide (X.length + Y.length = 0) := by rw [Bool.eq_iff_iff, beq_iff_eq, decide_eq_true_eq]; omega
  go_enter Tryd.func9, Tryd.ntmps9
  go_wp2_with (first
      | (go_at_call 30; refine (K1.out _).mono ?_; rintro e w1 ⟨rfl, b1⟩
         have H1 := Lib.hid ((two_below _ _ _ _ _).trans (b1.mono (two_below _ _ _ _ _).size))
         have R1 := Lib.hid ((b1.block _ (by simp; omega)).trans (rowA _ _ _ _ _))
         have S1 := Lib.hid ((b1.block _ (by simp)).trans (rowB _ _ _ _ _))
         have L1 : Hid (w.heap.size < w1.heap.size) := Lib.hid (Nat.lt_of_lt_of_le (by simp; omega) b1.size)
         have e13 : w1.cell? ⟨w.heap.size, 13, none⟩ = some (.int .u8 x.rc) := (cell_of_row _ _ 13 _ _ _ R1.out).trans rfl
         have e14 : w1.cell? ⟨w.heap.size, 14, none⟩ = some (.string x.rv) := (cell_of_row _ _ 14 _ _ _ R1.out).trans rfl
         have s0 : w1.cell? ⟨w.heap.size + 1, 0, none⟩ = some (.int .u8 x.n) := (cell_of_row _ _ 0 _ _ _ S1.out).trans rfl
         have s1 : w1.cell? ⟨w.heap.size + 1, 1, none⟩ = some (.int .u16 x.l) := (cell_of_row _ _ 1 _ _ _ S1.out).trans rfl
         have s2 : w1.cell? ⟨w.heap.size + 1, 2, none⟩ = some (.int .u32 x.s) := (cell_of_row _ _ 2 _ _ _ S1.out).trans rfl
         have s3 : w1.cell? ⟨w.heap.size + 1, 3, none⟩ = some (.int .u8 2) := (cell_of_row _ _ 3 _ _ _ S1.out).trans rfl
         have s4 : w1.cell? ⟨w.heap.size + 1, 4, none⟩ = some (.int .u8 x.a0) := (cell_of_row _ _ 4 _ _ _ S1.out).trans rfl
         have s5 : w1.cell? ⟨w.heap.size + 1, 5, none⟩ = some (.int .u8 x.a1) := (cell_of_row _ _ 5 _ _ _ S1.out).trans rfl
         have s6 : w1.cell? ⟨w.heap.size + 1, 6, none⟩ = some (.int .u8 x.b0) := (cell_of_row _ _ 6 _ _ _ S1.out).trans rfl
         have s7 : w1.cell? ⟨w.heap.size + 1, 7, none⟩ = some (.int .u8 x.b1) := (cell_of_row _ _ 7 _ _ _ S1.out).trans rfl
         have s8 : w1.cell? ⟨w.heap.size + 1, 8, none⟩ = some (.int .u8 x.c0) := (cell_of_row _ _ 8 _ _ _ S1.out).trans rfl
         have s9 : w1.cell? ⟨w.heap.size + 1, 9, none⟩ = some (.int .u8 x.c1) := (cell_of_row _ _ 9 _ _ _ S1.out).trans rfl
         clear b1 R0 L0)
      | (go_at_call 31; refine (K3.out _).mono ?_; rintro e w2 ⟨rfl, b2⟩
         have H2 := Lib.hid (H1.out.trans (b2.mono H1.out.size))
         have R2 := Lib.hid ((b2.block _ L1.out).trans R1.out)
         clear e13 e14
         have e11 : w2.cell? ⟨w.heap.size, 11, none⟩ = some (.int .u32 x.fl) := (cell_of_row _ _ 11 _ _ _ R2.out).trans rfl
         have e12 : w2.cell? ⟨w.heap.size, 12, none⟩ = some (.slice A X.length c) := (cell_of_row _ _ 12 _ _ _ R2.out).trans rfl
         have e15 : w2.cell? ⟨w.heap.size, 15, none⟩ = some (.slice B Y.length d) := (cell_of_row _ _ 15 _ _ _ R2.out).trans rfl
         have e16 : w2.cell? ⟨w.heap.size, 16, none⟩ = some (.int .u8 x.vn) := (cell_of_row _ _ 16 _ _ _ R2.out).trans rfl
         have e17 : w2.cell? ⟨w.heap.size, 17, none⟩ = some (.int .u16 x.vl) := (cell_of_row _ _ 17 _ _ _ R2.out).trans rfl
         clear b2 R1 L1))
  all_goals
    go_ret
    exact ⟨ret_bool (by first | (simp [*]; done) | (simp_all; done) | (simp_all; omega)), by first | exact H2.out | exact H1.out⟩

set_option maxRecDepth 100000 in
set_option maxHeartbeats 1000000 in
theorem refR1_3 (x : E18) (A B : Option Addr) (X : List P5) (Y : List W3) (c d : Nat) (g : Int) (w : World) (hr : RowsP w w.heap.size A X) (hs : RowsW w w.heap.size B Y) (hX : ∀ x ∈ X, x.Rng) (hc : X.length ≤ c) (hm : c ≤ maxLen) (hd : Y.length ≤ d) (hn : d ≤ maxLen) (bx : X.length ≤ 140737488355328) (bY : Y.length ≤ 140737488355328) (hdd : x.d = 3) (hI : I.rI x.n x.l x.s x.d x.a0 x.a1 x.b0 x.b1 x.c0 x.c1 = true) :
    Calls Tryd.prog 9 #[.agg #[.int .u8 1, .int .u8 x.n, .int .u16 x.l, .int .u32 x.s, .int .u8 3, .int .u8 x.a0, .int .u8 x.a1, .int .u8 x.b0, .int .u8 x.b1, .int .u8 x.c0, .int .u8 x.c1, .int .u32 x.fl, .slice A X.length c, .int .u8 x.rc, .string x.rv, .slice B Y.length d, .int .u8 x.vn, .int .u16 x.vl], .int .u8 g] w fun e w' => e = .returned (.bool (decide (x.c0 = g) && rR x.rc x.rv && decide (x.fl = 0) && decide (X.length + Y.length = 0) && eqV x E0)) ∧ Below w.heap.size w w' := by
  have H0 : Hid (Below w.heap.size w (w.alloc (.cells #[.int .u8 1, .int .u8 x.n, .int .u16 x.l, .int .u32 x.s, .int .u8 3, .int .u8 x.a0, .int .u8 x.a1, .int .u8 x.b0, .int .u8 x.b1, .int .u8 x.c0, .int .u8 x.c1, .int .u32 x.fl, .slice A X.length c, .int .u8 x.rc, .string x.rv, .slice B Y.length d, .int .u8 x.vn, .int .u16 x.vl] 36))) := Lib.hid ((Below.refl _ _).alloc (Nat.le_refl _) _)
  have R0 : Hid ((w.alloc (.cells #[.int .u8 1, .int .u8 x.n, .int .u16 x.l, .int .u32 x.s, .int .u8 3, .int .u8 x.a0, .int .u8 x.a1, .int .u8 x.b0, .int .u8 x.b1, .int .u8 x.c0, .int .u8 x.c1, .int .u32 x.fl, .slice A X.length c, .int .u8 x.rc, .string x.rv, .slice B Y.length d, .int .u8 x.vn, .int .u16 x.vl] 36)).heap[w.heap.size]? = some (.cells #[.int .u8 1, .int .u8 x.n, .int .u16 x.l, .int .u32 x.s, .int .u8 3, .int .u8 x.a0, .int .u8 x.a1, .int .u8 x.b0, .int .u8 x.b1, .int .u8 x.c0, .int .u8 x.c1, .int .u32 x.fl, .slice A X.length c, .int .u8 x.rc, .string x.rv, .slice B Y.length d, .int .u8 x.vn, .int .u16 x.vl] 36 (0, 0))) := Lib.hid (heap_alloc_new w _)
  have L0 : Hid (w.heap.size < (w.alloc (.cells #[.int .u8 1, .int .u8 x.n, .int .u16 x.l, .int .u32 x.s, .int .u8 3, .int .u8 x.a0, .int .u8 x.a1, .int .u8 x.b0, .int .u8 x.b1, .int .u8 x.c0, .int .u8 x.c1, .int .u32 x.fl, .slice A X.length c, .int .u8 x.rc, .string x.rv, .slice B Y.length d, .int .u8 x.vn, .int .u16 x.vl] 36)).heap.size) := Lib.hid (by simp)
  have q1 : ∀ W, Sem.run Tryd.prog (binOp .eql 33 (.agg #[.int .u8 x.rc, .string x.rv]) (.agg #[.int .u8 0, .string ByteArray.empty])) W = .ok (.bool (eqR x E0)) W := fun W => eqlRResg x E0 W
  have q1' : ∀ W, Sem.run Tryd.prog (binOp .eql 33 (.agg #[.int .u8 x.rc, .string x.rv]) (.agg #[.int .u8 0, .string { data := #[] }])) W = .ok (.bool (eqR x E0)) W := fun W => eqlRResg x E0 W
  have q2 : ∀ W, Sem.run Tryd.prog (binOp .eql 24 (.agg #[.int .u8 x.vn, .int .u16 x.vl]) (.agg #[.int .u8 0, .int .u16 0])) W = .ok (.bool (eqV x E0)) W := fun W => eqlRPrg x E0 W
  have K1 : Hid (∀ W, Calls Tryd.prog 30 #[.agg #[.int .u8 x.n, .int .u16 x.l, .int .u32 x.s, .int .u8 3, .int .u8 x.a0, .int .u8 x.a1, .int .u8 x.b0, .int .u8 x.b1, .int .u8 x.c0, .int .u8 x.c1]] W fun e w' => e = .returned (.bool true) ∧ Below W.heap.size W w') := Lib.hid (fun W => by
    have := I.refRight x.n x.l x.s x.d x.a0 x.a1 x.b0 x.b1 x.c0 x.c1 W (by omega)
    rw [hI, hdd] at this
    exact this)
  have K3 : Hid (∀ W, Calls Tryd.prog 31 #[.agg #[.int .u8 x.rc, .string x.rv]] W fun e w' => e = .returned (.bool (rR x.rc x.rv)) ∧ Below W.heap.size W w') := Lib.hid (fun W => (refRightRes _ _ W).mono fun e w' h => ⟨h.1, by rw [← h.2]; exact (Below.refl _ _).alloc (Nat.le_refl _) _⟩)
  clear hr hs hX hc hm hd hn hI hdd
  have hs1 : IntKind.i64.wrap ((X.length : Int) + (Y.length : Int)) = (X.length : Int) + (Y.length : Int) := IntWalk.i64_in _ (by omega)
  have hs2 : ((X.length : Int) + (Y.length : Int) == 0) = decide (X.length + Y.length = 0) := by rw [Bool.eq_iff_iff, beq_iff_eq, decide_eq_true_eq]; omega
  go_enter Tryd.func9, Tryd.ntmps9
  go_wp2_with (first
      | (go_at_call 30; refine (K1.out _).mono ?_; rintro e w1 ⟨rfl, b1⟩
         have H1 := Lib.hid ((two_below _ _ _ _ _).trans (b1.mono (two_below _ _ _ _ _).size))
         have R1 := Lib.hid ((b1.block _ (by simp; omega)).trans (rowA _ _ _ _ _))
         have S1 := Lib.hid ((b1.block _ (by simp)).trans (rowB _ _ _ _ _))
         have L1 : Hid (w.heap.size < w1.heap.size) := Lib.hid (Nat.lt_of_lt_of_le (by simp; omega) b1.size)
         have e13 : w1.cell? ⟨w.heap.size, 13, none⟩ = some (.int .u8 x.rc) := (cell_of_row _ _ 13 _ _ _ R1.out).trans rfl
         have e14 : w1.cell? ⟨w.heap.size, 14, none⟩ = some (.string x.rv) := (cell_of_row _ _ 14 _ _ _ R1.out).trans rfl
         have s0 : w1.cell? ⟨w.heap.size + 1, 0, none⟩ = some (.int .u8 x.n) := (cell_of_row _ _ 0 _ _ _ S1.out).trans rfl
         have s1 : w1.cell? ⟨w.heap.size + 1, 1, none⟩ = some (.int .u16 x.l) := (cell_of_row _ _ 1 _ _ _ S1.out).trans rfl
         have s2 : w1.cell? ⟨w.heap.size + 1, 2, none⟩ = some (.int .u32 x.s) := (cell_of_row _ _ 2 _ _ _ S1.out).trans rfl
         have s3 : w1.cell? ⟨w.heap.size + 1, 3, none⟩ = some (.int .u8 3) := (cell_of_row _ _ 3 _ _ _ S1.out).trans rfl
         have s4 : w1.cell? ⟨w.heap.size + 1, 4, none⟩ = some (.int .u8 x.a0) := (cell_of_row _ _ 4 _ _ _ S1.out).trans rfl
         have s5 : w1.cell? ⟨w.heap.size + 1, 5, none⟩ = some (.int .u8 x.a1) := (cell_of_row _ _ 5 _ _ _ S1.out).trans rfl
         have s6 : w1.cell? ⟨w.heap.size + 1, 6, none⟩ = some (.int .u8 x.b0) := (cell_of_row _ _ 6 _ _ _ S1.out).trans rfl
         have s7 : w1.cell? ⟨w.heap.size + 1, 7, none⟩ = some (.int .u8 x.b1) := (cell_of_row _ _ 7 _ _ _ S1.out).trans rfl
         have s8 : w1.cell? ⟨w.heap.size + 1, 8, none⟩ = some (.int .u8 x.c0) := (cell_of_row _ _ 8 _ _ _ S1.out).trans rfl
         have s9 : w1.cell? ⟨w.heap.size + 1, 9, none⟩ = some (.int .u8 x.c1) := (cell_of_row _ _ 9 _ _ _ S1.out).trans rfl
         clear b1 R0 L0)
      | (go_at_call 31; refine (K3.out _).mono ?_; rintro e w2 ⟨rfl, b2⟩
         have H2 := Lib.hid (H1.out.trans (b2.mono H1.out.size))
         have R2 := Lib.hid ((b2.block _ L1.out).trans R1.out)
         clear e13 e14
         have e11 : w2.cell? ⟨w.heap.size, 11, none⟩ = some (.int .u32 x.fl) := (cell_of_row _ _ 11 _ _ _ R2.out).trans rfl
         have e12 : w2.cell? ⟨w.heap.size, 12, none⟩ = some (.slice A X.length c) := (cell_of_row _ _ 12 _ _ _ R2.out).trans rfl
         have e15 : w2.cell? ⟨w.heap.size, 15, none⟩ = some (.slice B Y.length d) := (cell_of_row _ _ 15 _ _ _ R2.out).trans rfl
         have e16 : w2.cell? ⟨w.heap.size, 16, none⟩ = some (.int .u8 x.vn) := (cell_of_row _ _ 16 _ _ _ R2.out).trans rfl
         have e17 : w2.cell? ⟨w.heap.size, 17, none⟩ = some (.int .u16 x.vl) := (cell_of_row _ _ 17 _ _ _ R2.out).trans rfl
         clear b2 R1 L1))
  all_goals
    go_ret
    exact ⟨ret_bool (by first | (simp [*]; done) | (simp_all; done) | (simp_all; omega)), by first | exact H2.out | exact H1.out⟩

end Go.Proofs.YtnkimbmnnhnanaaDoor
