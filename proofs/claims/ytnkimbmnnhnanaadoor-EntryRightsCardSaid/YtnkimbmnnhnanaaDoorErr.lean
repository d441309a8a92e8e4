/-
  Which entries may be: the document's Right at a Call, at a Kill and at a Check, by an exact answer. Condition: the lists lie in memory, each number fits its kind.
-/
import Derived.Test.YtnkimbmnnhnanaaDoorEsn
import Derived.Test.YtnkimbmnnhnanaaDoorEas
import Derived.Test.YtnkimbmnnhnanaaDoorErg
import Derived.Test.YtnkimbmnnhnanaaDoorEch
import Derived.IntWalk
namespace Go.Proofs.YtnkimbmnnhnanaaDoor
set_option linter.unusedSimpArgs false
set_option linter.unusedVariables false
open Go.RowKit Go.Sort

set_option maxRecDepth 100000 in
set_option maxHeartbeats 1000000 in
theorem refR0 (x : E18) (A B : Option Addr) (X : List P5) (Y : List W3) (c d : Nat) (g : Int) (w : World) (hr : RowsP w w.heap.size A X) (hs : RowsW w w.heap.size B Y) (hX : ∀ x ∈ X, x.Rng) (hc : X.length ≤ c) (hm : c ≤ maxLen) (hd : Y.length ≤ d) (hn : d ≤ maxLen) (h0 : 0 ≤ x.d) (h1 : x.d ≤ 255) :
    Calls Tryd.prog 9 #[.agg #[.int .u8 0, .int .u8 x.n, .int .u16 x.l, .int .u32 x.s, .int .u8 x.d, .int .u8 x.a0, .int .u8 x.a1, .int .u8 x.b0, .int .u8 x.b1, .int .u8 x.c0, .int .u8 x.c1, .int .u32 x.fl, .slice A X.length c, .int .u8 x.rc, .string x.rv, .slice B Y.length d, .int .u8 x.vn, .int .u16 x.vl], .int .u8 g] w fun e w' => e = .returned (.bool (askB x X g && eqV x E0 && eqR x E0 && decide (Y.length = 0))) ∧ Below w.heap.size w w' := by
  have H0 : Hid (Below w.heap.size w (w.alloc (.cells #[.int .u8 0, .int .u8 x.n, .int .u16 x.l, .int .u32 x.s, .int .u8 x.d, .int .u8 x.a0, .int .u8 x.a1, .int .u8 x.b0, .int .u8 x.b1, .int .u8 x.c0, .int .u8 x.c1, .int .u32 x.fl, .slice A X.length c, .int .u8 x.rc, .string x.rv, .slice B Y.length d, .int .u8 x.vn, .int .u16 x.vl] 36))) := Lib.hid ((Below.refl _ _).alloc (Nat.le_refl _) _)
  have R0 : Hid ((w.alloc (.cells #[.int .u8 0, .int .u8 x.n, .int .u16 x.l, .int .u32 x.s, .int .u8 x.d, .int .u8 x.a0, .int .u8 x.a1, .int .u8 x.b0, .int .u8 x.b1, .int .u8 x.c0, .int .u8 x.c1, .int .u32 x.fl, .slice A X.length c, .int .u8 x.rc, .string x.rv, .slice B Y.length d, .int .u8 x.vn, .int .u16 x.vl] 36)).heap[w.heap.size]? = some (.cells #[.int .u8 0, .int .u8 x.n, .int .u16 x.l, .int .u32 x.s, .int .u8 x.d, .int .u8 x.a0, .int .u8 x.a1, .int .u8 x.b0, .int .u8 x.b1, .int .u8 x.c0, .int .u8 x.c1, .int .u32 x.fl, .slice A X.length c, .int .u8 x.rc, .string x.rv, .slice B Y.length d, .int .u8 x.vn, .int .u16 x.vl] 36 (0, 0))) := Lib.hid (heap_alloc_new w _)
  have L0 : Hid (w.heap.size < (w.alloc (.cells #[.int .u8 0, .int .u8 x.n, .int .u16 x.l, .int .u32 x.s, .int .u8 x.d, .int .u8 x.a0, .int .u8 x.a1, .int .u8 x.b0, .int .u8 x.b1, .int .u8 x.c0, .int .u8 x.c1, .int .u32 x.fl, .slice A X.length c, .int .u8 x.rc, .string x.rv, .slice B Y.length d, .int .u8 x.vn, .int .u16 x.vl] 36)).heap.size) := Lib.hid (by simp)
  have q1 : ∀ W, Sem.run Tryd.prog (binOp .eql 33 (.agg #[.int .u8 x.rc, .string x.rv]) (.agg #[.int .u8 0, .string ByteArray.empty])) W = .ok (.bool (eqR x E0)) W := fun W => eqlRResg x E0 W
  have q1' : ∀ W, Sem.run Tryd.prog (binOp .eql 33 (.agg #[.int .u8 x.rc, .string x.rv]) (.agg #[.int .u8 0, .string { data := #[] }])) W = .ok (.bool (eqR x E0)) W := fun W => eqlRResg x E0 W
  have q2 : ∀ W, Sem.run Tryd.prog (binOp .eql 24 (.agg #[.int .u8 x.vn, .int .u16 x.vl]) (.agg #[.int .u8 0, .int .u16 0])) W = .ok (.bool (eqV x E0)) W := fun W => eqlRPrg x E0 W
  have q3 : ∀ W, Sem.run Tryd.prog (binOp .eql 30 (.agg #[.int .u8 x.n, .int .u16 x.l, .int .u32 x.s, .int .u8 x.d, .int .u8 x.a0, .int .u8 x.a1, .int .u8 x.b0, .int .u8 x.b1, .int .u8 x.c0, .int .u8 x.c1]) (.agg #[.int .u8 0, .int .u16 0, .int .u32 0, .int .u8 0, .int .u8 0, .int .u8 0, .int .u8 0, .int .u8 0, .int .u8 0, .int .u8 0])) W = .ok (.bool (eqI x E0)) W := fun W => eqlRIDg x E0 W
  have K1 : Hid (∀ W, Below w.heap.size w W → Calls Tryd.prog 28 #[.agg #[.int .u8 0, .int .u8 x.n, .int .u16 x.l, .int .u32 x.s, .int .u8 x.d, .int .u8 x.a0, .int .u8 x.a1, .int .u8 x.b0, .int .u8 x.b1, .int .u8 x.c0, .int .u8 x.c1, .int .u32 x.fl, .slice A X.length c, .int .u8 x.rc, .string x.rv, .slice B Y.length d, .int .u8 x.vn, .int .u16 x.vl], .int .u8 g] W fun e w' => e = .returned (.bool (askB x X g && eqV x E0)) ∧ Below W.heap.size W w') := Lib.hid (fun W hw =>
    callE { x with k := 0 } A (.slice B Y.length d) X c g W (hr.below (C := w.heap.size) hw (Nat.le_refl _) hw.size) hX hc hm h0 h1)
  clear hr hs hX hc hm hd hn
  have hz : ((Y.length : Int) == 0) = decide (Y.length = 0) := by rw [Bool.eq_iff_iff]; simp
  generalize (askB x X g && eqV x E0) = av at *
  go_enter Tryd.func9, Tryd.ntmps9
  go_wp2_with (first
      | (have R0x := R0.out; refine wpList_load_row rfl 36 (.tmp 2) rfl w.heap.size (by rfl) 36 #[.int .u8 0, .int .u8 x.n, .int .u16 x.l, .int .u32 x.s, .int .u8 x.d, .int .u8 x.a0, .int .u8 x.a1, .int .u8 x.b0, .int .u8 x.b1, .int .u8 x.c0, .int .u8 x.c1, .int .u32 x.fl, .slice A X.length c, .int .u8 x.rc, .string x.rv, .slice B Y.length d, .int .u8 x.vn, .int .u16 x.vl] (0, 0) _ R0x Tryd.underlying36 rfl (by kernel_rfl) ?_; clear R0x)
      | (go_at_call 28; refine (K1.out _ H0.out).mono ?_; rintro e w1 ⟨rfl, b1⟩
         have H1 := Lib.hid (H0.out.trans (b1.mono H0.out.size))
         have R1 := Lib.hid ((b1.block _ L0.out).trans R0.out)
         have e15 : w1.cell? ⟨w.heap.size, 15, none⟩ = some (.slice B Y.length d) := (cell_of_row _ _ 15 _ _ _ R1.out).trans rfl
         clear b1 R0 L0))
  all_goals
    go_ret
    exact ⟨ret_bool (by first | (simp [*]; done) | (cases av <;> simp_all)), H1.out⟩

set_option maxRecDepth 100000 in
set_option maxHeartbeats 1000000 in
theorem refR2 (x : E18) (A B : Option Addr) (X : List P5) (Y : List W3) (c d : Nat) (g : Int) (w : World) (hr : RowsP w w.heap.size A X) (hs : RowsW w w.heap.size B Y) (hX : ∀ x ∈ X, x.Rng) (hc : X.length ≤ c) (hm : c ≤ maxLen) (hd : Y.length ≤ d) (hn : d ≤ maxLen) (bx : X.length ≤ 140737488355328) (bY : Y.length ≤ 140737488355328) :
    Calls Tryd.prog 9 #[.agg #[.int .u8 2, .int .u8 x.n, .int .u16 x.l, .int .u32 x.s, .int .u8 x.d, .int .u8 x.a0, .int .u8 x.a1, .int .u8 x.b0, .int .u8 x.b1, .int .u8 x.c0, .int .u8 x.c1, .int .u32 x.fl, .slice A X.length c, .int .u8 x.rc, .string x.rv, .slice B Y.length d, .int .u8 x.vn, .int .u16 x.vl], .int .u8 g] w fun e w' => e = .returned (.bool (I.rP x.vn x.vl && eqR x E0 && eqI x E0 && decide (x.fl = 0) && decide (X.length + Y.length = 0))) ∧ Below w.heap.size w w' := by
  have H0 : Hid (Below w.heap.size w (w.alloc (.cells #[.int .u8 2, .int .u8 x.n, .int .u16 x.l, .int .u32 x.s, .int .u8 x.d, .int .u8 x.a0, .int .u8 x.a1, .int .u8 x.b0, .int .u8 x.b1, .int .u8 x.c0, .int .u8 x.c1, .int .u32 x.fl, .slice A X.length c, .int .u8 x.rc, .string x.rv, .slice B Y.length d, .int .u8 x.vn, .int .u16 x.vl] 36))) := Lib.hid ((Below.refl _ _).alloc (Nat.le_refl _) _)
  have R0 : Hid ((w.alloc (.cells #[.int .u8 2, .int .u8 x.n, .int .u16 x.l, .int .u32 x.s, .int .u8 x.d, .int .u8 x.a0, .int .u8 x.a1, .int .u8 x.b0, .int .u8 x.b1, .int .u8 x.c0, .int .u8 x.c1, .int .u32 x.fl, .slice A X.length c, .int .u8 x.rc, .string x.rv, .slice B Y.length d, .int .u8 x.vn, .int .u16 x.vl] 36)).heap[w.heap.size]? = some (.cells #[.int .u8 2, .int .u8 x.n, .int .u16 x.l, .int .u32 x.s, .int .u8 x.d, .int .u8 x.a0, .int .u8 x.a1, .int .u8 x.b0, .int .u8 x.b1, .int .u8 x.c0, .int .u8 x.c1, .int .u32 x.fl, .slice A X.length c, .int .u8 x.rc, .string x.rv, .slice B Y.length d, .int .u8 x.vn, .int .u16 x.vl] 36 (0, 0))) := Lib.hid (heap_alloc_new w _)
  have L0 : Hid (w.heap.size < (w.alloc (.cells #[.int .u8 2, .int .u8 x.n, .int .u16 x.l, .int .u32 x.s, .int .u8 x.d, .int .u8 x.a0, .int .u8 x.a1, .int .u8 x.b0, .int .u8 x.b1, .int .u8 x.c0, .int .u8 x.c1, .int .u32 x.fl, .slice A X.length c, .int .u8 x.rc, .string x.rv, .slice B Y.length d, .int .u8 x.vn, .int .u16 x.vl] 36)).heap.size) := Lib.hid (by simp)
  have q1 : ∀ W, Sem.run Tryd.prog (binOp .eql 33 (.agg #[.int .u8 x.rc, .string x.rv]) (.agg #[.int .u8 0, .string ByteArray.empty])) W = .ok (.bool (eqR x E0)) W := fun W => eqlRResg x E0 W
  have q1' : ∀ W, Sem.run Tryd.prog (binOp .eql 33 (.agg #[.int .u8 x.rc, .string x.rv]) (.agg #[.int .u8 0, .string { data := #[] }])) W = .ok (.bool (eqR x E0)) W := fun W => eqlRResg x E0 W
  have q2 : ∀ W, Sem.run Tryd.prog (binOp .eql 24 (.agg #[.int .u8 x.vn, .int .u16 x.vl]) (.agg #[.int .u8 0, .int .u16 0])) W = .ok (.bool (eqV x E0)) W := fun W => eqlRPrg x E0 W
  have q3 : ∀ W, Sem.run Tryd.prog (binOp .eql 30 (.agg #[.int .u8 x.n, .int .u16 x.l, .int .u32 x.s, .int .u8 x.d, .int .u8 x.a0, .int .u8 x.a1, .int .u8 x.b0, .int .u8 x.b1, .int .u8 x.c0, .int .u8 x.c1]) (.agg #[.int .u8 0, .int .u16 0, .int .u32 0, .int .u8 0, .int .u8 0, .int .u8 0, .int .u8 0, .int .u8 0, .int .u8 0, .int .u8 0])) W = .ok (.bool (eqI x E0)) W := fun W => eqlRIDg x E0 W
  have K1 : Hid (∀ W, Calls Tryd.prog 32 #[.agg #[.int .u8 x.vn, .int .u16 x.vl]] W fun e w' => e = .returned (.bool (I.rP x.vn x.vl)) ∧ Below W.heap.size W w') := Lib.hid (fun W => (I.refRightProc _ _ W).mono fun e w' h => ⟨h.1, by rw [← h.2]; exact (Below.refl _ _).alloc (Nat.le_refl _) _⟩)
  clear hr hs hX hc hm hd hn
  have hs1 : IntKind.i64.wrap ((X.length : Int) + (Y.length : Int)) = (X.length : Int) + (Y.length : Int) := IntWalk.i64_in _ (by omega)
  have hs2 : ((X.length : Int) + (Y.length : Int) == 0) = decide (X.length + Y.length = 0) := by rw [Bool.eq_iff_iff, beq_iff_eq, decide_eq_true_eq]; omega
  go_enter Tryd.func9, Tryd.ntmps9
  go_wp2_with (first
      | (go_at_call 32; refine (K1.out _).mono ?_; rintro e w3 ⟨rfl, b3⟩
         have H3 := Lib.hid (H0.out.trans (b3.mono H0.out.size))
         have R3 := Lib.hid ((b3.block _ L0.out).trans R0.out)
         have e1 : w3.cell? ⟨w.heap.size, 1, none⟩ = some (.int .u8 x.n) := (cell_of_row _ _ 1 _ _ _ R3.out).trans rfl
         have e2 : w3.cell? ⟨w.heap.size, 2, none⟩ = some (.int .u16 x.l) := (cell_of_row _ _ 2 _ _ _ R3.out).trans rfl
         have e3 : w3.cell? ⟨w.heap.size, 3, none⟩ = some (.int .u32 x.s) := (cell_of_row _ _ 3 _ _ _ R3.out).trans rfl
         have e4 : w3.cell? ⟨w.heap.size, 4, none⟩ = some (.int .u8 x.d) := (cell_of_row _ _ 4 _ _ _ R3.out).trans rfl
         have e5 : w3.cell? ⟨w.heap.size, 5, none⟩ = some (.int .u8 x.a0) := (cell_of_row _ _ 5 _ _ _ R3.out).trans rfl
         have e6 : w3.cell? ⟨w.heap.size, 6, none⟩ = some (.int .u8 x.a1) := (cell_of_row _ _ 6 _ _ _ R3.out).trans rfl
         have e7 : w3.cell? ⟨w.heap.size, 7, none⟩ = some (.int .u8 x.b0) := (cell_of_row _ _ 7 _ _ _ R3.out).trans rfl
         have e8 : w3.cell? ⟨w.heap.size, 8, none⟩ = some (.int .u8 x.b1) := (cell_of_row _ _ 8 _ _ _ R3.out).trans rfl
         have e9 : w3.cell? ⟨w.heap.size, 9, none⟩ = some (.int .u8 x.c0) := (cell_of_row _ _ 9 _ _ _ R3.out).trans rfl
         have e10 : w3.cell? ⟨w.heap.size, 10, none⟩ = some (.int .u8 x.c1) := (cell_of_row _ _ 10 _ _ _ R3.out).trans rfl
         have e11 : w3.cell? ⟨w.heap.size, 11, none⟩ = some (.int .u32 x.fl) := (cell_of_row _ _ 11 _ _ _ R3.out).trans rfl
         have e12 : w3.cell? ⟨w.heap.size, 12, none⟩ = some (.slice A X.length c) := (cell_of_row _ _ 12 _ _ _ R3.out).trans rfl
         have e15 : w3.cell? ⟨w.heap.size, 15, none⟩ = some (.slice B Y.length d) := (cell_of_row _ _ 15 _ _ _ R3.out).trans rfl
         clear b3 R0 L0))
  all_goals
    go_ret
    exact ⟨ret_bool (by first | (simp [*]; done) | (simp_all; done) | (simp_all; omega)), H3.out⟩

set_option maxRecDepth 100000 in
set_option maxHeartbeats 1000000 in
theorem refR3 (x : E18) (A B : Option Addr) (X : List P5) (Y : List W3) (c d : Nat) (g : Int) (w : World) (hr : RowsP w w.heap.size A X) (hs : RowsW w w.heap.size B Y) (hX : ∀ x ∈ X, x.Rng) (hc : X.length ≤ c) (hm : c ≤ maxLen) (hd : Y.length ≤ d) (hn : d ≤ maxLen) (h0 : 0 ≤ x.d) (h1 : x.d ≤ 255) :
    Calls Tryd.prog 9 #[.agg #[.int .u8 3, .int .u8 x.n, .int .u16 x.l, .int .u32 x.s, .int .u8 x.d, .int .u8 x.a0, .int .u8 x.a1, .int .u8 x.b0, .int .u8 x.b1, .int .u8 x.c0, .int .u8 x.c1, .int .u32 x.fl, .slice A X.length c, .int .u8 x.rc, .string x.rv, .slice B Y.length d, .int .u8 x.vn, .int .u16 x.vl], .int .u8 g] w fun e w' => e = .returned (.bool (askB x X g && eqV x E0 && outB x (X.headD askB.kP0) Y)) ∧ Below w.heap.size w w' := by
  have H0 : Hid (Below w.heap.size w (w.alloc (.cells #[.int .u8 3, .int .u8 x.n, .int .u16 x.l, .int .u32 x.s, .int .u8 x.d, .int .u8 x.a0, .int .u8 x.a1, .int .u8 x.b0, .int .u8 x.b1, .int .u8 x.c0, .int .u8 x.c1, .int .u32 x.fl, .slice A X.length c, .int .u8 x.rc, .string x.rv, .slice B Y.length d, .int .u8 x.vn, .int .u16 x.vl] 36))) := Lib.hid ((Below.refl _ _).alloc (Nat.le_refl _) _)
  have R0 : Hid ((w.alloc (.cells #[.int .u8 3, .int .u8 x.n, .int .u16 x.l, .int .u32 x.s, .int .u8 x.d, .int .u8 x.a0, .int .u8 x.a1, .int .u8 x.b0, .int .u8 x.b1, .int .u8 x.c0, .int .u8 x.c1, .int .u32 x.fl, .slice A X.length c, .int .u8 x.rc, .string x.rv, .slice B Y.length d, .int .u8 x.vn, .int .u16 x.vl] 36)).heap[w.heap.size]? = some (.cells #[.int .u8 3, .int .u8 x.n, .int .u16 x.l, .int .u32 x.s, .int .u8 x.d, .int .u8 x.a0, .int .u8 x.a1, .int .u8 x.b0, .int .u8 x.b1, .int .u8 x.c0, .int .u8 x.c1, .int .u32 x.fl, .slice A X.length c, .int .u8 x.rc, .string x.rv, .slice B Y.length d, .int .u8 x.vn, .int .u16 x.vl] 36 (0, 0))) := Lib.hid (heap_alloc_new w _)
  have L0 : Hid (w.heap.size < (w.alloc (.cells #[.int .u8 3, .int .u8 x.n, .int .u16 x.l, .int .u32 x.s, .int .u8 x.d, .int .u8 x.a0, .int .u8 x.a1, .int .u8 x.b0, .int .u8 x.b1, .int .u8 x.c0, .int .u8 x.c1, .int .u32 x.fl, .slice A X.length c, .int .u8 x.rc, .string x.rv, .slice B Y.length d, .int .u8 x.vn, .int .u16 x.vl] 36)).heap.size) := Lib.hid (by simp)
  have q1 : ∀ W, Sem.run Tryd.prog (binOp .eql 33 (.agg #[.int .u8 x.rc, .string x.rv]) (.agg #[.int .u8 0, .string ByteArray.empty])) W = .ok (.bool (eqR x E0)) W := fun W => eqlRResg x E0 W
  have q1' : ∀ W, Sem.run Tryd.prog (binOp .eql 33 (.agg #[.int .u8 x.rc, .string x.rv]) (.agg #[.int .u8 0, .string { data := #[] }])) W = .ok (.bool (eqR x E0)) W := fun W => eqlRResg x E0 W
  have q2 : ∀ W, Sem.run Tryd.prog (binOp .eql 24 (.agg #[.int .u8 x.vn, .int .u16 x.vl]) (.agg #[.int .u8 0, .int .u16 0])) W = .ok (.bool (eqV x E0)) W := fun W => eqlRPrg x E0 W
  have q3 : ∀ W, Sem.run Tryd.prog (binOp .eql 30 (.agg #[.int .u8 x.n, .int .u16 x.l, .int .u32 x.s, .int .u8 x.d, .int .u8 x.a0, .int .u8 x.a1, .int .u8 x.b0, .int .u8 x.b1, .int .u8 x.c0, .int .u8 x.c1]) (.agg #[.int .u8 0, .int .u16 0, .int .u32 0, .int .u8 0, .int .u8 0, .int .u8 0, .int .u8 0, .int .u8 0, .int .u8 0, .int .u8 0])) W = .ok (.bool (eqI x E0)) W := fun W => eqlRIDg x E0 W
  have K1 : Hid (∀ W, Below w.heap.size w W → Calls Tryd.prog 28 #[.agg #[.int .u8 3, .int .u8 x.n, .int .u16 x.l, .int .u32 x.s, .int .u8 x.d, .int .u8 x.a0, .int .u8 x.a1, .int .u8 x.b0, .int .u8 x.b1, .int .u8 x.c0, .int .u8 x.c1, .int .u32 x.fl, .slice A X.length c, .int .u8 x.rc, .string x.rv, .slice B Y.length d, .int .u8 x.vn, .int .u16 x.vl], .int .u8 g] W fun e w' => e = .returned (.bool (askB x X g && eqV x E0)) ∧ Below W.heap.size W w') := Lib.hid (fun W hw =>
    callE { x with k := 3 } A (.slice B Y.length d) X c g W (hr.below (C := w.heap.size) hw (Nat.le_refl _) hw.size) hX hc hm h0 h1)
  cases hA : (askB x X g && eqV x E0) with
  | false =>
    rw [hA] at K1
    clear hA hr hs hX hc hm hd hn
    go_enter Tryd.func9, Tryd.ntmps9
    go_wp2_with (first
      | (have R0x := R0.out; refine wpList_load_row rfl 36 (.tmp 2) rfl w.heap.size (by rfl) 36 #[.int .u8 3, .int .u8 x.n, .int .u16 x.l, .int .u32 x.s, .int .u8 x.d, .int .u8 x.a0, .int .u8 x.a1, .int .u8 x.b0, .int .u8 x.b1, .int .u8 x.c0, .int .u8 x.c1, .int .u32 x.fl, .slice A X.length c, .int .u8 x.rc, .string x.rv, .slice B Y.length d, .int .u8 x.vn, .int .u16 x.vl] (0, 0) _ R0x Tryd.underlying36 rfl (by kernel_rfl) ?_; clear R0x)
      | (go_at_call 28; refine (K1.out _ H0.out).mono ?_; rintro e w1 ⟨rfl, b1⟩
         have H1 := Lib.hid (H0.out.trans (b1.mono H0.out.size))
         clear b1 R0 L0))
    all_goals
      go_ret
      exact ⟨ret_bool (by simp), H1.out⟩
  | true =>
    have K4 : Hid (∀ W, Below w.heap.size w W → Calls Tryd.prog 29 #[.agg #[.int .u8 3, .int .u8 x.n, .int .u16 x.l, .int .u32 x.s, .int .u8 x.d, .int .u8 x.a0, .int .u8 x.a1, .int .u8 x.b0, .int .u8 x.b1, .int .u8 x.c0, .int .u8 x.c1, .int .u32 x.fl, .slice A X.length c, .int .u8 x.rc, .string x.rv, .slice B Y.length d, .int .u8 x.vn, .int .u16 x.vl]] W fun e w' => e = .returned (.bool (outB x (X.headD askB.kP0) Y)) ∧ Below W.heap.size W w') := Lib.hid (fun W hw => by
      have hl : 1 ≤ X.length := by
        unfold askB rAll at hA
        simp at hA
        omega
      obtain ⟨p, X', rfl⟩ : ∃ p X', X = p :: X' := by
        cases X with
        | nil => simp at hl
        | cons p X' => exact ⟨p, X', rfl⟩
      obtain ⟨bp, o, rfl, hb, C⟩ := hr.at_ (k := 0) (by omega)
      have C1 : PartAt w bp o p := by simpa using C
      exact chE { x with k := 3 } bp o (p :: X').length c d B p Y W (Nat.lt_of_lt_of_le hb hw.size) (C1.below hw hb) hl hc hm (hs.below (C := w.heap.size) hw (Nat.le_refl _) hw.size) hd hn)
    rw [hA] at K1
    clear hA hr hs hX hc hm hd hn
    generalize outB x (X.headD askB.kP0) Y = ou at *
    go_enter Tryd.func9, Tryd.ntmps9
    go_wp2_with (first
      | (have R0x := R0.out; refine wpList_load_row rfl 36 (.tmp 2) rfl w.heap.size (by rfl) 36 #[.int .u8 3, .int .u8 x.n, .int .u16 x.l, .int .u32 x.s, .int .u8 x.d, .int .u8 x.a0, .int .u8 x.a1, .int .u8 x.b0, .int .u8 x.b1, .int .u8 x.c0, .int .u8 x.c1, .int .u32 x.fl, .slice A X.length c, .int .u8 x.rc, .string x.rv, .slice B Y.length d, .int .u8 x.vn, .int .u16 x.vl] (0, 0) _ R0x Tryd.underlying36 rfl (by kernel_rfl) ?_; clear R0x)
      | (go_at_call 28; refine (K1.out _ H0.out).mono ?_; rintro e w1 ⟨rfl, b1⟩
         have H1 := Lib.hid (H0.out.trans (b1.mono H0.out.size))
         have R1 := Lib.hid ((b1.block _ L0.out).trans R0.out)
         clear b1 R0 L0)
      | (have R1x := R1.out; refine wpList_load_rowG 36 (.tmp 2) rfl (by kernel_rfl) w.heap.size (by rfl) 36 #[.int .u8 3, .int .u8 x.n, .int .u16 x.l, .int .u32 x.s, .int .u8 x.d, .int .u8 x.a0, .int .u8 x.a1, .int .u8 x.b0, .int .u8 x.b1, .int .u8 x.c0, .int .u8 x.c1, .int .u32 x.fl, .slice A X.length c, .int .u8 x.rc, .string x.rv, .slice B Y.length d, .int .u8 x.vn, .int .u16 x.vl] (0, 0) _ R1x Tryd.underlying36 rfl (by kernel_rfl) ?_; clear R1x)
      | (go_at_call 29; refine (K4.out _ H1.out).mono ?_; rintro e w2 ⟨rfl, b2⟩
         have H2 := Lib.hid (H1.out.trans (b2.mono H1.out.size))
         clear b2))
    all_goals
      go_ret
      exact ⟨ret_bool (by simp), H2.out⟩

end Go.Proofs.YtnkimbmnnhnanaaDoor
