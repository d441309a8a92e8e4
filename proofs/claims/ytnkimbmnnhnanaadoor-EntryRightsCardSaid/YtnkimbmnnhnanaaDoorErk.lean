/-
  Which entries may be: the program's Right at a Back and at a Kill, by an exact answer. Condition: the lists lie in memory, each number fits its kind.
-/
import Derived.Test.YtnkimbmnnhnanaaDoorErg
namespace Go.Proofs.YtnkimbmnnhnanaaDoor
set_option linter.unusedSimpArgs false
set_option linter.unusedVariables false
open Go.RowKit Go.Sort

set_option maxRecDepth 100000 in
set_option maxHeartbeats 1000000 in
theorem right1 (x : E18) (A B : Option Addr) (X : List P5) (Y : List W3) (c d : Nat) (g : Int) (w : World) (hr : RowsP w w.heap.size A X) (hs : RowsW w w.heap.size B Y) (hX : ∀ x ∈ X, x.Rng) (hc : X.length ≤ c) (hm : c ≤ maxLen) (hd : Y.length ≤ d) (hn : d ≤ maxLen) (h0 : 0 ≤ x.d) (h1 : x.d ≤ 255) (ha : 0 ≤ x.a0 ∧ x.a0 ≤ 255) (hb : 0 ≤ x.b0 ∧ x.b0 ≤ 255) (hcc : 0 ≤ x.c0 ∧ x.c0 ≤ 255) (hg : 0 ≤ g) (hg2 : g ≤ 255) :
    Calls Tryd.prog 8 #[.agg #[.int .u8 1, .int .u8 x.n, .int .u16 x.l, .int .u32 x.s, .int .u8 x.d, .int .u8 x.a0, .int .u8 x.a1, .int .u8 x.b0, .int .u8 x.b1, .int .u8 x.c0, .int .u8 x.c1, .int .u32 x.fl, .slice A X.length c, .int .u8 x.rc, .string x.rv, .slice B Y.length d, .int .u8 x.vn, .int .u16 x.vl], .int .u8 g] w fun e w' => e = .returned (.bool (I.rI x.n x.l x.s x.d x.a0 x.a1 x.b0 x.b1 x.c0 x.c1 && decide (lastB x = g) && rR x.rc x.rv && decide (x.fl = 0) && decide (X.length = 0) && decide (Y.length = 0) && eqV x E0)) ∧ Below w.heap.size w w' := by
  have H0 : Hid (Below w.heap.size w (w.alloc (.cells #[.int .u8 1, .int .u8 x.n, .int .u16 x.l, .int .u32 x.s, .int .u8 x.d, .int .u8 x.a0, .int .u8 x.a1, .int .u8 x.b0, .int .u8 x.b1, .int .u8 x.c0, .int .u8 x.c1, .int .u32 x.fl, .slice A X.length c, .int .u8 x.rc, .string x.rv, .slice B Y.length d, .int .u8 x.vn, .int .u16 x.vl] 49))) := Lib.hid ((Below.refl _ _).alloc (Nat.le_refl _) _)
  have R0 : Hid ((w.alloc (.cells #[.int .u8 1, .int .u8 x.n, .int .u16 x.l, .int .u32 x.s, .int .u8 x.d, .int .u8 x.a0, .int .u8 x.a1, .int .u8 x.b0, .int .u8 x.b1, .int .u8 x.c0, .int .u8 x.c1, .int .u32 x.fl, .slice A X.length c, .int .u8 x.rc, .string x.rv, .slice B Y.length d, .int .u8 x.vn, .int .u16 x.vl] 49)).heap[w.heap.size]? = some (.cells #[.int .u8 1, .int .u8 x.n, .int .u16 x.l, .int .u32 x.s, .int .u8 x.d, .int .u8 x.a0, .int .u8 x.a1, .int .u8 x.b0, .int .u8 x.b1, .int .u8 x.c0, .int .u8 x.c1, .int .u32 x.fl, .slice A X.length c, .int .u8 x.rc, .string x.rv, .slice B Y.length d, .int .u8 x.vn, .int .u16 x.vl] 49 (0, 0))) := Lib.hid (heap_alloc_new w _)
  have L0 : Hid (w.heap.size < (w.alloc (.cells #[.int .u8 1, .int .u8 x.n, .int .u16 x.l, .int .u32 x.s, .int .u8 x.d, .int .u8 x.a0, .int .u8 x.a1, .int .u8 x.b0, .int .u8 x.b1, .int .u8 x.c0, .int .u8 x.c1, .int .u32 x.fl, .slice A X.length c, .int .u8 x.rc, .string x.rv, .slice B Y.length d, .int .u8 x.vn, .int .u16 x.vl] 49)).heap.size) := Lib.hid (by simp)
  have K1 : Hid (∀ W, Calls Tryd.prog 24 #[.agg #[.int .u8 x.n, .int .u16 x.l, .int .u32 x.s, .int .u8 x.d, .int .u8 x.a0, .int .u8 x.a1, .int .u8 x.b0, .int .u8 x.b1, .int .u8 x.c0, .int .u8 x.c1]] W fun e w' => e = .returned (.bool (I.rI x.n x.l x.s x.d x.a0 x.a1 x.b0 x.b1 x.c0 x.c1)) ∧ Below W.heap.size W w') := Lib.hid (fun W => I.rightID _ _ _ _ _ _ _ _ _ _ W h0)
  have K3 : Hid (∀ W, Calls Tryd.prog 26 #[.agg #[.int .u8 x.rc, .string x.rv]] W fun e w' => e = .returned (.bool (rR x.rc x.rv)) ∧ Below W.heap.size W w') := Lib.hid (fun W => (rightRes _ _ W).mono fun e w' h => ⟨h.1, by rw [← h.2]; exact (Below.refl _ _).alloc (Nat.le_refl _) _⟩)
  have K2 : Hid (∀ W, Below w.heap.size w W → Calls Tryd.prog 11 #[.agg #[.int .u8 1, .int .u8 x.n, .int .u16 x.l, .int .u32 x.s, .int .u8 x.d, .int .u8 x.a0, .int .u8 x.a1, .int .u8 x.b0, .int .u8 x.b1, .int .u8 x.c0, .int .u8 x.c1, .int .u32 x.fl, .slice A X.length c, .int .u8 x.rc, .string x.rv, .slice B Y.length d, .int .u8 x.vn, .int .u16 x.vl], .agg #[.int .u8 1, .int .u8 x.n, .int .u16 x.l, .int .u32 x.s, .int .u8 x.d, .int .u8 x.a0, .int .u8 x.a1, .int .u8 x.b0, .int .u8 x.b1, .int .u8 x.c0, .int .u8 x.c1, .int .u32 0, .slice none 0 0, .int .u8 x.rc, .string x.rv, .slice none 0 0, .int .u8 0, .int .u16 0]] W fun e w' => e = .returned (.bool (decide (x.fl = 0) && decide (X.length = 0) && decide (Y.length = 0) && eqV x E0)) ∧ Below W.heap.size W w') := Lib.hid (fun W hw => by
    have := sameN { x with k := 1 } { x with k := 1, fl := 0, vn := 0, vl := 0 } A B none X [] Y c d 0 W (hr.below (C := w.heap.size) hw (Nat.le_refl _) hw.size) rowsP_nil hc hm hd hn (Nat.le_refl _) (by unfold maxLen; omega)
    rw [sN_back] at this
    exact this)
  clear hr hs hX hc hm hd hn
  cases hI : I.rI x.n x.l x.s x.d x.a0 x.a1 x.b0 x.b1 x.c0 x.c1 with
  | false =>
    rw [hI] at K1
    clear hI K2 K3
    go_enter Tryd.func8, Tryd.ntmps8
    go_wp2_with (go_at_call 24; refine (K1.out _).mono ?_; rintro e w1 ⟨rfl, b1⟩; have H1 := Lib.hid (H0.out.trans (b1.mono H0.out.size)); clear b1)
    go_ret
    exact ⟨ret_bool (by simp), H1.out⟩
  | true =>
    rw [hI] at K1
    have h3 : x.d ≤ 3 := by
      have := hI
      simp only [I.rI, Bool.and_eq_true, decide_eq_true_eq] at this
      exact this.1.1.1.2
    clear hI
    have K4 : Hid (∀ W, Calls Tryd.prog 25 #[.agg #[.int .u8 x.n, .int .u16 x.l, .int .u32 x.s, .int .u8 x.d, .int .u8 x.a0, .int .u8 x.a1, .int .u8 x.b0, .int .u8 x.b1, .int .u8 x.c0, .int .u8 x.c1]] W fun e w' => e = .returned (.int .i64 (lastB x)) ∧ Below W.heap.size W w') := Lib.hid (fun W => lastE x W h0 h3 ha hb hcc)
    clear h3 ha hb hcc
    generalize lastB x = lb at *
    by_cases hG : lb = g
    · subst hG
      cases hR : rR x.rc x.rv with
      | false =>
        rw [hR] at K3
        clear hR
        go_enter Tryd.func8, Tryd.ntmps8
        go_wp2_with (first
          | (go_at_call 24; refine (K1.out _).mono ?_; rintro e w1 ⟨rfl, b1⟩
             have H1 := Lib.hid (H0.out.trans (b1.mono H0.out.size))
             have R1 := Lib.hid ((b1.block _ L0.out).trans R0.out)
             have L1 : Hid (w.heap.size < w1.heap.size) := Lib.hid (Nat.lt_of_lt_of_le L0.out b1.size)
             have e1 : w1.cell? ⟨w.heap.size, 1, none⟩ = some (.int .u8 x.n) := (cell_of_row _ _ 1 _ _ _ R1.out).trans rfl
             have e2 : w1.cell? ⟨w.heap.size, 2, none⟩ = some (.int .u16 x.l) := (cell_of_row _ _ 2 _ _ _ R1.out).trans rfl
             have e3 : w1.cell? ⟨w.heap.size, 3, none⟩ = some (.int .u32 x.s) := (cell_of_row _ _ 3 _ _ _ R1.out).trans rfl
             have e4 : w1.cell? ⟨w.heap.size, 4, none⟩ = some (.int .u8 x.d) := (cell_of_row _ _ 4 _ _ _ R1.out).trans rfl
             have e5 : w1.cell? ⟨w.heap.size, 5, none⟩ = some (.int .u8 x.a0) := (cell_of_row _ _ 5 _ _ _ R1.out).trans rfl
             have e6 : w1.cell? ⟨w.heap.size, 6, none⟩ = some (.int .u8 x.a1) := (cell_of_row _ _ 6 _ _ _ R1.out).trans rfl
             have e7 : w1.cell? ⟨w.heap.size, 7, none⟩ = some (.int .u8 x.b0) := (cell_of_row _ _ 7 _ _ _ R1.out).trans rfl
             have e8 : w1.cell? ⟨w.heap.size, 8, none⟩ = some (.int .u8 x.b1) := (cell_of_row _ _ 8 _ _ _ R1.out).trans rfl
             have e9 : w1.cell? ⟨w.heap.size, 9, none⟩ = some (.int .u8 x.c0) := (cell_of_row _ _ 9 _ _ _ R1.out).trans rfl
             have e10 : w1.cell? ⟨w.heap.size, 10, none⟩ = some (.int .u8 x.c1) := (cell_of_row _ _ 10 _ _ _ R1.out).trans rfl
             clear b1 R0 L0)
          | (go_at_call 25; refine (K4.out _).mono ?_; rintro e w2 ⟨rfl, b2⟩
             have H2 := Lib.hid (H1.out.trans (b2.mono H1.out.size))
             have R2 := Lib.hid ((b2.block _ L1.out).trans R1.out)
             have L2 : Hid (w.heap.size < w2.heap.size) := Lib.hid (Nat.lt_of_lt_of_le L1.out b2.size)
             clear e1 e2 e3 e4 e5 e6 e7 e8 e9 e10
             have e13 : w2.cell? ⟨w.heap.size, 13, none⟩ = some (.int .u8 x.rc) := (cell_of_row _ _ 13 _ _ _ R2.out).trans rfl
             have e14 : w2.cell? ⟨w.heap.size, 14, none⟩ = some (.string x.rv) := (cell_of_row _ _ 14 _ _ _ R2.out).trans rfl
             clear b2 R1 L1)
          | (go_at_call 26; refine (K3.out _).mono ?_; rintro e w3 ⟨rfl, b3⟩
             have H3 := Lib.hid (H2.out.trans (b3.mono H2.out.size))
             have R3 := Lib.hid ((b3.block _ L2.out).trans R2.out)
             clear e13 e14
             have e0 : w3.cell? ⟨w.heap.size, 0, none⟩ = some (.int .u8 1) := (cell_of_row _ _ 0 _ _ _ R3.out).trans rfl
             have e1 : w3.cell? ⟨w.heap.size, 1, none⟩ = some (.int .u8 x.n) := (cell_of_row _ _ 1 _ _ _ R3.out).trans rfl
             have e2 : w3.cell? ⟨w.heap.size, 2, none⟩ = some (.int .u16 x.l) := (cell_of_row _ _ 2 _ _ _ R3.out).trans rfl
             have e3 : w3.cell? ⟨w.heap.size, 3, none⟩ = some (.int .u32 x.s) := (cell_of_row _ _ 3 _ _ _ R3.out).trans rfl
             have e4 : w3.cell? ⟨w.heap.size, 4, none⟩ = some (.int .u8 x.d) := (cell_of_row _ _ 4 _ _ _ R3.out).trans rfl
             have e5 : w3.cell? ⟨w.heap.size, 5, none⟩ = some (.int .u8 x.a0) := (cell_of_row _ _ 5 _ _ _ R3.out).trans rfl
             have e6 : w3.cell? ⟨w.heap.size, 6, none⟩ = some (.int .u8 x.a1) := (cell_of_row _ _ 6 _ _ _ R3.out).trans rfl
             have e7 : w3.cell? ⟨w.heap.size, 7, none⟩ = some (.int .u8 x.b0) := (cell_of_row _ _ 7 _ _ _ R3.out).trans rfl
             have e8 : w3.cell? ⟨w.heap.size, 8, none⟩ = some (.int .u8 x.b1) := (cell_of_row _ _ 8 _ _ _ R3.out).trans rfl
             have e9 : w3.cell? ⟨w.heap.size, 9, none⟩ = some (.int .u8 x.c0) := (cell_of_row _ _ 9 _ _ _ R3.out).trans rfl
             have e10 : w3.cell? ⟨w.heap.size, 10, none⟩ = some (.int .u8 x.c1) := (cell_of_row _ _ 10 _ _ _ R3.out).trans rfl
             have e13 : w3.cell? ⟨w.heap.size, 13, none⟩ = some (.int .u8 x.rc) := (cell_of_row _ _ 13 _ _ _ R3.out).trans rfl
             have e14 : w3.cell? ⟨w.heap.size, 14, none⟩ = some (.string x.rv) := (cell_of_row _ _ 14 _ _ _ R3.out).trans rfl
             clear b3 R2 L2))
        go_ret
        exact ⟨ret_bool (by simp), H3.out⟩
      | true =>
        rw [hR] at K3
        clear hR
        go_enter Tryd.func8, Tryd.ntmps8
        go_wp2_with (first
          | (go_at_call 24; refine (K1.out _).mono ?_; rintro e w1 ⟨rfl, b1⟩
             have H1 := Lib.hid (H0.out.trans (b1.mono H0.out.size))
             have R1 := Lib.hid ((b1.block _ L0.out).trans R0.out)
             have L1 : Hid (w.heap.size < w1.heap.size) := Lib.hid (Nat.lt_of_lt_of_le L0.out b1.size)
             have e1 : w1.cell? ⟨w.heap.size, 1, none⟩ = some (.int .u8 x.n) := (cell_of_row _ _ 1 _ _ _ R1.out).trans rfl
             have e2 : w1.cell? ⟨w.heap.size, 2, none⟩ = some (.int .u16 x.l) := (cell_of_row _ _ 2 _ _ _ R1.out).trans rfl
             have e3 : w1.cell? ⟨w.heap.size, 3, none⟩ = some (.int .u32 x.s) := (cell_of_row _ _ 3 _ _ _ R1.out).trans rfl
             have e4 : w1.cell? ⟨w.heap.size, 4, none⟩ = some (.int .u8 x.d) := (cell_of_row _ _ 4 _ _ _ R1.out).trans rfl
             have e5 : w1.cell? ⟨w.heap.size, 5, none⟩ = some (.int .u8 x.a0) := (cell_of_row _ _ 5 _ _ _ R1.out).trans rfl
             have e6 : w1.cell? ⟨w.heap.size, 6, none⟩ = some (.int .u8 x.a1) := (cell_of_row _ _ 6 _ _ _ R1.out).trans rfl
             have e7 : w1.cell? ⟨w.heap.size, 7, none⟩ = some (.int .u8 x.b0) := (cell_of_row _ _ 7 _ _ _ R1.out).trans rfl
             have e8 : w1.cell? ⟨w.heap.size, 8, none⟩ = some (.int .u8 x.b1) := (cell_of_row _ _ 8 _ _ _ R1.out).trans rfl
             have e9 : w1.cell? ⟨w.heap.size, 9, none⟩ = some (.int .u8 x.c0) := (cell_of_row _ _ 9 _ _ _ R1.out).trans rfl
             have e10 : w1.cell? ⟨w.heap.size, 10, none⟩ = some (.int .u8 x.c1) := (cell_of_row _ _ 10 _ _ _ R1.out).trans rfl
             clear b1 R0 L0)
          | (go_at_call 25; refine (K4.out _).mono ?_; rintro e w2 ⟨rfl, b2⟩
             have H2 := Lib.hid (H1.out.trans (b2.mono H1.out.size))
             have R2 := Lib.hid ((b2.block _ L1.out).trans R1.out)
             have L2 : Hid (w.heap.size < w2.heap.size) := Lib.hid (Nat.lt_of_lt_of_le L1.out b2.size)
             clear e1 e2 e3 e4 e5 e6 e7 e8 e9 e10
             have e13 : w2.cell? ⟨w.heap.size, 13, none⟩ = some (.int .u8 x.rc) := (cell_of_row _ _ 13 _ _ _ R2.out).trans rfl
             have e14 : w2.cell? ⟨w.heap.size, 14, none⟩ = some (.string x.rv) := (cell_of_row _ _ 14 _ _ _ R2.out).trans rfl
             clear b2 R1 L1)
          | (go_at_call 26; refine (K3.out _).mono ?_; rintro e w3 ⟨rfl, b3⟩
             have H3 := Lib.hid (H2.out.trans (b3.mono H2.out.size))
             have R3 := Lib.hid ((b3.block _ L2.out).trans R2.out)
             clear e13 e14
             have e0 : w3.cell? ⟨w.heap.size, 0, none⟩ = some (.int .u8 1) := (cell_of_row _ _ 0 _ _ _ R3.out).trans rfl
             have e1 : w3.cell? ⟨w.heap.size, 1, none⟩ = some (.int .u8 x.n) := (cell_of_row _ _ 1 _ _ _ R3.out).trans rfl
             have e2 : w3.cell? ⟨w.heap.size, 2, none⟩ = some (.int .u16 x.l) := (cell_of_row _ _ 2 _ _ _ R3.out).trans rfl
             have e3 : w3.cell? ⟨w.heap.size, 3, none⟩ = some (.int .u32 x.s) := (cell_of_row _ _ 3 _ _ _ R3.out).trans rfl
             have e4 : w3.cell? ⟨w.heap.size, 4, none⟩ = some (.int .u8 x.d) := (cell_of_row _ _ 4 _ _ _ R3.out).trans rfl
             have e5 : w3.cell? ⟨w.heap.size, 5, none⟩ = some (.int .u8 x.a0) := (cell_of_row _ _ 5 _ _ _ R3.out).trans rfl
             have e6 : w3.cell? ⟨w.heap.size, 6, none⟩ = some (.int .u8 x.a1) := (cell_of_row _ _ 6 _ _ _ R3.out).trans rfl
             have e7 : w3.cell? ⟨w.heap.size, 7, none⟩ = some (.int .u8 x.b0) := (cell_of_row _ _ 7 _ _ _ R3.out).trans rfl
             have e8 : w3.cell? ⟨w.heap.size, 8, none⟩ = some (.int .u8 x.b1) := (cell_of_row _ _ 8 _ _ _ R3.out).trans rfl
             have e9 : w3.cell? ⟨w.heap.size, 9, none⟩ = some (.int .u8 x.c0) := (cell_of_row _ _ 9 _ _ _ R3.out).trans rfl
             have e10 : w3.cell? ⟨w.heap.size, 10, none⟩ = some (.int .u8 x.c1) := (cell_of_row _ _ 10 _ _ _ R3.out).trans rfl
             have e13 : w3.cell? ⟨w.heap.size, 13, none⟩ = some (.int .u8 x.rc) := (cell_of_row _ _ 13 _ _ _ R3.out).trans rfl
             have e14 : w3.cell? ⟨w.heap.size, 14, none⟩ = some (.string x.rv) := (cell_of_row _ _ 14 _ _ _ R3.out).trans rfl
             clear b3 R2 L2)
          | (have R3x := R3.out; refine wpList_load_rowG 49 (.tmp 2) rfl (by kernel_rfl) w.heap.size (by rfl) 49 #[.int .u8 1, .int .u8 x.n, .int .u16 x.l, .int .u32 x.s, .int .u8 x.d, .int .u8 x.a0, .int .u8 x.a1, .int .u8 x.b0, .int .u8 x.b1, .int .u8 x.c0, .int .u8 x.c1, .int .u32 x.fl, .slice A X.length c, .int .u8 x.rc, .string x.rv, .slice B Y.length d, .int .u8 x.vn, .int .u16 x.vl] (0, 0) _ R3x Tryd.underlying49 rfl (by kernel_rfl) ?_; clear R3x)
          | (refine wpList_buildG 49 #[(0, .tmp 62), (1, .tmp 64), (4, .tmp 66)] rfl (by kernel_rfl) #[.int .u8 1, .int .u8 x.n, .int .u16 x.l, .int .u32 x.s, .int .u8 x.d, .int .u8 x.a0, .int .u8 x.a1, .int .u8 x.b0, .int .u8 x.b1, .int .u8 x.c0, .int .u8 x.c1, .int .u32 0, .slice none 0 0, .int .u8 x.rc, .string x.rv, .slice none 0 0, .int .u8 0, .int .u16 0] (by kernel_rfl) ?_; clear e0 e1 e2 e3 e4 e5 e6 e7 e8 e9 e10 e13 e14)
          | (go_at_call 11; refine (K2.out _ H3.out).mono ?_; rintro e w4 ⟨rfl, b4⟩
             have H4 := Lib.hid (H3.out.trans (b4.mono H3.out.size))
             clear b4))
        go_ret
        exact ⟨ret_bool (by simp), H4.out⟩
    · have hGb : (lb == g) = false := by rw [beq_eq_false_iff_ne]; exact hG
      go_enter Tryd.func8, Tryd.ntmps8
      go_wp2_with (first
          | (go_at_call 24; refine (K1.out _).mono ?_; rintro e w1 ⟨rfl, b1⟩
             have H1 := Lib.hid (H0.out.trans (b1.mono H0.out.size))
             have R1 := Lib.hid ((b1.block _ L0.out).trans R0.out)
             have L1 : Hid (w.heap.size < w1.heap.size) := Lib.hid (Nat.lt_of_lt_of_le L0.out b1.size)
             have e1 : w1.cell? ⟨w.heap.size, 1, none⟩ = some (.int .u8 x.n) := (cell_of_row _ _ 1 _ _ _ R1.out).trans rfl
             have e2 : w1.cell? ⟨w.heap.size, 2, none⟩ = some (.int .u16 x.l) := (cell_of_row _ _ 2 _ _ _ R1.out).trans rfl
             have e3 : w1.cell? ⟨w.heap.size, 3, none⟩ = some (.int .u32 x.s) := (cell_of_row _ _ 3 _ _ _ R1.out).trans rfl
             have e4 : w1.cell? ⟨w.heap.size, 4, none⟩ = some (.int .u8 x.d) := (cell_of_row _ _ 4 _ _ _ R1.out).trans rfl
             have e5 : w1.cell? ⟨w.heap.size, 5, none⟩ = some (.int .u8 x.a0) := (cell_of_row _ _ 5 _ _ _ R1.out).trans rfl
             have e6 : w1.cell? ⟨w.heap.size, 6, none⟩ = some (.int .u8 x.a1) := (cell_of_row _ _ 6 _ _ _ R1.out).trans rfl
             have e7 : w1.cell? ⟨w.heap.size, 7, none⟩ = some (.int .u8 x.b0) := (cell_of_row _ _ 7 _ _ _ R1.out).trans rfl
             have e8 : w1.cell? ⟨w.heap.size, 8, none⟩ = some (.int .u8 x.b1) := (cell_of_row _ _ 8 _ _ _ R1.out).trans rfl
             have e9 : w1.cell? ⟨w.heap.size, 9, none⟩ = some (.int .u8 x.c0) := (cell_of_row _ _ 9 _ _ _ R1.out).trans rfl
             have e10 : w1.cell? ⟨w.heap.size, 10, none⟩ = some (.int .u8 x.c1) := (cell_of_row _ _ 10 _ _ _ R1.out).trans rfl
             clear b1 R0 L0)
          | (go_at_call 25; refine (K4.out _).mono ?_; rintro e w2 ⟨rfl, b2⟩
             have H2 := Lib.hid (H1.out.trans (b2.mono H1.out.size))
             have R2 := Lib.hid ((b2.block _ L1.out).trans R1.out)
             have L2 : Hid (w.heap.size < w2.heap.size) := Lib.hid (Nat.lt_of_lt_of_le L1.out b2.size)
             clear e1 e2 e3 e4 e5 e6 e7 e8 e9 e10
             have e13 : w2.cell? ⟨w.heap.size, 13, none⟩ = some (.int .u8 x.rc) := (cell_of_row _ _ 13 _ _ _ R2.out).trans rfl
             have e14 : w2.cell? ⟨w.heap.size, 14, none⟩ = some (.string x.rv) := (cell_of_row _ _ 14 _ _ _ R2.out).trans rfl
             clear b2 R1 L1))
      go_ret
      exact ⟨ret_bool (by simp [hG]), H2.out⟩

set_option maxRecDepth 100000 in
set_option maxHeartbeats 1000000 in
theorem right2 (x : E18) (A B : Option Addr) (X : List P5) (Y : List W3) (c d : Nat) (g : Int) (w : World) (hr : RowsP w w.heap.size A X) (hs : RowsW w w.heap.size B Y) (hX : ∀ x ∈ X, x.Rng) (hc : X.length ≤ c) (hm : c ≤ maxLen) (hd : Y.length ≤ d) (hn : d ≤ maxLen) :
    Calls Tryd.prog 8 #[.agg #[.int .u8 2, .int .u8 x.n, .int .u16 x.l, .int .u32 x.s, .int .u8 x.d, .int .u8 x.a0, .int .u8 x.a1, .int .u8 x.b0, .int .u8 x.b1, .int .u8 x.c0, .int .u8 x.c1, .int .u32 x.fl, .slice A X.length c, .int .u8 x.rc, .string x.rv, .slice B Y.length d, .int .u8 x.vn, .int .u16 x.vl], .int .u8 g] w fun e w' => e = .returned (.bool (I.rP x.vn x.vl && eqR x E0 && eqI x E0 && decide (x.fl = 0) && decide (X.length = 0) && decide (Y.length = 0))) ∧ Below w.heap.size w w' := by
  have H0 : Hid (Below w.heap.size w (w.alloc (.cells #[.int .u8 2, .int .u8 x.n, .int .u16 x.l, .int .u32 x.s, .int .u8 x.d, .int .u8 x.a0, .int .u8 x.a1, .int .u8 x.b0, .int .u8 x.b1, .int .u8 x.c0, .int .u8 x.c1, .int .u32 x.fl, .slice A X.length c, .int .u8 x.rc, .string x.rv, .slice B Y.length d, .int .u8 x.vn, .int .u16 x.vl] 49))) := Lib.hid ((Below.refl _ _).alloc (Nat.le_refl _) _)
  have R0 : Hid ((w.alloc (.cells #[.int .u8 2, .int .u8 x.n, .int .u16 x.l, .int .u32 x.s, .int .u8 x.d, .int .u8 x.a0, .int .u8 x.a1, .int .u8 x.b0, .int .u8 x.b1, .int .u8 x.c0, .int .u8 x.c1, .int .u32 x.fl, .slice A X.length c, .int .u8 x.rc, .string x.rv, .slice B Y.length d, .int .u8 x.vn, .int .u16 x.vl] 49)).heap[w.heap.size]? = some (.cells #[.int .u8 2, .int .u8 x.n, .int .u16 x.l, .int .u32 x.s, .int .u8 x.d, .int .u8 x.a0, .int .u8 x.a1, .int .u8 x.b0, .int .u8 x.b1, .int .u8 x.c0, .int .u8 x.c1, .int .u32 x.fl, .slice A X.length c, .int .u8 x.rc, .string x.rv, .slice B Y.length d, .int .u8 x.vn, .int .u16 x.vl] 49 (0, 0))) := Lib.hid (heap_alloc_new w _)
  have L0 : Hid (w.heap.size < (w.alloc (.cells #[.int .u8 2, .int .u8 x.n, .int .u16 x.l, .int .u32 x.s, .int .u8 x.d, .int .u8 x.a0, .int .u8 x.a1, .int .u8 x.b0, .int .u8 x.b1, .int .u8 x.c0, .int .u8 x.c1, .int .u32 x.fl, .slice A X.length c, .int .u8 x.rc, .string x.rv, .slice B Y.length d, .int .u8 x.vn, .int .u16 x.vl] 49)).heap.size) := Lib.hid (by simp)
  have K1 : Hid (∀ W, Calls Tryd.prog 27 #[.agg #[.int .u8 x.vn, .int .u16 x.vl]] W fun e w' => e = .returned (.bool (I.rP x.vn x.vl)) ∧ Below W.heap.size W w') := Lib.hid (fun W => (I.rightProc _ _ W).mono fun e w' h => ⟨h.1, by rw [← h.2]; exact (Below.refl _ _).alloc (Nat.le_refl _) _⟩)
  have K2 : Hid (∀ W, Below w.heap.size w W → Calls Tryd.prog 11 #[.agg #[.int .u8 2, .int .u8 x.n, .int .u16 x.l, .int .u32 x.s, .int .u8 x.d, .int .u8 x.a0, .int .u8 x.a1, .int .u8 x.b0, .int .u8 x.b1, .int .u8 x.c0, .int .u8 x.c1, .int .u32 x.fl, .slice A X.length c, .int .u8 x.rc, .string x.rv, .slice B Y.length d, .int .u8 x.vn, .int .u16 x.vl], .agg #[.int .u8 2, .int .u8 0, .int .u16 0, .int .u32 0, .int .u8 0, .int .u8 0, .int .u8 0, .int .u8 0, .int .u8 0, .int .u8 0, .int .u8 0, .int .u32 0, .slice none 0 0, .int .u8 0, .string ByteArray.empty, .slice none 0 0, .int .u8 x.vn, .int .u16 x.vl]] W fun e w' => e = .returned (.bool (eqR x E0 && eqI x E0 && decide (x.fl = 0) && decide (X.length = 0) && decide (Y.length = 0))) ∧ Below W.heap.size W w') := Lib.hid (fun W hw => by
    have := sameN { x with k := 2 } { E0 with k := 2, vn := x.vn, vl := x.vl } A B none X [] Y c d 0 W (hr.below (C := w.heap.size) hw (Nat.le_refl _) hw.size) rowsP_nil hc hm hd hn (Nat.le_refl _) (by unfold maxLen; omega)
    rw [sN_kill] at this
    exact this)
  clear hr hs hX hc hm hd hn
  cases hP : I.rP x.vn x.vl with
  | false =>
    rw [hP] at K1
    clear hP K2
    go_enter Tryd.func8, Tryd.ntmps8
    go_wp2_with (first
        | (go_at_call 27; refine (K1.out _).mono ?_; rintro e w3 ⟨rfl, b3⟩
           have H3 := Lib.hid (H0.out.trans (b3.mono H0.out.size))
           clear b3 R0 L0))
    go_ret
    exact ⟨ret_bool (by simp), H3.out⟩
  | true =>
    rw [hP] at K1
    clear hP
    go_enter Tryd.func8, Tryd.ntmps8
    go_wp2_with (first
        | (go_at_call 27; refine (K1.out _).mono ?_; rintro e w3 ⟨rfl, b3⟩
           have H3 := Lib.hid (H0.out.trans (b3.mono H0.out.size))
           have R3 := Lib.hid ((b3.block _ L0.out).trans R0.out)
           have e0 : w3.cell? ⟨w.heap.size, 0, none⟩ = some (.int .u8 2) := (cell_of_row _ _ 0 _ _ _ R3.out).trans rfl
           have e16 : w3.cell? ⟨w.heap.size, 16, none⟩ = some (.int .u8 x.vn) := (cell_of_row _ _ 16 _ _ _ R3.out).trans rfl
           have e17 : w3.cell? ⟨w.heap.size, 17, none⟩ = some (.int .u16 x.vl) := (cell_of_row _ _ 17 _ _ _ R3.out).trans rfl
           clear b3 R0 L0)
        | (have R3x := R3.out; refine wpList_load_rowG 49 (.tmp 2) rfl (by kernel_rfl) w.heap.size (by rfl) 49 #[.int .u8 2, .int .u8 x.n, .int .u16 x.l, .int .u32 x.s, .int .u8 x.d, .int .u8 x.a0, .int .u8 x.a1, .int .u8 x.b0, .int .u8 x.b1, .int .u8 x.c0, .int .u8 x.c1, .int .u32 x.fl, .slice A X.length c, .int .u8 x.rc, .string x.rv, .slice B Y.length d, .int .u8 x.vn, .int .u16 x.vl] (0, 0) _ R3x Tryd.underlying49 rfl (by kernel_rfl) ?_; clear R3x)
        | (refine wpList_buildG 49 #[(0, .tmp 76), (6, .tmp 78)] rfl (by kernel_rfl) #[.int .u8 2, .int .u8 0, .int .u16 0, .int .u32 0, .int .u8 0, .int .u8 0, .int .u8 0, .int .u8 0, .int .u8 0, .int .u8 0, .int .u8 0, .int .u32 0, .slice none 0 0, .int .u8 0, .string ByteArray.empty, .slice none 0 0, .int .u8 x.vn, .int .u16 x.vl] (by kernel_rfl) ?_; clear e0 e16 e17)
        | (go_at_call 11; refine (K2.out _ H3.out).mono ?_; rintro e w4 ⟨rfl, b4⟩
           have H4 := Lib.hid (H3.out.trans (b4.mono H3.out.size))
           clear b4))
    go_ret
    exact ⟨ret_bool (by simp), H4.out⟩

end Go.Proofs.YtnkimbmnnhnanaaDoor
