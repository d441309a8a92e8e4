/-
  Which entries may be: the program's Right at a Check, by an exact answer. Condition: the lists lie in memory, each number fits its kind.
-/
import Derived.Test.YtnkimbmnnhnanaaDoorErg
namespace Go.Proofs.YtnkimbmnnhnanaaDoor
set_option linter.unusedSimpArgs false
set_option linter.unusedVariables false
open Go.RowKit Go.Sort

set_option maxRecDepth 100000 in
theorem row3 {W : World} {b : Nat} {t : TypeId} {fr : Nat × Nat} {v0 v1 v2 v3 v4 v5 v6 v7 v8 v9 v10 v11 v12 v13 v14 v15 v16 v17 : Value} (h : W.heap[b]? = some (.cells #[v0, v1, v2, v3, v4, v5, v6, v7, v8, v9, v10, v11, v12, v13, v14, v15, v16, v17] t fr)) (p q r : Value) : (((W.setCell ⟨b, 13, none⟩ p).setCell ⟨b, 14, none⟩ q).setCell ⟨b, 15, none⟩ r).heap[b]? = some (.cells #[v0, v1, v2, v3, v4, v5, v6, v7, v8, v9, v10, v11, v12, p, q, r, v16, v17] t fr) := by
  rw [row_set (row_set (row_set h p) q) r]
  rfl
theorem wp_at3 {P : Program} {ops : Array Oper} {rest : List Oper} {a : Act} {Q : Exit → Act → World → Prop} {W : World} {b : Nat} {p q r : Value} (R : World → Prop) (h : R (((W.setCell ⟨b, 13, none⟩ p).setCell ⟨b, 14, none⟩ q).setCell ⟨b, 15, none⟩ r)) (k : ∀ W', R W' → wpList P ops Q rest a W') :
    wpList P ops Q rest a (((W.setCell ⟨b, 13, none⟩ p).setCell ⟨b, 14, none⟩ q).setCell ⟨b, 15, none⟩ r) := k _ h

set_option maxRecDepth 100000 in
set_option maxHeartbeats 1000000 in
theorem right3 (x : E18) (A B : Option Addr) (X : List P5) (Y : List W3) (c d : Nat) (g : Int) (w : World) (hr : RowsP w w.heap.size A X) (hs : RowsW w w.heap.size B Y) (hX : ∀ x ∈ X, x.Rng) (hc : X.length ≤ c) (hm : c ≤ maxLen) (hd : Y.length ≤ d) (hn : d ≤ maxLen) (h0 : 0 ≤ x.d) (h1 : x.d ≤ 255) :
    Calls Tryd.prog 8 #[.agg #[.int .u8 3, .int .u8 x.n, .int .u16 x.l, .int .u32 x.s, .int .u8 x.d, .int .u8 x.a0, .int .u8 x.a1, .int .u8 x.b0, .int .u8 x.b1, .int .u8 x.c0, .int .u8 x.c1, .int .u32 x.fl, .slice A X.length c, .int .u8 x.rc, .string x.rv, .slice B Y.length d, .int .u8 x.vn, .int .u16 x.vl], .int .u8 g] w fun e w' => e = .returned (.bool (rAll X && outB x (X.headD askB.kP0) Y && askB x X g && eqV x E0)) ∧ Below w.heap.size w w' := by
  have H0 : Hid (Below w.heap.size w (w.alloc (.cells #[.int .u8 3, .int .u8 x.n, .int .u16 x.l, .int .u32 x.s, .int .u8 x.d, .int .u8 x.a0, .int .u8 x.a1, .int .u8 x.b0, .int .u8 x.b1, .int .u8 x.c0, .int .u8 x.c1, .int .u32 x.fl, .slice A X.length c, .int .u8 x.rc, .string x.rv, .slice B Y.length d, .int .u8 x.vn, .int .u16 x.vl] 49))) := Lib.hid ((Below.refl _ _).alloc (Nat.le_refl _) _)
  have R0 : Hid ((w.alloc (.cells #[.int .u8 3, .int .u8 x.n, .int .u16 x.l, .int .u32 x.s, .int .u8 x.d, .int .u8 x.a0, .int .u8 x.a1, .int .u8 x.b0, .int .u8 x.b1, .int .u8 x.c0, .int .u8 x.c1, .int .u32 x.fl, .slice A X.length c, .int .u8 x.rc, .string x.rv, .slice B Y.length d, .int .u8 x.vn, .int .u16 x.vl] 49)).heap[w.heap.size]? = some (.cells #[.int .u8 3, .int .u8 x.n, .int .u16 x.l, .int .u32 x.s, .int .u8 x.d, .int .u8 x.a0, .int .u8 x.a1, .int .u8 x.b0, .int .u8 x.b1, .int .u8 x.c0, .int .u8 x.c1, .int .u32 x.fl, .slice A X.length c, .int .u8 x.rc, .string x.rv, .slice B Y.length d, .int .u8 x.vn, .int .u16 x.vl] 49 (0, 0))) := Lib.hid (heap_alloc_new w _)
  have L0 : Hid (w.heap.size < (w.alloc (.cells #[.int .u8 3, .int .u8 x.n, .int .u16 x.l, .int .u32 x.s, .int .u8 x.d, .int .u8 x.a0, .int .u8 x.a1, .int .u8 x.b0, .int .u8 x.b1, .int .u8 x.c0, .int .u8 x.c1, .int .u32 x.fl, .slice A X.length c, .int .u8 x.rc, .string x.rv, .slice B Y.length d, .int .u8 x.vn, .int .u16 x.vl] 49)).heap.size) := Lib.hid (by simp)
  have K0 : Hid (∀ W, Below w.heap.size w W → Calls Tryd.prog 21 #[.slice A X.length c] W fun e w' => e = .returned (.bool (rAll X)) ∧ Below W.heap.size W w') := Lib.hid (fun W hw => rightAll A X c W (hr.below (C := w.heap.size) hw (Nat.le_refl _) hw.size) hX hc hm)
  have K1 : Hid (∀ W, Below w.heap.size w W → Calls Tryd.prog 23 #[.agg #[.int .u8 3, .int .u8 x.n, .int .u16 x.l, .int .u32 x.s, .int .u8 x.d, .int .u8 x.a0, .int .u8 x.a1, .int .u8 x.b0, .int .u8 x.b1, .int .u8 x.c0, .int .u8 x.c1, .int .u32 x.fl, .slice A X.length c, .int .u8 0, .string ByteArray.empty, .slice none 0 0, .int .u8 x.vn, .int .u16 x.vl], .int .u8 g] W fun e w' => e = .returned (.bool (askB x X g)) ∧ Below W.heap.size W w') := Lib.hid (fun W hw =>
    askE { x with k := 3, rc := 0, rv := ByteArray.empty } A (.slice none 0 0) X c g W (hr.below (C := w.heap.size) hw (Nat.le_refl _) hw.size) hX hc hm h0 h1)
  have K2 : Hid (∀ W, Below w.heap.size w W → Calls Tryd.prog 11 #[.agg #[.int .u8 3, .int .u8 x.n, .int .u16 x.l, .int .u32 x.s, .int .u8 x.d, .int .u8 x.a0, .int .u8 x.a1, .int .u8 x.b0, .int .u8 x.b1, .int .u8 x.c0, .int .u8 x.c1, .int .u32 x.fl, .slice A X.length c, .int .u8 0, .string ByteArray.empty, .slice none 0 0, .int .u8 x.vn, .int .u16 x.vl], .agg #[.int .u8 3, .int .u8 x.n, .int .u16 x.l, .int .u32 x.s, .int .u8 x.d, .int .u8 x.a0, .int .u8 x.a1, .int .u8 x.b0, .int .u8 x.b1, .int .u8 x.c0, .int .u8 x.c1, .int .u32 x.fl, .slice A X.length c, .int .u8 0, .string ByteArray.empty, .slice none 0 0, .int .u8 0, .int .u16 0]] W fun e w' => e = .returned (.bool (eqV x E0)) ∧ Below W.heap.size W w') := Lib.hid (fun W hw => by
    have := sameN { x with k := 3, rc := 0, rv := ByteArray.empty } { x with k := 3, rc := 0, rv := ByteArray.empty, vn := 0, vl := 0 } A none A X X [] c 0 c W (hr.below (C := w.heap.size) hw (Nat.le_refl _) hw.size) (hr.below (C := w.heap.size) hw (Nat.le_refl _) hw.size) hc hm (Nat.le_refl _) (by unfold maxLen; omega) hc hm
    rw [sN_check] at this
    exact this)
  cases hA : rAll X with
  | false =>
    rw [hA] at K0
    clear hA K1 K2 hr hs hX hc hm hd hn
    go_enter Tryd.func8, Tryd.ntmps8
    go_wp2_with (first
        | (go_at_call 21; refine (K0.out _ H0.out).mono ?_; rintro e w1 ⟨rfl, b1⟩
           have H1 := Lib.hid (H0.out.trans (b1.mono H0.out.size))
           clear b1 R0 L0))
    go_ret
    exact ⟨ret_bool (by simp), H1.out⟩
  | true =>
    have K4 : Hid (∀ W, Below w.heap.size w W → Calls Tryd.prog 22 #[.agg #[.int .u8 3, .int .u8 x.n, .int .u16 x.l, .int .u32 x.s, .int .u8 x.d, .int .u8 x.a0, .int .u8 x.a1, .int .u8 x.b0, .int .u8 x.b1, .int .u8 x.c0, .int .u8 x.c1, .int .u32 x.fl, .slice A X.length c, .int .u8 x.rc, .string x.rv, .slice B Y.length d, .int .u8 x.vn, .int .u16 x.vl]] W fun e w' => e = .returned (.bool (outB x (X.headD askB.kP0) Y)) ∧ Below W.heap.size W w') := Lib.hid (fun W hw => by
      have hl : 1 ≤ X.length := by
        unfold rAll at hA
        simp at hA
        omega
      obtain ⟨p, X', rfl⟩ : ∃ p X', X = p :: X' := by
        cases X with
        | nil => simp at hl
        | cons p X' => exact ⟨p, X', rfl⟩
      obtain ⟨bp, o, rfl, hb, C⟩ := hr.at_ (k := 0) (by omega)
      have C1 : PartAt w bp o p := by simpa using C
      exact outE { x with k := 3 } bp o (p :: X').length c d B p Y W (Nat.lt_of_lt_of_le hb hw.size) (C1.below hw hb) hl hc hm (hs.below (C := w.heap.size) hw (Nat.le_refl _) hw.size) hd hn)
    rw [hA] at K0
    clear hA hr hs hX hc hm hd hn
    generalize outB x (X.headD askB.kP0) Y = ou at *
    cases ou with
    | false =>
      clear K1 K2
      go_enter Tryd.func8, Tryd.ntmps8
      go_wp2_with (first
          | (go_at_call 21; refine (K0.out _ H0.out).mono ?_; rintro e w1 ⟨rfl, b1⟩
             have H1 := Lib.hid (H0.out.trans (b1.mono H0.out.size))
             have R1 := Lib.hid ((b1.block _ L0.out).trans R0.out)
             have L1 : Hid (w.heap.size < w1.heap.size) := Lib.hid (Nat.lt_of_lt_of_le L0.out b1.size)
             clear b1 R0 L0)
          | (have R1x := R1.out; refine wpList_load_rowG 49 (.tmp 2) rfl (by kernel_rfl) w.heap.size (by rfl) 49 #[.int .u8 3, .int .u8 x.n, .int .u16 x.l, .int .u32 x.s, .int .u8 x.d, .int .u8 x.a0, .int .u8 x.a1, .int .u8 x.b0, .int .u8 x.b1, .int .u8 x.c0, .int .u8 x.c1, .int .u32 x.fl, .slice A X.length c, .int .u8 x.rc, .string x.rv, .slice B Y.length d, .int .u8 x.vn, .int .u16 x.vl] (0, 0) _ R1x Tryd.underlying49 rfl (by kernel_rfl) ?_; clear R1x)
          | (go_at_call 22; refine (K4.out _ H1.out).mono ?_; rintro e w2 ⟨rfl, b2⟩
             have H2 := Lib.hid (H1.out.trans (b2.mono H1.out.size))
             have R2 := Lib.hid ((b2.block _ L1.out).trans R1.out)
             have L2 : Hid (w.heap.size < w2.heap.size) := Lib.hid (Nat.lt_of_lt_of_le L1.out b2.size)
             have e13 : w2.cell? ⟨w.heap.size, 13, none⟩ = some (.int .u8 x.rc) := (cell_of_row _ _ 13 _ _ _ R2.out).trans rfl
             have e14 : w2.cell? ⟨w.heap.size, 14, none⟩ = some (.string x.rv) := (cell_of_row _ _ 14 _ _ _ R2.out).trans rfl
             have e15 : w2.cell? ⟨w.heap.size, 15, none⟩ = some (.slice B Y.length d) := (cell_of_row _ _ 15 _ _ _ R2.out).trans rfl
             have z13 := frz_row 13 R2.out
             have z14 := frz_row 14 R2.out
             have z15 := frz_row 15 R2.out
             clear b2 R1 L1))
      go_ret
      exact ⟨ret_bool (by simp), H2.out⟩
    | true =>
      cases hB : askB x X g with
      | false =>
        rw [hB] at K1
        clear hB K2
        go_enter Tryd.func8, Tryd.ntmps8
        go_wp2_with (first
          | (go_at_call 21; refine (K0.out _ H0.out).mono ?_; rintro e w1 ⟨rfl, b1⟩
             have H1 := Lib.hid (H0.out.trans (b1.mono H0.out.size))
             have R1 := Lib.hid ((b1.block _ L0.out).trans R0.out)
             have L1 : Hid (w.heap.size < w1.heap.size) := Lib.hid (Nat.lt_of_lt_of_le L0.out b1.size)
             clear b1 R0 L0)
          | (have R1x := R1.out; refine wpList_load_rowG 49 (.tmp 2) rfl (by kernel_rfl) w.heap.size (by rfl) 49 #[.int .u8 3, .int .u8 x.n, .int .u16 x.l, .int .u32 x.s, .int .u8 x.d, .int .u8 x.a0, .int .u8 x.a1, .int .u8 x.b0, .int .u8 x.b1, .int .u8 x.c0, .int .u8 x.c1, .int .u32 x.fl, .slice A X.length c, .int .u8 x.rc, .string x.rv, .slice B Y.length d, .int .u8 x.vn, .int .u16 x.vl] (0, 0) _ R1x Tryd.underlying49 rfl (by kernel_rfl) ?_; clear R1x)
          | (go_at_call 22; refine (K4.out _ H1.out).mono ?_; rintro e w2 ⟨rfl, b2⟩
             have H2 := Lib.hid (H1.out.trans (b2.mono H1.out.size))
             have R2 := Lib.hid ((b2.block _ L1.out).trans R1.out)
             have L2 : Hid (w.heap.size < w2.heap.size) := Lib.hid (Nat.lt_of_lt_of_le L1.out b2.size)
             have e13 : w2.cell? ⟨w.heap.size, 13, none⟩ = some (.int .u8 x.rc) := (cell_of_row _ _ 13 _ _ _ R2.out).trans rfl
             have e14 : w2.cell? ⟨w.heap.size, 14, none⟩ = some (.string x.rv) := (cell_of_row _ _ 14 _ _ _ R2.out).trans rfl
             have e15 : w2.cell? ⟨w.heap.size, 15, none⟩ = some (.slice B Y.length d) := (cell_of_row _ _ 15 _ _ _ R2.out).trans rfl
             have z13 := frz_row 13 R2.out
             have z14 := frz_row 14 R2.out
             have z15 := frz_row 15 R2.out
             clear b2 R1 L1)
          | (with_reducible refine wp_at3 (fun W => Below w.heap.size w W ∧ W.heap[w.heap.size]? = some (.cells #[.int .u8 3, .int .u8 x.n, .int .u16 x.l, .int .u32 x.s, .int .u8 x.d, .int .u8 x.a0, .int .u8 x.a1, .int .u8 x.b0, .int .u8 x.b1, .int .u8 x.c0, .int .u8 x.c1, .int .u32 x.fl, .slice A X.length c, .int .u8 0, .string ByteArray.empty, .slice none 0 0, .int .u8 x.vn, .int .u16 x.vl] 49 (0, 0)) ∧ w.heap.size < W.heap.size) ?_ ?_; exact ⟨((H2.out.setCell (Nat.le_refl _) _).setCell (Nat.le_refl _) _).setCell (Nat.le_refl _) _, row3 R2.out _ _ _, by simpa using L2.out⟩; clear e13 e14 e15 z13 z14 z15; rintro w3 ⟨h3a, h3b, h3c⟩; have H3 := Lib.hid h3a; have R3 := Lib.hid h3b; have L3 := Lib.hid h3c; clear h3a h3b h3c R2 L2)
          | (have R3x := R3.out; refine wpList_load_row rfl 49 (.tmp 2) rfl w.heap.size (by rfl) 49 #[.int .u8 3, .int .u8 x.n, .int .u16 x.l, .int .u32 x.s, .int .u8 x.d, .int .u8 x.a0, .int .u8 x.a1, .int .u8 x.b0, .int .u8 x.b1, .int .u8 x.c0, .int .u8 x.c1, .int .u32 x.fl, .slice A X.length c, .int .u8 0, .string ByteArray.empty, .slice none 0 0, .int .u8 x.vn, .int .u16 x.vl] (0, 0) _ R3x Tryd.underlying49 rfl (by kernel_rfl) ?_; clear R3x)
          | (go_at_call 23; refine (K1.out _ H3.out).mono ?_; rintro e w4 ⟨rfl, b4⟩
             have H4 := Lib.hid (H3.out.trans (b4.mono H3.out.size))
             clear b4 R3))
        go_ret
        exact ⟨ret_bool (by simp), H4.out⟩
      | true =>
        rw [hB] at K1
        clear hB
        go_enter Tryd.func8, Tryd.ntmps8
        go_wp2_with (first
          | (go_at_call 21; refine (K0.out _ H0.out).mono ?_; rintro e w1 ⟨rfl, b1⟩
             have H1 := Lib.hid (H0.out.trans (b1.mono H0.out.size))
             have R1 := Lib.hid ((b1.block _ L0.out).trans R0.out)
             have L1 : Hid (w.heap.size < w1.heap.size) := Lib.hid (Nat.lt_of_lt_of_le L0.out b1.size)
             clear b1 R0 L0)
          | (have R1x := R1.out; refine wpList_load_rowG 49 (.tmp 2) rfl (by kernel_rfl) w.heap.size (by rfl) 49 #[.int .u8 3, .int .u8 x.n, .int .u16 x.l, .int .u32 x.s, .int .u8 x.d, .int .u8 x.a0, .int .u8 x.a1, .int .u8 x.b0, .int .u8 x.b1, .int .u8 x.c0, .int .u8 x.c1, .int .u32 x.fl, .slice A X.length c, .int .u8 x.rc, .string x.rv, .slice B Y.length d, .int .u8 x.vn, .int .u16 x.vl] (0, 0) _ R1x Tryd.underlying49 rfl (by kernel_rfl) ?_; clear R1x)
          | (go_at_call 22; refine (K4.out _ H1.out).mono ?_; rintro e w2 ⟨rfl, b2⟩
             have H2 := Lib.hid (H1.out.trans (b2.mono H1.out.size))
             have R2 := Lib.hid ((b2.block _ L1.out).trans R1.out)
             have L2 : Hid (w.heap.size < w2.heap.size) := Lib.hid (Nat.lt_of_lt_of_le L1.out b2.size)
             have e13 : w2.cell? ⟨w.heap.size, 13, none⟩ = some (.int .u8 x.rc) := (cell_of_row _ _ 13 _ _ _ R2.out).trans rfl
             have e14 : w2.cell? ⟨w.heap.size, 14, none⟩ = some (.string x.rv) := (cell_of_row _ _ 14 _ _ _ R2.out).trans rfl
             have e15 : w2.cell? ⟨w.heap.size, 15, none⟩ = some (.slice B Y.length d) := (cell_of_row _ _ 15 _ _ _ R2.out).trans rfl
             have z13 := frz_row 13 R2.out
             have z14 := frz_row 14 R2.out
             have z15 := frz_row 15 R2.out
             clear b2 R1 L1)
          | (with_reducible refine wp_at3 (fun W => Below w.heap.size w W ∧ W.heap[w.heap.size]? = some (.cells #[.int .u8 3, .int .u8 x.n, .int .u16 x.l, .int .u32 x.s, .int .u8 x.d, .int .u8 x.a0, .int .u8 x.a1, .int .u8 x.b0, .int .u8 x.b1, .int .u8 x.c0, .int .u8 x.c1, .int .u32 x.fl, .slice A X.length c, .int .u8 0, .string ByteArray.empty, .slice none 0 0, .int .u8 x.vn, .int .u16 x.vl] 49 (0, 0)) ∧ w.heap.size < W.heap.size) ?_ ?_; exact ⟨((H2.out.setCell (Nat.le_refl _) _).setCell (Nat.le_refl _) _).setCell (Nat.le_refl _) _, row3 R2.out _ _ _, by simpa using L2.out⟩; clear e13 e14 e15 z13 z14 z15; rintro w3 ⟨h3a, h3b, h3c⟩; have H3 := Lib.hid h3a; have R3 := Lib.hid h3b; have L3 := Lib.hid h3c; clear h3a h3b h3c R2 L2)
          | (have R3x := R3.out; refine wpList_load_row rfl 49 (.tmp 2) rfl w.heap.size (by rfl) 49 #[.int .u8 3, .int .u8 x.n, .int .u16 x.l, .int .u32 x.s, .int .u8 x.d, .int .u8 x.a0, .int .u8 x.a1, .int .u8 x.b0, .int .u8 x.b1, .int .u8 x.c0, .int .u8 x.c1, .int .u32 x.fl, .slice A X.length c, .int .u8 0, .string ByteArray.empty, .slice none 0 0, .int .u8 x.vn, .int .u16 x.vl] (0, 0) _ R3x Tryd.underlying49 rfl (by kernel_rfl) ?_; clear R3x)
          | (go_at_call 23; refine (K1.out _ H3.out).mono ?_; rintro e w4 ⟨rfl, b4⟩
             have H4 := Lib.hid (H3.out.trans (b4.mono H3.out.size))
             have R4 := Lib.hid ((b4.block _ L3.out).trans R3.out)
             have e0 : w4.cell? ⟨w.heap.size, 0, none⟩ = some (.int .u8 3) := (cell_of_row _ _ 0 _ _ _ R4.out).trans rfl
             have e1 : w4.cell? ⟨w.heap.size, 1, none⟩ = some (.int .u8 x.n) := (cell_of_row _ _ 1 _ _ _ R4.out).trans rfl
             have e2 : w4.cell? ⟨w.heap.size, 2, none⟩ = some (.int .u16 x.l) := (cell_of_row _ _ 2 _ _ _ R4.out).trans rfl
             have e3 : w4.cell? ⟨w.heap.size, 3, none⟩ = some (.int .u32 x.s) := (cell_of_row _ _ 3 _ _ _ R4.out).trans rfl
             have e4 : w4.cell? ⟨w.heap.size, 4, none⟩ = some (.int .u8 x.d) := (cell_of_row _ _ 4 _ _ _ R4.out).trans rfl
             have e5 : w4.cell? ⟨w.heap.size, 5, none⟩ = some (.int .u8 x.a0) := (cell_of_row _ _ 5 _ _ _ R4.out).trans rfl
             have e6 : w4.cell? ⟨w.heap.size, 6, none⟩ = some (.int .u8 x.a1) := (cell_of_row _ _ 6 _ _ _ R4.out).trans rfl
             have e7 : w4.cell? ⟨w.heap.size, 7, none⟩ = some (.int .u8 x.b0) := (cell_of_row _ _ 7 _ _ _ R4.out).trans rfl
             have e8 : w4.cell? ⟨w.heap.size, 8, none⟩ = some (.int .u8 x.b1) := (cell_of_row _ _ 8 _ _ _ R4.out).trans rfl
             have e9 : w4.cell? ⟨w.heap.size, 9, none⟩ = some (.int .u8 x.c0) := (cell_of_row _ _ 9 _ _ _ R4.out).trans rfl
             have e10 : w4.cell? ⟨w.heap.size, 10, none⟩ = some (.int .u8 x.c1) := (cell_of_row _ _ 10 _ _ _ R4.out).trans rfl
             have e11 : w4.cell? ⟨w.heap.size, 11, none⟩ = some (.int .u32 x.fl) := (cell_of_row _ _ 11 _ _ _ R4.out).trans rfl
             have e12 : w4.cell? ⟨w.heap.size, 12, none⟩ = some (.slice A X.length c) := (cell_of_row _ _ 12 _ _ _ R4.out).trans rfl
             clear b4 R3 L3)
          | (have R4x := R4.out; refine wpList_load_rowG 49 (.tmp 2) rfl (by kernel_rfl) w.heap.size (by rfl) 49 #[.int .u8 3, .int .u8 x.n, .int .u16 x.l, .int .u32 x.s, .int .u8 x.d, .int .u8 x.a0, .int .u8 x.a1, .int .u8 x.b0, .int .u8 x.b1, .int .u8 x.c0, .int .u8 x.c1, .int .u32 x.fl, .slice A X.length c, .int .u8 0, .string ByteArray.empty, .slice none 0 0, .int .u8 x.vn, .int .u16 x.vl] (0, 0) _ R4x Tryd.underlying49 rfl (by kernel_rfl) ?_; clear R4x)
          | (refine wpList_buildG 49 #[(0, .tmp 33), (1, .tmp 35), (2, .tmp 37), (3, .tmp 39)] rfl (by kernel_rfl) #[.int .u8 3, .int .u8 x.n, .int .u16 x.l, .int .u32 x.s, .int .u8 x.d, .int .u8 x.a0, .int .u8 x.a1, .int .u8 x.b0, .int .u8 x.b1, .int .u8 x.c0, .int .u8 x.c1, .int .u32 x.fl, .slice A X.length c, .int .u8 0, .string ByteArray.empty, .slice none 0 0, .int .u8 0, .int .u16 0] (by kernel_rfl) ?_; clear e0 e1 e2 e3 e4 e5 e6 e7 e8 e9 e10 e11 e12)
          | (go_at_call 11; refine (K2.out _ H4.out).mono ?_; rintro e w5 ⟨rfl, b5⟩
             have H5 := Lib.hid (H4.out.trans (b5.mono H4.out.size))
             clear b5))
        go_ret
        exact ⟨ret_bool (by simp), H5.out⟩

end Go.Proofs.YtnkimbmnnhnanaaDoor
