/-
  May a group be asked for such a call: the program's askedRight and the document's call, by exact answers. Condition: the lists lie in memory, each number fits its kind.
-/
import Derived.Test.YtnkimbmnnhnanaaDoorErd
import Derived.IntWalk
namespace Go.Proofs.YtnkimbmnnhnanaaDoor
set_option linter.unusedSimpArgs false
set_option linter.unusedVariables false
open Go.RowKit Go.Sort

set_option maxRecDepth 100000 in
set_option maxHeartbeats 1000000 in
theorem askE (x : E18) (A : Option Addr) (Q : Value) (X : List P5) (c : Nat) (g : Int) (w : World) (hr : RowsP w w.heap.size A X) (hX : ∀ x ∈ X, x.Rng) (hc : X.length ≤ c) (hm : c ≤ maxLen) (hd : 0 ≤ x.d) (hd2 : x.d ≤ 255) :
    Calls Tryd.prog 23 #[.agg #[.int .u8 x.k, .int .u8 x.n, .int .u16 x.l, .int .u32 x.s, .int .u8 x.d, .int .u8 x.a0, .int .u8 x.a1, .int .u8 x.b0, .int .u8 x.b1, .int .u8 x.c0, .int .u8 x.c1, .int .u32 x.fl, .slice A X.length c, .int .u8 x.rc, .string x.rv, Q, .int .u8 x.vn, .int .u16 x.vl], .int .u8 g] w fun e w' => e = .returned (.bool (askB x X g)) ∧ Below w.heap.size w w' := by
  have K1 : Hid (∀ W, Calls Tryd.prog 24 #[.agg #[.int .u8 x.n, .int .u16 x.l, .int .u32 x.s, .int .u8 x.d, .int .u8 x.a0, .int .u8 x.a1, .int .u8 x.b0, .int .u8 x.b1, .int .u8 x.c0, .int .u8 x.c1]] W fun e w' => e = .returned (.bool (I.rI x.n x.l x.s x.d x.a0 x.a1 x.b0 x.b1 x.c0 x.c1)) ∧ Below W.heap.size W w') := Lib.hid (fun W => I.rightID _ _ _ _ _ _ _ _ _ _ W hd)
  have K2 : Hid (∀ W, Below w.heap.size w W → Calls Tryd.prog 21 #[.slice A X.length c] W fun e w' => e = .returned (.bool (rAll X)) ∧ Below W.heap.size W w') := Lib.hid (fun W hw => rightAll A X c W (hr.below (C := w.heap.size) hw (Nat.le_refl _) hw.size) hX hc hm)
  have HR := Lib.hid hr
  have HB : Hid (Below w.heap.size w (w.alloc (.cells #[.int .u8 x.k, .int .u8 x.n, .int .u16 x.l, .int .u32 x.s, .int .u8 x.d, .int .u8 x.a0, .int .u8 x.a1, .int .u8 x.b0, .int .u8 x.b1, .int .u8 x.c0, .int .u8 x.c1, .int .u32 x.fl, .slice A X.length c, .int .u8 x.rc, .string x.rv, Q, .int .u8 x.vn, .int .u16 x.vl] 49))) := Lib.hid ((Below.refl _ _).alloc (Nat.le_refl _) _)
  unfold maxLen at hm
  unfold askB
  cases hI : I.rI x.n x.l x.s x.d x.a0 x.a1 x.b0 x.b1 x.c0 x.c1 with
  | false =>
    rw [hI] at K1
    clear hI hX hr
    go_enter Tryd.func23, Tryd.ntmps23
    go_wp2_with (first
      | (go_at_call 24; refine (K1.out _).mono ?_; rintro e w1 ⟨rfl, b1⟩
         have H1 := Lib.hid (HB.out.trans (b1.mono HB.out.size))
         clear b1))
    go_ret
    exact ⟨ret_bool (by simp), H1.out⟩
  | true =>
    rw [hI] at K1
    clear hI
    cases hA : rAll X with
    | false =>
      rw [hA] at K2
      clear hA hX hr
      go_enter Tryd.func23, Tryd.ntmps23
      go_wp2_with (first
        | (go_at_call 24; refine (K1.out _).mono ?_; rintro e w1 ⟨rfl, b1⟩
           have H1 := Lib.hid (HB.out.trans (b1.mono HB.out.size))
           have R1 := Lib.hid ((b1.block _ (by simp)).trans (heap_alloc_new w _))
           have e12 : w1.cell? ⟨w.heap.size, 12, none⟩ = some (.slice A X.length c) := (cell_of_row _ _ 12 _ _ _ R1.out).trans rfl
           clear b1)
        | (go_at_call 21; refine (K2.out _ H1.out).mono ?_; rintro e w2 ⟨rfl, b2⟩
           have H2 := Lib.hid (H1.out.trans (b2.mono H1.out.size))
           clear b2))
      go_ret
      exact ⟨ret_bool (by simp), H2.out⟩
    | true =>
      rw [hA] at K2
      have hl : 1 ≤ X.length ∧ X.length ≤ 4 := by
        unfold rAll at hA
        simp at hA
        omega
      clear hA
      obtain ⟨p, X', rfl⟩ : ∃ p X', X = p :: X' := by
        cases X with
        | nil => simp at hl
        | cons p X' => exact ⟨p, X', rfl⟩
      obtain ⟨bp, o, rfl, hb, C0⟩ := hr.at_ (k := 0) (by omega)
      have HC : Hid (PartAt w bp o p) := Lib.hid (by simpa using C0)
      have hl1 : (1 : Int) ≤ ((p :: X').length : Int) := by omega
      have hl4 : ((p :: X').length : Int) ≤ 4 := by omega
      have hci : ((p :: X').length : Int) ≤ (c : Int) := by omega
      have hw : IntKind.i64.wrap (x.d + ((p :: X').length : Int)) = x.d + ((p :: X').length : Int) := IntWalk.i64_in _ (by omega)
      clear hr hX C0 hl hc
      have hp : Hid ((p :: X').headD askB.kP0 = p) := Lib.hid rfl
      rw [hp.out]
      generalize hXX : (p :: X').length = nX at *
      skip
      go_enter Tryd.func23, Tryd.ntmps23
      go_wp2_with (first
        | (go_at_call 24; refine (K1.out _).mono ?_; rintro e w1 ⟨rfl, b1⟩
           have H1 := Lib.hid (HB.out.trans (b1.mono HB.out.size))
           have R1 := Lib.hid ((b1.block _ (by simp)).trans (heap_alloc_new w _))
           have L1 : Hid (w.heap.size < w1.heap.size) := Lib.hid (Nat.lt_of_lt_of_le (by simp) b1.size)
           have e12 : w1.cell? ⟨w.heap.size, 12, none⟩ = some (.slice (some ⟨bp, o, none⟩) nX c) := (cell_of_row _ _ 12 _ _ _ R1.out).trans rfl
           clear b1)
        | (go_at_call 21; refine (K2.out _ H1.out).mono ?_; rintro e w2 ⟨rfl, b2⟩
           have H2 := Lib.hid (H1.out.trans (b2.mono H1.out.size))
           have R2 := Lib.hid ((b2.block _ L1.out).trans R1.out)
           clear e12
           have f3 : w2.cell? ⟨w.heap.size, 3, none⟩ = some (.int .u32 x.s) := (cell_of_row _ _ 3 _ _ _ R2.out).trans rfl
           have f4 : w2.cell? ⟨w.heap.size, 4, none⟩ = some (.int .u8 x.d) := (cell_of_row _ _ 4 _ _ _ R2.out).trans rfl
           have f11 : w2.cell? ⟨w.heap.size, 11, none⟩ = some (.int .u32 x.fl) := (cell_of_row _ _ 11 _ _ _ R2.out).trans rfl
           have f12 : w2.cell? ⟨w.heap.size, 12, none⟩ = some (.slice (some ⟨bp, o, none⟩) nX c) := (cell_of_row _ _ 12 _ _ _ R2.out).trans rfl
           have c0 : w2.cell? ⟨bp, o, none⟩ = some (.int .u8 p.g) := (HC.out.below H2.out hb).c0
           clear b2))
      all_goals
        go_ret
        exact ⟨ret_bool (by first | (simp [eqV, E0, *]; done) | (simp [eqV, E0, *]; omega)), H2.out⟩

set_option maxRecDepth 100000 in
set_option maxHeartbeats 1000000 in
theorem callE (x : E18) (A : Option Addr) (Q : Value) (X : List P5) (c : Nat) (g : Int) (w : World) (hr : RowsP w w.heap.size A X) (hX : ∀ x ∈ X, x.Rng) (hc : X.length ≤ c) (hm : c ≤ maxLen) (hd : 0 ≤ x.d) (hd2 : x.d ≤ 255) :
    Calls Tryd.prog 28 #[.agg #[.int .u8 x.k, .int .u8 x.n, .int .u16 x.l, .int .u32 x.s, .int .u8 x.d, .int .u8 x.a0, .int .u8 x.a1, .int .u8 x.b0, .int .u8 x.b1, .int .u8 x.c0, .int .u8 x.c1, .int .u32 x.fl, .slice A X.length c, .int .u8 x.rc, .string x.rv, Q, .int .u8 x.vn, .int .u16 x.vl], .int .u8 g] w fun e w' => e = .returned (.bool (askB x X g && eqV x E0)) ∧ Below w.heap.size w w' := by
  have K1 : Hid (∀ W, Calls Tryd.prog 30 #[.agg #[.int .u8 x.n, .int .u16 x.l, .int .u32 x.s, .int .u8 x.d, .int .u8 x.a0, .int .u8 x.a1, .int .u8 x.b0, .int .u8 x.b1, .int .u8 x.c0, .int .u8 x.c1]] W fun e w' => e = .returned (.bool (I.rI x.n x.l x.s x.d x.a0 x.a1 x.b0 x.b1 x.c0 x.c1)) ∧ Below W.heap.size W w') := Lib.hid (fun W => I.refRight _ _ _ _ _ _ _ _ _ _ W hd)
  have K2 : Hid (∀ W, Below w.heap.size w W → Calls Tryd.prog 52 #[.slice A X.length c] W fun e w' => e = .returned (.bool (rAll X)) ∧ Below W.heap.size W w') := Lib.hid (fun W hw => refRightAll A X c W (hr.below (C := w.heap.size) hw (Nat.le_refl _) hw.size) hX hc hm)
  have HR := Lib.hid hr
  have HB : Hid (Below w.heap.size w (w.alloc (.cells #[.int .u8 x.k, .int .u8 x.n, .int .u16 x.l, .int .u32 x.s, .int .u8 x.d, .int .u8 x.a0, .int .u8 x.a1, .int .u8 x.b0, .int .u8 x.b1, .int .u8 x.c0, .int .u8 x.c1, .int .u32 x.fl, .slice A X.length c, .int .u8 x.rc, .string x.rv, Q, .int .u8 x.vn, .int .u16 x.vl] 36))) := Lib.hid ((Below.refl _ _).alloc (Nat.le_refl _) _)
  unfold maxLen at hm
  unfold askB
  cases hI : I.rI x.n x.l x.s x.d x.a0 x.a1 x.b0 x.b1 x.c0 x.c1 with
  | false =>
    rw [hI] at K1
    clear hI hX hr
    go_enter Tryd.func28, Tryd.ntmps28
    go_wp2_with (first
      | (go_at_call 30; refine (K1.out _).mono ?_; rintro e w1 ⟨rfl, b1⟩
         have H1 := Lib.hid (HB.out.trans (b1.mono HB.out.size))
         clear b1))
    go_ret
    exact ⟨ret_bool (by simp), H1.out⟩
  | true =>
    rw [hI] at K1
    clear hI
    cases hA : rAll X with
    | false =>
      rw [hA] at K2
      clear hA hX hr
      go_enter Tryd.func28, Tryd.ntmps28
      go_wp2_with (first
        | (go_at_call 30; refine (K1.out _).mono ?_; rintro e w1 ⟨rfl, b1⟩
           have H1 := Lib.hid (HB.out.trans (b1.mono HB.out.size))
           have R1 := Lib.hid ((b1.block _ (by simp)).trans (heap_alloc_new w _))
           have e12 : w1.cell? ⟨w.heap.size, 12, none⟩ = some (.slice A X.length c) := (cell_of_row _ _ 12 _ _ _ R1.out).trans rfl
           clear b1)
        | (go_at_call 52; refine (K2.out _ H1.out).mono ?_; rintro e w2 ⟨rfl, b2⟩
           have H2 := Lib.hid (H1.out.trans (b2.mono H1.out.size))
           clear b2))
      go_ret
      exact ⟨ret_bool (by simp), H2.out⟩
    | true =>
      rw [hA] at K2
      have hl : 1 ≤ X.length ∧ X.length ≤ 4 := by
        unfold rAll at hA
        simp at hA
        omega
      clear hA
      obtain ⟨p, X', rfl⟩ : ∃ p X', X = p :: X' := by
        cases X with
        | nil => simp at hl
        | cons p X' => exact ⟨p, X', rfl⟩
      obtain ⟨bp, o, rfl, hb, C0⟩ := hr.at_ (k := 0) (by omega)
      have HC : Hid (PartAt w bp o p) := Lib.hid (by simpa using C0)
      have hl1 : (1 : Int) ≤ ((p :: X').length : Int) := by omega
      have hl4 : ((p :: X').length : Int) ≤ 4 := by omega
      have hci : ((p :: X').length : Int) ≤ (c : Int) := by omega
      have hw : IntKind.i64.wrap (x.d + ((p :: X').length : Int)) = x.d + ((p :: X').length : Int) := IntWalk.i64_in _ (by omega)
      clear hr hX C0 hl hc
      have hp : Hid ((p :: X').headD askB.kP0 = p) := Lib.hid rfl
      rw [hp.out]
      generalize hXX : (p :: X').length = nX at *
      have q3 := eqlRPrg x E0
      go_enter Tryd.func28, Tryd.ntmps28
      go_wp2_with (first
        | (go_at_call 30; refine (K1.out _).mono ?_; rintro e w1 ⟨rfl, b1⟩
           have H1 := Lib.hid (HB.out.trans (b1.mono HB.out.size))
           have R1 := Lib.hid ((b1.block _ (by simp)).trans (heap_alloc_new w _))
           have L1 : Hid (w.heap.size < w1.heap.size) := Lib.hid (Nat.lt_of_lt_of_le (by simp) b1.size)
           have e12 : w1.cell? ⟨w.heap.size, 12, none⟩ = some (.slice (some ⟨bp, o, none⟩) nX c) := (cell_of_row _ _ 12 _ _ _ R1.out).trans rfl
           clear b1)
        | (go_at_call 52; refine (K2.out _ H1.out).mono ?_; rintro e w2 ⟨rfl, b2⟩
           have H2 := Lib.hid (H1.out.trans (b2.mono H1.out.size))
           have R2 := Lib.hid ((b2.block _ L1.out).trans R1.out)
           clear e12
           have f3 : w2.cell? ⟨w.heap.size, 3, none⟩ = some (.int .u32 x.s) := (cell_of_row _ _ 3 _ _ _ R2.out).trans rfl
           have f4 : w2.cell? ⟨w.heap.size, 4, none⟩ = some (.int .u8 x.d) := (cell_of_row _ _ 4 _ _ _ R2.out).trans rfl
           have f11 : w2.cell? ⟨w.heap.size, 11, none⟩ = some (.int .u32 x.fl) := (cell_of_row _ _ 11 _ _ _ R2.out).trans rfl
           have f12 : w2.cell? ⟨w.heap.size, 12, none⟩ = some (.slice (some ⟨bp, o, none⟩) nX c) := (cell_of_row _ _ 12 _ _ _ R2.out).trans rfl
           have f16 : w2.cell? ⟨w.heap.size, 16, none⟩ = some (.int .u8 x.vn) := (cell_of_row _ _ 16 _ _ _ R2.out).trans rfl
           have f17 : w2.cell? ⟨w.heap.size, 17, none⟩ = some (.int .u16 x.vl) := (cell_of_row _ _ 17 _ _ _ R2.out).trans rfl
           have c0 : w2.cell? ⟨bp, o, none⟩ = some (.int .u8 p.g) := (HC.out.below H2.out hb).c0
           clear b2))
      all_goals
        go_ret
        exact ⟨ret_bool (by first | (simp [eqV, E0, *]; done) | (simp [eqV, E0, *]; omega)), H2.out⟩

end Go.Proofs.YtnkimbmnnhnanaaDoor
