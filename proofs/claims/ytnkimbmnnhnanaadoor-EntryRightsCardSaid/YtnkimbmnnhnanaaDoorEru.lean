/-
  Which entries may be: the program's Right and the document's give back the same, by one plain function. Condition: the lists lie in memory, each number fits its kind.
-/
import Derived.Test.YtnkimbmnnhnanaaDoorErk
import Derived.Test.YtnkimbmnnhnanaaDoorErc
import Derived.Test.YtnkimbmnnhnanaaDoorErr
import Derived.Test.YtnkimbmnnhnanaaDoorErb
namespace Go.Proofs.YtnkimbmnnhnanaaDoor
set_option linter.unusedSimpArgs false
set_option linter.unusedVariables false
open Go.RowKit Go.Sort

/-- each number of an entry that is asked for fits its kind. -/
structure E18.Rng (x : E18) : Prop where
  d : 0 ≤ x.d ∧ x.d ≤ 255
  a : 0 ≤ x.a0 ∧ x.a0 ≤ 255
  b : 0 ≤ x.b0 ∧ x.b0 ≤ 255
  c : 0 ≤ x.c0 ∧ x.c0 ≤ 255
theorem two_zero (a b : Nat) : decide (a + b = 0) = (decide (a = 0) && decide (b = 0)) := by
  rw [Bool.eq_iff_iff]
  simp
set_option maxRecDepth 100000 in
set_option maxHeartbeats 1000000 in
theorem rightO (x : E18) (A B : Option Addr) (X : List P5) (Y : List W3) (c d : Nat) (g : Int) (w : World) (k0 : ¬ x.k = 0) (k1 : ¬ x.k = 1) (k2 : ¬ x.k = 2) (k3 : ¬ x.k = 3) :
    Calls Tryd.prog 8 #[.agg #[.int .u8 x.k, .int .u8 x.n, .int .u16 x.l, .int .u32 x.s, .int .u8 x.d, .int .u8 x.a0, .int .u8 x.a1, .int .u8 x.b0, .int .u8 x.b1, .int .u8 x.c0, .int .u8 x.c1, .int .u32 x.fl, .slice A X.length c, .int .u8 x.rc, .string x.rv, .slice B Y.length d, .int .u8 x.vn, .int .u16 x.vl], .int .u8 g] w fun e w' => e = .returned (.bool false) ∧ Below w.heap.size w w' := by
  go_enter Tryd.func8, Tryd.ntmps8
  go_wp2
  go_ret
  exact ⟨rfl, (Below.refl _ _).alloc (Nat.le_refl _) _⟩

set_option maxRecDepth 100000 in
set_option maxHeartbeats 1000000 in
theorem refRO (x : E18) (A B : Option Addr) (X : List P5) (Y : List W3) (c d : Nat) (g : Int) (w : World) (k0 : ¬ x.k = 0) (k1 : ¬ x.k = 1) (k2 : ¬ x.k = 2) (k3 : ¬ x.k = 3) :
    Calls Tryd.prog 9 #[.agg #[.int .u8 x.k, .int .u8 x.n, .int .u16 x.l, .int .u32 x.s, .int .u8 x.d, .int .u8 x.a0, .int .u8 x.a1, .int .u8 x.b0, .int .u8 x.b1, .int .u8 x.c0, .int .u8 x.c1, .int .u32 x.fl, .slice A X.length c, .int .u8 x.rc, .string x.rv, .slice B Y.length d, .int .u8 x.vn, .int .u16 x.vl], .int .u8 g] w fun e w' => e = .returned (.bool false) ∧ Below w.heap.size w w' := by
  have q1 : ∀ W, Sem.run Tryd.prog (binOp .eql 33 (.agg #[.int .u8 x.rc, .string x.rv]) (.agg #[.int .u8 0, .string { data := #[] }])) W = .ok (.bool (eqR x E0)) W := fun W => eqlRResg x E0 W
  have q1' : ∀ W, Sem.run Tryd.prog (binOp .eql 33 (.agg #[.int .u8 x.rc, .string x.rv]) (.agg #[.int .u8 0, .string ByteArray.empty])) W = .ok (.bool (eqR x E0)) W := fun W => eqlRResg x E0 W
  go_enter Tryd.func9, Tryd.ntmps9
  go_wp2
  go_ret
  exact ⟨rfl, (Below.refl _ _).alloc (Nat.le_refl _) _⟩

set_option maxRecDepth 100000 in
set_option maxHeartbeats 1000000 in
theorem refR1_n (x : E18) (A B : Option Addr) (X : List P5) (Y : List W3) (c d : Nat) (g : Int) (w : World) (h0 : 0 ≤ x.d) (hI : I.rI x.n x.l x.s x.d x.a0 x.a1 x.b0 x.b1 x.c0 x.c1 = false) :
    Calls Tryd.prog 9 #[.agg #[.int .u8 1, .int .u8 x.n, .int .u16 x.l, .int .u32 x.s, .int .u8 x.d, .int .u8 x.a0, .int .u8 x.a1, .int .u8 x.b0, .int .u8 x.b1, .int .u8 x.c0, .int .u8 x.c1, .int .u32 x.fl, .slice A X.length c, .int .u8 x.rc, .string x.rv, .slice B Y.length d, .int .u8 x.vn, .int .u16 x.vl], .int .u8 g] w fun e w' => e = .returned (.bool false) ∧ Below w.heap.size w w' := by
  have q1 : ∀ W, Sem.run Tryd.prog (binOp .eql 33 (.agg #[.int .u8 x.rc, .string x.rv]) (.agg #[.int .u8 0, .string { data := #[] }])) W = .ok (.bool (eqR x E0)) W := fun W => eqlRResg x E0 W
  have q1' : ∀ W, Sem.run Tryd.prog (binOp .eql 33 (.agg #[.int .u8 x.rc, .string x.rv]) (.agg #[.int .u8 0, .string ByteArray.empty])) W = .ok (.bool (eqR x E0)) W := fun W => eqlRResg x E0 W
  have K1 : Hid (∀ W, Calls Tryd.prog 30 #[.agg #[.int .u8 x.n, .int .u16 x.l, .int .u32 x.s, .int .u8 x.d, .int .u8 x.a0, .int .u8 x.a1, .int .u8 x.b0, .int .u8 x.b1, .int .u8 x.c0, .int .u8 x.c1]] W fun e w' => e = .returned (.bool false) ∧ Below W.heap.size W w') := Lib.hid (fun W => by
    have := I.refRight x.n x.l x.s x.d x.a0 x.a1 x.b0 x.b1 x.c0 x.c1 W h0
    rw [hI] at this
    exact this)
  clear hI
  go_enter Tryd.func9, Tryd.ntmps9
  go_wp2_with (first
      | (go_at_call 30; refine (K1.out _).mono ?_; rintro e w1 ⟨rfl, b1⟩
         have H1 := Lib.hid ((two_below _ _ _ _ _).trans (b1.mono (two_below _ _ _ _ _).size))
         clear b1))
  all_goals
    go_ret
    exact ⟨rfl, H1.out⟩

theorem rightE (x : E18) (A B : Option Addr) (X : List P5) (Y : List W3) (c d : Nat) (g : Int) (w : World) (hr : RowsP w w.heap.size A X) (hs : RowsW w w.heap.size B Y) (hX : ∀ x ∈ X, x.Rng) (hc : X.length ≤ c) (hm : c ≤ maxLen) (hd : Y.length ≤ d) (hn : d ≤ maxLen) (hx : x.Rng) (hg : 0 ≤ g ∧ g ≤ 255) :
    Calls Tryd.prog 8 #[.agg #[.int .u8 x.k, .int .u8 x.n, .int .u16 x.l, .int .u32 x.s, .int .u8 x.d, .int .u8 x.a0, .int .u8 x.a1, .int .u8 x.b0, .int .u8 x.b1, .int .u8 x.c0, .int .u8 x.c1, .int .u32 x.fl, .slice A X.length c, .int .u8 x.rc, .string x.rv, .slice B Y.length d, .int .u8 x.vn, .int .u16 x.vl], .int .u8 g] w fun e w' => e = .returned (.bool (rE x X Y g)) ∧ Below w.heap.size w w' := by
  by_cases k0 : x.k = 0
  · rw [show rE x X Y g = (askB x X g && eqR x E0 && decide (Y.length = 0) && eqV x E0) by unfold rE; rw [if_pos k0], k0]
    exact right0 x A B X Y c d g w hr hs hX hc hm hd hn hx.d.1 hx.d.2
  by_cases k3 : x.k = 3
  · rw [show rE x X Y g = (rAll X && outB x (X.headD askB.kP0) Y && askB x X g && eqV x E0) by
      unfold rE
      rw [if_neg k0, if_pos k3]
      cases hA : askB x X g with
      | false => simp
      | true =>
        have : rAll X = true := by
          unfold askB at hA
          simp only [Bool.and_eq_true] at hA
          exact hA.1.1.1.2
        rw [this]
        simp [Bool.and_comm], k3]
    exact right3 x A B X Y c d g w hr hs hX hc hm hd hn hx.d.1 hx.d.2
  by_cases k1 : x.k = 1
  · rw [show rE x X Y g = (I.rI x.n x.l x.s x.d x.a0 x.a1 x.b0 x.b1 x.c0 x.c1 && decide (lastB x = g) && rR x.rc x.rv && decide (x.fl = 0) && decide (X.length = 0) && decide (Y.length = 0) && eqV x E0) by unfold rE; rw [if_neg k0, if_neg k3, if_pos k1], k1]
    exact right1 x A B X Y c d g w hr hs hX hc hm hd hn hx.d.1 hx.d.2 hx.a hx.b hx.c hg.1 hg.2
  by_cases k2 : x.k = 2
  · rw [show rE x X Y g = (I.rP x.vn x.vl && eqR x E0 && eqI x E0 && decide (x.fl = 0) && decide (X.length = 0) && decide (Y.length = 0)) by unfold rE; rw [if_neg k0, if_neg k3, if_neg k1, if_pos k2], k2]
    exact right2 x A B X Y c d g w hr hs hX hc hm hd hn
  rw [show rE x X Y g = false by unfold rE; rw [if_neg k0, if_neg k3, if_neg k1, if_neg k2]]
  exact rightO x A B X Y c d g w k0 k1 k2 k3
theorem refRE (x : E18) (A B : Option Addr) (X : List P5) (Y : List W3) (c d : Nat) (g : Int) (w : World) (hr : RowsP w w.heap.size A X) (hs : RowsW w w.heap.size B Y) (hX : ∀ x ∈ X, x.Rng) (hc : X.length ≤ c) (hm : c ≤ maxLen) (hd : Y.length ≤ d) (hn : d ≤ maxLen) (bx : X.length ≤ 140737488355328) (bY : Y.length ≤ 140737488355328) (hx : x.Rng) (hg : 0 ≤ g ∧ g ≤ 255) :
    Calls Tryd.prog 9 #[.agg #[.int .u8 x.k, .int .u8 x.n, .int .u16 x.l, .int .u32 x.s, .int .u8 x.d, .int .u8 x.a0, .int .u8 x.a1, .int .u8 x.b0, .int .u8 x.b1, .int .u8 x.c0, .int .u8 x.c1, .int .u32 x.fl, .slice A X.length c, .int .u8 x.rc, .string x.rv, .slice B Y.length d, .int .u8 x.vn, .int .u16 x.vl], .int .u8 g] w fun e w' => e = .returned (.bool (rE x X Y g)) ∧ Below w.heap.size w w' := by
  by_cases k0 : x.k = 0
  · rw [show rE x X Y g = (askB x X g && eqV x E0 && eqR x E0 && decide (Y.length = 0)) by
      unfold rE
      rw [if_pos k0]
      cases askB x X g <;> cases eqR x E0 <;> cases eqV x E0 <;> simp, k0]
    exact refR0 x A B X Y c d g w hr hs hX hc hm hd hn hx.d.1 hx.d.2
  by_cases k3 : x.k = 3
  · rw [show rE x X Y g = (askB x X g && eqV x E0 && outB x (X.headD askB.kP0) Y) by unfold rE; rw [if_neg k0, if_pos k3], k3]
    exact refR3 x A B X Y c d g w hr hs hX hc hm hd hn hx.d.1 hx.d.2
  by_cases k1 : x.k = 1
  · have e : rE x X Y g = (I.rI x.n x.l x.s x.d x.a0 x.a1 x.b0 x.b1 x.c0 x.c1 && decide (lastB x = g) && rR x.rc x.rv && decide (x.fl = 0) && decide (X.length = 0) && decide (Y.length = 0) && eqV x E0) := by unfold rE; rw [if_neg k0, if_neg k3, if_pos k1]
    rw [e, k1]
    clear e
    cases hI : I.rI x.n x.l x.s x.d x.a0 x.a1 x.b0 x.b1 x.c0 x.c1 with
    | false =>
      simp only [Bool.false_and]
      exact refR1_n x A B X Y c d g w hx.d.1 hI
    | true =>
      have h3 : x.d ≤ 3 := by
        have := hI
        simp only [I.rI, Bool.and_eq_true, decide_eq_true_eq] at this
        exact this.1.1.1.2
      have h0 := hx.d.1
      rcases (show x.d = 0 ∨ x.d = 1 ∨ x.d = 2 ∨ x.d = 3 by omega) with h | h | h | h
      · have e : lastB x = -1 := by simp [lastB, h]
        have hneg : decide ((-1 : Int) = g) = false := by
          have := hg.1
          exact decide_eq_false (by omega)
        rw [e, hneg]
        simp only [Bool.true_and, Bool.false_and]
        rw [h]
        exact refR1_0 x A B X Y c d g w hr hs hX hc hm hd hn bx bY h hI
      · have e : lastB x = x.a0 := by simp [lastB, h]
        rw [e]
        have e2 : (true && decide (x.a0 = g) && rR x.rc x.rv && decide (x.fl = 0) && decide (X.length = 0) && decide (Y.length = 0) && eqV x E0) = (decide (x.a0 = g) && rR x.rc x.rv && decide (x.fl = 0) && decide (X.length + Y.length = 0) && eqV x E0) := by
          rw [two_zero]
          simp only [Bool.true_and, Bool.and_assoc]
        rw [e2, h]
        exact refR1_1 x A B X Y c d g w hr hs hX hc hm hd hn bx bY h hI
      · have e : lastB x = x.b0 := by simp [lastB, h]
        rw [e]
        have e2 : (true && decide (x.b0 = g) && rR x.rc x.rv && decide (x.fl = 0) && decide (X.length = 0) && decide (Y.length = 0) && eqV x E0) = (decide (x.b0 = g) && rR x.rc x.rv && decide (x.fl = 0) && decide (X.length + Y.length = 0) && eqV x E0) := by
          rw [two_zero]
          simp only [Bool.true_and, Bool.and_assoc]
        rw [e2, h]
        exact refR1_2 x A B X Y c d g w hr hs hX hc hm hd hn bx bY h hI
      · have e : lastB x = x.c0 := by simp [lastB, h]
        rw [e]
        have e2 : (true && decide (x.c0 = g) && rR x.rc x.rv && decide (x.fl = 0) && decide (X.length = 0) && decide (Y.length = 0) && eqV x E0) = (decide (x.c0 = g) && rR x.rc x.rv && decide (x.fl = 0) && decide (X.length + Y.length = 0) && eqV x E0) := by
          rw [two_zero]
          simp only [Bool.true_and, Bool.and_assoc]
        rw [e2, h]
        exact refR1_3 x A B X Y c d g w hr hs hX hc hm hd hn bx bY h hI
  by_cases k2 : x.k = 2
  · rw [show rE x X Y g = (I.rP x.vn x.vl && eqR x E0 && eqI x E0 && decide (x.fl = 0) && decide (X.length + Y.length = 0)) by unfold rE; rw [if_neg k0, if_neg k3, if_neg k1, if_pos k2, two_zero]; simp only [Bool.and_assoc], k2]
    exact refR2 x A B X Y c d g w hr hs hX hc hm hd hn bx bY
  rw [show rE x X Y g = false by unfold rE; rw [if_neg k0, if_neg k3, if_neg k1, if_neg k2]]
  exact refRO x A B X Y c d g w k0 k1 k2 k3

end Go.Proofs.YtnkimbmnnhnanaaDoor
