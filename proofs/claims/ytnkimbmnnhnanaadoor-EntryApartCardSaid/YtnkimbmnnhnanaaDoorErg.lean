/-
  Which entries may be: the program's Right at a Call, by an exact answer. Condition: the lists lie in memory, each number fits its kind.
-/
import Derived.Test.YtnkimbmnnhnanaaDoorEsn
import Derived.Test.YtnkimbmnnhnanaaDoorEas
import Derived.Test.YtnkimbmnnhnanaaDoorElg
import Derived.Test.YtnkimbmnnhnanaaDoorEou
import Derived.Laws.Rows
namespace Go.Proofs.YtnkimbmnnhnanaaDoor
set_option linter.unusedSimpArgs false
set_option linter.unusedVariables false
open Go.RowKit Go.Sort

theorem wpList_load_rowG {P : Program} {ops : Array Oper} {rest : List Oper} {o : Oper} {a : Act} {w : World} {Q : Exit → Act → World → Prop} (ty : TypeId) (x : Operand) (ho : o.op = .load ty x) (hw : Region.wanted o (yielded ops a.tmps) = true)
    (g : Nat) (hx : a.eval x = .pointer (some ⟨g, 0, none⟩)) (t : TypeId) (cs : Array Value) (fr : Nat × Nat) (d : TypeDesc) (hg : w.heap[g]? = some (.cells cs t fr))
    (hu : P.underlying ty = some d) (hd : (match d with | .struct _ | .array _ _ => true | _ => false) = true) (hi : (P.info? ty).map (·.size) = some cs.size)
    (h : wpList P ops Q rest (a.put o.dst (.agg cs)) w) : wpList P ops Q (o :: rest) a w :=
  wpList_step fun K hK => by
    rw [if_pos hw]
    exact wp_load_row ty x ho g hx t cs fr d hg hu hd hi (hK _ _ h)
theorem wpList_buildG {P : Program} {ops : Array Oper} {rest : List Oper} {o : Oper} {a : Act} {w : World} {Q : Exit → Act → World → Prop} (t : TypeId) (parts : Array (Nat × Operand)) (ho : o.op = .build t parts) (hw : Region.wanted o (yielded ops a.tmps) = true) (cs : Array Value)
    (hf : P.built t (parts.map fun (i, x) => (i, a.eval x)).toList = some cs)
    (h : wpList P ops Q rest (a.put o.dst (.agg cs)) w) : wpList P ops Q (o :: rest) a w :=
  wpList_step fun K hK => by
    rw [if_pos hw]
    refine wp_build t parts ho (by rw [hf]; rfl) ?_
    rw [hf]
    exact hK _ _ h
theorem rowsP_nil {W : World} {B : Nat} {A : Option Addr} : RowsP W B A [] := fun h => absurd rfl h
theorem sameB_nil (X : List P5) : sameB X [] = decide (X.length = 0) := by
  cases X with
  | nil => rfl
  | cons a l => simp [sameB]
/-- what Same answers where the second one is the first one, but for its result, writes and victim. -/
theorem sN_call (x y : E18) (X : List P5) (Y : List W3) (h : y.k = x.k ∧ y.n = x.n ∧ y.l = x.l ∧ y.s = x.s ∧ y.d = x.d ∧ y.a0 = x.a0 ∧ y.a1 = x.a1 ∧ y.b0 = x.b0 ∧ y.b1 = x.b1 ∧ y.c0 = x.c0 ∧ y.c1 = x.c1 ∧ y.fl = x.fl) :
    sN x y X X Y = (eqR x y && decide (Y.length = 0) && eqV x y) := by
  obtain ⟨h0, h1, h2, h3, h4, h5, h6, h7, h8, h9, h10, h11⟩ := h
  simp [sN, eqI, sameB_refl, *]
theorem sN_back (x : E18) (X : List P5) (Y : List W3) : sN { x with k := 1 } { x with k := 1, fl := 0, vn := 0, vl := 0 } X [] Y = (decide (x.fl = 0) && decide (X.length = 0) && decide (Y.length = 0) && eqV x E0) := by
  by_cases h1 : x.fl = 0 <;> by_cases h2 : X.length = 0 <;> by_cases h3 : Y.length = 0 <;> by_cases h4 : x.vn = 0 <;> by_cases h5 : x.vl = 0 <;> simp_all [sN, eqI, eqR, sameB_nil, eqV, E0]
theorem sN_kill (x : E18) (X : List P5) (Y : List W3) : sN { x with k := 2 } { E0 with k := 2, vn := x.vn, vl := x.vl } X [] Y = (eqR x E0 && eqI x E0 && decide (x.fl = 0) && decide (X.length = 0) && decide (Y.length = 0)) := by
  show (decide ((2 : Int) = 2) && eqI x E0 && decide (x.fl = 0) && sameB X [] && eqR x E0 && decide (Y.length = 0) && (decide (x.vn = x.vn) && decide (x.vl = x.vl))) = _
  rw [sameB_nil]
  cases eqI x E0 <;> cases eqR x E0 <;> simp
theorem sN_check (x : E18) (X : List P5) : sN { x with k := 3, rc := 0, rv := ByteArray.empty } { x with k := 3, rc := 0, rv := ByteArray.empty, vn := 0, vl := 0 } X X [] = eqV x E0 := by
  rw [sN_call { x with k := 3, rc := 0, rv := ByteArray.empty } { x with k := 3, rc := 0, rv := ByteArray.empty, vn := 0, vl := 0 } X [] ⟨rfl, rfl, rfl, rfl, rfl, rfl, rfl, rfl, rfl, rfl, rfl, rfl⟩]
  show (decide ((0 : Int) = 0) && decide (ByteArray.empty = ByteArray.empty) && decide (([] : List W3).length = 0) && (decide (x.vn = 0) && decide (x.vl = 0))) = (decide (x.vn = 0) && decide (x.vl = 0))
  simp
theorem frz_row {W : World} {b : Nat} {cs : Array Value} {t : TypeId} (i : Nat) (h : W.heap[b]? = some (.cells cs t (0, 0))) : W.frozen? ⟨b, i, none⟩ = false := by
  simp [World.frozen?, h]
theorem row_set {W : World} {b i : Nat} {cs : Array Value} {t : TypeId} {fr : Nat × Nat} (h : W.heap[b]? = some (.cells cs t fr)) (v : Value) : (W.setCell ⟨b, i, none⟩ v).heap[b]? = some (.cells (cs.setIfInBounds i v) t fr) := by
  simp [World.setCell, Array.getElem?_modify, h]

set_option maxRecDepth 100000 in
set_option maxHeartbeats 1000000 in
theorem right0 (x : E18) (A B : Option Addr) (X : List P5) (Y : List W3) (c d : Nat) (g : Int) (w : World) (hr : RowsP w w.heap.size A X) (hs : RowsW w w.heap.size B Y) (hX : ∀ x ∈ X, x.Rng) (hc : X.length ≤ c) (hm : c ≤ maxLen) (hd : Y.length ≤ d) (hn : d ≤ maxLen) (h0 : 0 ≤ x.d) (h1 : x.d ≤ 255) :
    Calls Tryd.prog 8 #[.agg #[.int .u8 0, .int .u8 x.n, .int .u16 x.l, .int .u32 x.s, .int .u8 x.d, .int .u8 x.a0, .int .u8 x.a1, .int .u8 x.b0, .int .u8 x.b1, .int .u8 x.c0, .int .u8 x.c1, .int .u32 x.fl, .slice A X.length c, .int .u8 x.rc, .string x.rv, .slice B Y.length d, .int .u8 x.vn, .int .u16 x.vl], .int .u8 g] w fun e w' => e = .returned (.bool (askB x X g && eqR x E0 && decide (Y.length = 0) && eqV x E0)) ∧ Below w.heap.size w w' := by
  have H0 : Hid (Below w.heap.size w (w.alloc (.cells #[.int .u8 0, .int .u8 x.n, .int .u16 x.l, .int .u32 x.s, .int .u8 x.d, .int .u8 x.a0, .int .u8 x.a1, .int .u8 x.b0, .int .u8 x.b1, .int .u8 x.c0, .int .u8 x.c1, .int .u32 x.fl, .slice A X.length c, .int .u8 x.rc, .string x.rv, .slice B Y.length d, .int .u8 x.vn, .int .u16 x.vl] 49))) := Lib.hid ((Below.refl _ _).alloc (Nat.le_refl _) _)
  have R0 : Hid ((w.alloc (.cells #[.int .u8 0, .int .u8 x.n, .int .u16 x.l, .int .u32 x.s, .int .u8 x.d, .int .u8 x.a0, .int .u8 x.a1, .int .u8 x.b0, .int .u8 x.b1, .int .u8 x.c0, .int .u8 x.c1, .int .u32 x.fl, .slice A X.length c, .int .u8 x.rc, .string x.rv, .slice B Y.length d, .int .u8 x.vn, .int .u16 x.vl] 49)).heap[w.heap.size]? = some (.cells #[.int .u8 0, .int .u8 x.n, .int .u16 x.l, .int .u32 x.s, .int .u8 x.d, .int .u8 x.a0, .int .u8 x.a1, .int .u8 x.b0, .int .u8 x.b1, .int .u8 x.c0, .int .u8 x.c1, .int .u32 x.fl, .slice A X.length c, .int .u8 x.rc, .string x.rv, .slice B Y.length d, .int .u8 x.vn, .int .u16 x.vl] 49 (0, 0))) := Lib.hid (heap_alloc_new w _)
  have K1 : Hid (∀ W, Below w.heap.size w W → Calls Tryd.prog 23 #[.agg #[.int .u8 0, .int .u8 x.n, .int .u16 x.l, .int .u32 x.s, .int .u8 x.d, .int .u8 x.a0, .int .u8 x.a1, .int .u8 x.b0, .int .u8 x.b1, .int .u8 x.c0, .int .u8 x.c1, .int .u32 x.fl, .slice A X.length c, .int .u8 x.rc, .string x.rv, .slice B Y.length d, .int .u8 x.vn, .int .u16 x.vl], .int .u8 g] W fun e w' => e = .returned (.bool (askB x X g)) ∧ Below W.heap.size W w') := Lib.hid (fun W hw =>
    askE { x with k := 0 } A (.slice B Y.length d) X c g W (hr.below (C := w.heap.size) hw (Nat.le_refl _) hw.size) hX hc hm h0 h1)
  have K2 : Hid (∀ W, Below w.heap.size w W → Calls Tryd.prog 11 #[.agg #[.int .u8 0, .int .u8 x.n, .int .u16 x.l, .int .u32 x.s, .int .u8 x.d, .int .u8 x.a0, .int .u8 x.a1, .int .u8 x.b0, .int .u8 x.b1, .int .u8 x.c0, .int .u8 x.c1, .int .u32 x.fl, .slice A X.length c, .int .u8 x.rc, .string x.rv, .slice B Y.length d, .int .u8 x.vn, .int .u16 x.vl], .agg #[.int .u8 0, .int .u8 x.n, .int .u16 x.l, .int .u32 x.s, .int .u8 x.d, .int .u8 x.a0, .int .u8 x.a1, .int .u8 x.b0, .int .u8 x.b1, .int .u8 x.c0, .int .u8 x.c1, .int .u32 x.fl, .slice A X.length c, .int .u8 0, .string ByteArray.empty, .slice none 0 0, .int .u8 0, .int .u16 0]] W fun e w' => e = .returned (.bool (eqR x E0 && decide (Y.length = 0) && eqV x E0)) ∧ Below W.heap.size W w') := Lib.hid (fun W hw => by
    have := sameN { x with k := 0 } { x with k := 0, rc := 0, rv := ByteArray.empty, vn := 0, vl := 0 } A B A X X Y c d c W (hr.below (C := w.heap.size) hw (Nat.le_refl _) hw.size) (hr.below (C := w.heap.size) hw (Nat.le_refl _) hw.size) hc hm hd hn hc hm
    rw [sN_call { x with k := 0 } { x with k := 0, rc := 0, rv := ByteArray.empty, vn := 0, vl := 0 } X Y ⟨rfl, rfl, rfl, rfl, rfl, rfl, rfl, rfl, rfl, rfl, rfl, rfl⟩] at this
    exact this)
  clear hr hs hX hc hm hd hn
  cases hA : askB x X g with
  | false =>
    rw [hA] at K1
    clear hA K2
    go_enter Tryd.func8, Tryd.ntmps8
    go_wp2_with (first
      | (have R0x := R0.out; refine wpList_load_row rfl 49 (.tmp 2) rfl w.heap.size (by rfl) 49 #[.int .u8 0, .int .u8 x.n, .int .u16 x.l, .int .u32 x.s, .int .u8 x.d, .int .u8 x.a0, .int .u8 x.a1, .int .u8 x.b0, .int .u8 x.b1, .int .u8 x.c0, .int .u8 x.c1, .int .u32 x.fl, .slice A X.length c, .int .u8 x.rc, .string x.rv, .slice B Y.length d, .int .u8 x.vn, .int .u16 x.vl] (0, 0) _ R0x Tryd.underlying49 rfl (by kernel_rfl) ?_; clear R0x)
      | (go_at_call 23; refine (K1.out _ H0.out).mono ?_; rintro e w1 ⟨rfl, b1⟩
         have H1 := Lib.hid (H0.out.trans (b1.mono H0.out.size))
         clear b1 R0))
    go_ret
    exact ⟨ret_bool (by simp), H1.out⟩
  | true =>
    rw [hA] at K1
    clear hA
    go_enter Tryd.func8, Tryd.ntmps8
    go_wp2_with (first
      | (have R0x := R0.out; refine wpList_load_row rfl 49 (.tmp 2) rfl w.heap.size (by rfl) 49 #[.int .u8 0, .int .u8 x.n, .int .u16 x.l, .int .u32 x.s, .int .u8 x.d, .int .u8 x.a0, .int .u8 x.a1, .int .u8 x.b0, .int .u8 x.b1, .int .u8 x.c0, .int .u8 x.c1, .int .u32 x.fl, .slice A X.length c, .int .u8 x.rc, .string x.rv, .slice B Y.length d, .int .u8 x.vn, .int .u16 x.vl] (0, 0) _ R0x Tryd.underlying49 rfl (by kernel_rfl) ?_; clear R0x)
      | (go_at_call 23; refine (K1.out _ H0.out).mono ?_; rintro e w1 ⟨rfl, b1⟩
         have H1 := Lib.hid (H0.out.trans (b1.mono H0.out.size))
         have R1 := Lib.hid ((b1.block _ (by simp)).trans R0.out)
         have e0 : w1.cell? ⟨w.heap.size, 0, none⟩ = some (.int .u8 0) := (cell_of_row _ _ 0 _ _ _ R1.out).trans rfl
         have e1 : w1.cell? ⟨w.heap.size, 1, none⟩ = some (.int .u8 x.n) := (cell_of_row _ _ 1 _ _ _ R1.out).trans rfl
         have e2 : w1.cell? ⟨w.heap.size, 2, none⟩ = some (.int .u16 x.l) := (cell_of_row _ _ 2 _ _ _ R1.out).trans rfl
         have e3 : w1.cell? ⟨w.heap.size, 3, none⟩ = some (.int .u32 x.s) := (cell_of_row _ _ 3 _ _ _ R1.out).trans rfl
         have e4 : w1.cell? ⟨w.heap.size, 4, none⟩ = some (.int .u8 x.d) := (cell_of_row _ _ 4 _ _ _ R1.out).trans rfl
         have e5 : w1.cell? ⟨w.heap.size, 5, none⟩ = some (.int .u8 x.a0) := (cell_of_row _ _ 5 _ _ _ R1.out).trans rfl
         have e6 : w1.cell? ⟨w.heap.size, 6, none⟩ = some (.int .u8 x.a1) := (cell_of_row _ _ 6 _ _ _ R1.out).trans rfl
         have e7 : w1.cell? ⟨w.heap.size, 7, none⟩ = some (.int .u8 x.b0) := (cell_of_row _ _ 7 _ _ _ R1.out).trans rfl
         have e8 : w1.cell? ⟨w.heap.size, 8, none⟩ = some (.int .u8 x.b1) := (cell_of_row _ _ 8 _ _ _ R1.out).trans rfl
         have e9 : w1.cell? ⟨w.heap.size, 9, none⟩ = some (.int .u8 x.c0) := (cell_of_row _ _ 9 _ _ _ R1.out).trans rfl
         have e10 : w1.cell? ⟨w.heap.size, 10, none⟩ = some (.int .u8 x.c1) := (cell_of_row _ _ 10 _ _ _ R1.out).trans rfl
         have e11 : w1.cell? ⟨w.heap.size, 11, none⟩ = some (.int .u32 x.fl) := (cell_of_row _ _ 11 _ _ _ R1.out).trans rfl
         have e12 : w1.cell? ⟨w.heap.size, 12, none⟩ = some (.slice A X.length c) := (cell_of_row _ _ 12 _ _ _ R1.out).trans rfl
         clear b1 R0)
      | (have R1x := R1.out; refine wpList_load_rowG 49 (.tmp 2) rfl (by kernel_rfl) w.heap.size (by rfl) 49 #[.int .u8 0, .int .u8 x.n, .int .u16 x.l, .int .u32 x.s, .int .u8 x.d, .int .u8 x.a0, .int .u8 x.a1, .int .u8 x.b0, .int .u8 x.b1, .int .u8 x.c0, .int .u8 x.c1, .int .u32 x.fl, .slice A X.length c, .int .u8 x.rc, .string x.rv, .slice B Y.length d, .int .u8 x.vn, .int .u16 x.vl] (0, 0) _ R1x Tryd.underlying49 rfl (by kernel_rfl) ?_; clear R1x)
      | (refine wpList_buildG 49 #[(0, .tmp 33), (1, .tmp 35), (2, .tmp 37), (3, .tmp 39)] rfl (by kernel_rfl) #[.int .u8 0, .int .u8 x.n, .int .u16 x.l, .int .u32 x.s, .int .u8 x.d, .int .u8 x.a0, .int .u8 x.a1, .int .u8 x.b0, .int .u8 x.b1, .int .u8 x.c0, .int .u8 x.c1, .int .u32 x.fl, .slice A X.length c, .int .u8 0, .string ByteArray.empty, .slice none 0 0, .int .u8 0, .int .u16 0] (by kernel_rfl) ?_; clear e0 e1 e2 e3 e4 e5 e6 e7 e8 e9 e10 e11 e12)
      | (go_at_call 11; refine (K2.out _ H1.out).mono ?_; rintro e w2 ⟨rfl, b2⟩
         have H2 := Lib.hid (H1.out.trans (b2.mono H1.out.size))
         clear b2))
    go_ret
    exact ⟨ret_bool (by simp), H2.out⟩

end Go.Proofs.YtnkimbmnnhnanaaDoor
