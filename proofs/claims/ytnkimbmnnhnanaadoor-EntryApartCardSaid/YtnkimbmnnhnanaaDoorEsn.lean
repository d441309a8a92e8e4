/-
  Two entries held against each other, the second one without writes: entry.Same, by an exact answer. Condition: the lists lie in memory.
-/
import Derived.Test.YtnkimbmnnhnanaaDoorErd
namespace Go.Proofs.YtnkimbmnnhnanaaDoor
set_option linter.unusedSimpArgs false
set_option linter.unusedVariables false
open Go.RowKit Go.Sort

/-- what Same answers, the second one without writes. -/
def sN (x y : E18) (X X2 : List P5) (Y : List W3) : Bool :=
  decide (x.k = y.k) && eqI x y && decide (x.fl = y.fl) && sameB X X2 && eqR x y && decide (Y.length = 0) && eqV x y

theorem rowA (w : World) (c1 c2 : Array Value) (t1 t2 : TypeId) : ((w.alloc (.cells c1 t1)).alloc (.cells c2 t2)).heap[w.heap.size]? = some (.cells c1 t1 (0, 0)) :=
  (((Below.refl (w.heap.size + 1) (w.alloc (.cells c1 t1))).alloc (by simp) (.cells c2 t2)).block w.heap.size (by omega)).trans (heap_alloc_new w _)
theorem rowB (w : World) (c1 c2 : Array Value) (t1 t2 : TypeId) : ((w.alloc (.cells c1 t1)).alloc (.cells c2 t2)).heap[w.heap.size + 1]? = some (.cells c2 t2 (0, 0)) := by
  have hg := heap_alloc_new (w.alloc (.cells c1 t1)) (.cells c2 t2)
  have e : (w.alloc (.cells c1 t1)).heap.size = w.heap.size + 1 := by simp
  rw [e] at hg
  exact hg
theorem two_below (w : World) (c1 c2 : Array Value) (t1 t2 : TypeId) : Below w.heap.size w ((w.alloc (.cells c1 t1)).alloc (.cells c2 t2)) := ((Below.refl _ _).alloc (Nat.le_refl _) _).alloc (by simp) _

set_option maxRecDepth 100000 in
set_option maxHeartbeats 1000000 in
theorem equalW0 (B : Option Addr) (Y : List W3) (d : Nat) (w : World) (hn : d ≤ maxLen) (hd : Y.length ≤ d) :
    Calls Tryd.prog 36 #[.slice B Y.length d, .slice none 0 0] w fun e w' => e = .returned (.bool (decide (Y.length = 0))) ∧ Below w.heap.size w w' := by
  unfold maxLen at hn
  by_cases h : Y.length = 0
  · rw [decide_eq_true h, h]
    go_enter Tryd.func36, Tryd.ntmps36
    go_wp2
    go_rounds 1
    go_ret
    exact ⟨rfl, by repeat (first | (with_reducible exact Below.refl _ _) | (with_reducible refine Below.drew ?_))⟩
  · rw [decide_eq_false h]
    have h1 : ¬ ((Y.length : Int) = 0) := by omega
    go_enter Tryd.func36, Tryd.ntmps36
    go_wp2
    go_ret
    exact ⟨rfl, by repeat (first | (with_reducible exact Below.refl _ _) | (with_reducible refine Below.drew ?_))⟩

set_option maxRecDepth 100000 in
set_option maxHeartbeats 2000000 in
theorem sameN (x y : E18) (A B A2 : Option Addr) (X X2 : List P5) (Y : List W3) (c d c2 : Nat) (w : World) (hr : RowsP w w.heap.size A X) (hr2 : RowsP w w.heap.size A2 X2) (hc : X.length ≤ c) (hm : c ≤ maxLen) (hd : Y.length ≤ d) (hn : d ≤ maxLen) (hc2 : X2.length ≤ c2) (hm2 : c2 ≤ maxLen) :
    Calls Tryd.prog 11 #[.agg #[.int .u8 x.k, .int .u8 x.n, .int .u16 x.l, .int .u32 x.s, .int .u8 x.d, .int .u8 x.a0, .int .u8 x.a1, .int .u8 x.b0, .int .u8 x.b1, .int .u8 x.c0, .int .u8 x.c1, .int .u32 x.fl, .slice A X.length c, .int .u8 x.rc, .string x.rv, .slice B Y.length d, .int .u8 x.vn, .int .u16 x.vl], .agg #[.int .u8 y.k, .int .u8 y.n, .int .u16 y.l, .int .u32 y.s, .int .u8 y.d, .int .u8 y.a0, .int .u8 y.a1, .int .u8 y.b0, .int .u8 y.b1, .int .u8 y.c0, .int .u8 y.c1, .int .u32 y.fl, .slice A2 X2.length c2, .int .u8 y.rc, .string y.rv, .slice none 0 0, .int .u8 y.vn, .int .u16 y.vl]] w fun e w' => e = .returned (.bool (sN x y X X2 Y)) ∧ Below w.heap.size w w' := by
  have K1 : Hid (∀ W, Below w.heap.size w W → w.heap.size ≤ W.heap.size → Calls Tryd.prog 35 #[.slice A X.length c, .slice A2 X2.length c2] W fun e w' => e = .returned (.bool (sameB X X2)) ∧ Below W.heap.size W w') := Lib.hid (fun W hw h1 =>
    same A A2 X X2 c c2 W (hr.below (C := w.heap.size) hw (Nat.le_refl _) h1) (hr2.below (C := w.heap.size) hw (Nat.le_refl _) h1) hc hm hc2 hm2)
  have K2 : Hid (∀ W, Calls Tryd.prog 36 #[.slice B Y.length d, .slice none 0 0] W fun e w' => e = .returned (.bool (decide (Y.length = 0))) ∧ Below W.heap.size W w') := Lib.hid (fun W => equalW0 B Y d W hn hd)
  have q1 := eqlIDg x y
  have q2 := eqlResg x y
  have q3 := eqlPrg x y
  clear hr hr2 hc hm hd hn hc2 hm2
  unfold sN
  go_enter Tryd.func11, Tryd.ntmps11
  go_wp2_with (first
    | (go_at_call 35
       refine (K1.out _ (two_below _ _ _ _ _) (two_below _ _ _ _ _).size).mono ?_
       rintro e w1 ⟨rfl, b1⟩
       have H1 := Lib.hid ((two_below _ _ _ _ _).trans (b1.mono (two_below _ _ _ _ _).size))
       have R1 := Lib.hid ((b1.block _ (by simp; omega)).trans (rowA _ _ _ _ _))
       have S1 := Lib.hid ((b1.block _ (by simp)).trans (rowB _ _ _ _ _))
       have u13 : w1.cell? ⟨w.heap.size, 13, none⟩ = some (.int .u8 x.rc) := (cell_of_row _ _ 13 _ _ _ R1.out).trans rfl
       have v13 : w1.cell? ⟨w.heap.size + 1, 13, none⟩ = some (.int .u8 y.rc) := (cell_of_row _ _ 13 _ _ _ S1.out).trans rfl
       have u14 : w1.cell? ⟨w.heap.size, 14, none⟩ = some (.string x.rv) := (cell_of_row _ _ 14 _ _ _ R1.out).trans rfl
       have v14 : w1.cell? ⟨w.heap.size + 1, 14, none⟩ = some (.string y.rv) := (cell_of_row _ _ 14 _ _ _ S1.out).trans rfl
       have u15 : w1.cell? ⟨w.heap.size, 15, none⟩ = some (.slice B Y.length d) := (cell_of_row _ _ 15 _ _ _ R1.out).trans rfl
       have v15 : w1.cell? ⟨w.heap.size + 1, 15, none⟩ = some (.slice none 0 0) := (cell_of_row _ _ 15 _ _ _ S1.out).trans rfl
       have L1 : Hid (w.heap.size + 1 < w1.heap.size) := Lib.hid (Nat.lt_of_lt_of_le (by simp) b1.size)
       clear b1)
    | (go_at_call 36
       refine (K2.out _).mono ?_
       rintro e w2 ⟨rfl, b2⟩
       have H2 := Lib.hid (H1.out.trans (b2.mono H1.out.size))
       have R2 := Lib.hid ((b2.block _ (Nat.lt_of_succ_lt L1.out)).trans R1.out)
       have S2 := Lib.hid ((b2.block _ L1.out).trans S1.out)
       clear u13 u14 u15 v13 v14 v15
       have u16 : w2.cell? ⟨w.heap.size, 16, none⟩ = some (.int .u8 x.vn) := (cell_of_row _ _ 16 _ _ _ R2.out).trans rfl
       have v16 : w2.cell? ⟨w.heap.size + 1, 16, none⟩ = some (.int .u8 y.vn) := (cell_of_row _ _ 16 _ _ _ S2.out).trans rfl
       have u17 : w2.cell? ⟨w.heap.size, 17, none⟩ = some (.int .u16 x.vl) := (cell_of_row _ _ 17 _ _ _ R2.out).trans rfl
       have v17 : w2.cell? ⟨w.heap.size + 1, 17, none⟩ = some (.int .u16 y.vl) := (cell_of_row _ _ 17 _ _ _ S2.out).trans rfl
       clear b2))
  all_goals
    go_ret
    refine ⟨ret_bool (by simp [*]), ?_⟩
    first | exact H2.out | exact H1.out | exact two_below _ _ _ _ _

end Go.Proofs.YtnkimbmnnhnanaaDoor
