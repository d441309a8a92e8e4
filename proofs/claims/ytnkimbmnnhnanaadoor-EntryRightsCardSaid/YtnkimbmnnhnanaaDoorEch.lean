/-
  May the first part come to this: the document's check, by an exact answer. Condition: the lists lie in memory.
-/
import Derived.Test.YtnkimbmnnhnanaaDoorErd
namespace Go.Proofs.YtnkimbmnnhnanaaDoor
set_option linter.unusedSimpArgs false
set_option linter.unusedVariables false
open Go.RowKit Go.Sort

theorem three (w : World) (c1 c2 c3 : Array Value) (t1 t2 t3 : TypeId) (w1 : World) (h : ((w.alloc (.cells c1 t1)).alloc (.cells c2 t2)).alloc (.cells c3 t3) = w1) :
    Below w.heap.size w w1 ∧ w1.heap[w.heap.size]? = some (.cells c1 t1 (0, 0)) ∧ w1.heap[w.heap.size + 1]? = some (.cells c2 t2 (0, 0)) ∧ w.heap.size + 1 < w1.heap.size := by
  have e1 : (w.alloc (.cells c1 t1)).heap.size = w.heap.size + 1 := by simp
  have e2 : ((w.alloc (.cells c1 t1)).alloc (.cells c2 t2)).heap.size = w.heap.size + 1 + 1 := by simp
  have b3 : Below (w.heap.size + 1 + 1) ((w.alloc (.cells c1 t1)).alloc (.cells c2 t2)) (((w.alloc (.cells c1 t1)).alloc (.cells c2 t2)).alloc (.cells c3 t3)) := (Below.refl _ _).alloc (by rw [e2]; omega) _
  have b2 : Below (w.heap.size + 1) (w.alloc (.cells c1 t1)) ((w.alloc (.cells c1 t1)).alloc (.cells c2 t2)) := (Below.refl _ _).alloc (by rw [e1]; omega) _
  subst h
  refine ⟨(((Below.refl _ _).alloc (Nat.le_refl _) _).alloc (by simp) _).alloc (by simp; omega) _, ?_, ?_, by simp⟩
  · exact (b3.block _ (by omega)).trans ((b2.block _ (by omega)).trans (heap_alloc_new w _))
  · have hg := heap_alloc_new (w.alloc (.cells c1 t1)) (.cells c2 t2)
    rw [e1] at hg
    exact (b3.block _ (by omega)).trans hg

set_option maxRecDepth 100000 in
set_option maxHeartbeats 1000000 in
theorem chE_0 (x : E18) (bp o nX c d : Nat) (B : Option Addr) (p : P5)  (w : World) (hb : bp < w.heap.size) (hp : PartAt w bp o p) (hl : 1 ≤ nX) (hc : nX ≤ c) (hm : c ≤ maxLen) (hn : d ≤ maxLen)  :
    Calls Tryd.prog 29 #[.agg #[.int .u8 x.k, .int .u8 x.n, .int .u16 x.l, .int .u32 x.s, .int .u8 x.d, .int .u8 x.a0, .int .u8 x.a1, .int .u8 x.b0, .int .u8 x.b1, .int .u8 x.c0, .int .u8 x.c1, .int .u32 x.fl, .slice (some ⟨bp, o, none⟩) nX c, .int .u8 x.rc, .string x.rv, .slice B 0 d, .int .u8 x.vn, .int .u16 x.vl]] w fun e w' => e = .returned (.bool (outB x p [])) ∧ Below w.heap.size w w' := by
  obtain ⟨p0, p1, p2, p3, p4⟩ := hp
  unfold maxLen at hm hn
  have hl1 : (1 : Int) ≤ (nX : Int) := by omega
  have hci : (nX : Int) ≤ (c : Int) := by omega
  have hdi : (0 : Int) ≤ (d : Int) := by omega
  go_enter Tryd.func29, Tryd.ntmps29
  go_wp2_with (first
    | (go_at_call 31; refine (refRightRes _ _ _).mono ?_; rintro e w1 ⟨rfl, rfl⟩))
  all_goals try go_rounds 1
  all_goals
    go_ret
    exact ⟨ret_bool (by first | (simp [outB, oneB, wB, *]; done) | ((try simp only [beq_iff_eq, beq_eq_false_iff_ne, ne_eq] at *); simp_all [outB, oneB, wB]; done) | ((try simp only [beq_iff_eq, beq_eq_false_iff_ne, ne_eq] at *); simp_all [outB, oneB, wB]; first | omega | (intro e; simp_all; done) | (split <;> first | omega | (intro e; simp_all; done)))), by repeat (first | (with_reducible exact Below.refl _ _) | (with_reducible refine Below.setCell ?_ (by first | omega | (simp; done) | (simp; omega)) _) | (with_reducible refine Below.drew ?_) | (with_reducible refine Below.alloc ?_ (by first | omega | (simp; done) | (simp; omega)) _))⟩

set_option maxRecDepth 100000 in
set_option maxHeartbeats 1000000 in
theorem chE_2 (x : E18) (bp o nX c d : Nat) (B : Option Addr) (p : P5) (Y : List W3) (w : World) (hb : bp < w.heap.size) (hp : PartAt w bp o p) (hl : 1 ≤ nX) (hc : nX ≤ c) (hm : c ≤ maxLen) (hn : d ≤ maxLen) (hY : 1 < Y.length) (hd : Y.length ≤ d) :
    Calls Tryd.prog 29 #[.agg #[.int .u8 x.k, .int .u8 x.n, .int .u16 x.l, .int .u32 x.s, .int .u8 x.d, .int .u8 x.a0, .int .u8 x.a1, .int .u8 x.b0, .int .u8 x.b1, .int .u8 x.c0, .int .u8 x.c1, .int .u32 x.fl, .slice (some ⟨bp, o, none⟩) nX c, .int .u8 x.rc, .string x.rv, .slice B Y.length d, .int .u8 x.vn, .int .u16 x.vl]] w fun e w' => e = .returned (.bool (outB x p Y)) ∧ Below w.heap.size w w' := by
  obtain ⟨p0, p1, p2, p3, p4⟩ := hp
  unfold maxLen at hm hn
  have hl1 : (1 : Int) ≤ (nX : Int) := by omega
  have hci : (nX : Int) ≤ (c : Int) := by omega
  have hY3 := oneB_no (p := p) (Y := Y) (by omega)
  have hY1 : (1 : Int) < (Y.length : Int) := by omega
  have hY0 : ¬ Y.length = 0 := by omega
  have hYn : ¬ Y = [] := fun e => hY0 (by rw [e]; rfl)
  go_enter Tryd.func29, Tryd.ntmps29
  go_wp2_with (first
    | (go_at_call 31; refine (refRightRes _ _ _).mono ?_; rintro e w1 ⟨rfl, rfl⟩))
  all_goals
    go_ret
    exact ⟨ret_bool (by first | (simp [outB, oneB, wB, *]; done) | ((try simp only [beq_iff_eq, beq_eq_false_iff_ne, ne_eq] at *); simp_all [outB, oneB, wB]; done) | ((try simp only [beq_iff_eq, beq_eq_false_iff_ne, ne_eq] at *); simp_all [outB, oneB, wB]; first | omega | (intro e; simp_all; done) | (split <;> first | omega | (intro e; simp_all; done)))), by repeat (first | (with_reducible exact Below.refl _ _) | (with_reducible refine Below.setCell ?_ (by first | omega | (simp; done) | (simp; omega)) _) | (with_reducible refine Below.drew ?_) | (with_reducible refine Below.alloc ?_ (by first | omega | (simp; done) | (simp; omega)) _))⟩

set_option maxRecDepth 100000 in
set_option maxHeartbeats 1000000 in
theorem chE_1 (x : E18) (bp o nX c d : Nat) (B : Option Addr) (p : P5) (y : W3) (w : World) (hb : bp < w.heap.size) (hp : PartAt w bp o p) (hl : 1 ≤ nX) (hc : nX ≤ c) (hm : c ≤ maxLen) (hn : d ≤ maxLen) (hs : RowsW w w.heap.size B [y]) (hd : 1 ≤ d) :
    Calls Tryd.prog 29 #[.agg #[.int .u8 x.k, .int .u8 x.n, .int .u16 x.l, .int .u32 x.s, .int .u8 x.d, .int .u8 x.a0, .int .u8 x.a1, .int .u8 x.b0, .int .u8 x.b1, .int .u8 x.c0, .int .u8 x.c1, .int .u32 x.fl, .slice (some ⟨bp, o, none⟩) nX c, .int .u8 x.rc, .string x.rv, .slice B 1 d, .int .u8 x.vn, .int .u16 x.vl]] w fun e w' => e = .returned (.bool (outB x p [y])) ∧ Below w.heap.size w w' := by
  obtain ⟨p0, p1, p2, p3, p4⟩ := hp
  unfold maxLen at hm hn
  have hl1 : (1 : Int) ≤ (nX : Int) := by omega
  have hci : (nX : Int) ≤ (c : Int) := by omega
  obtain ⟨b2, o2, rfl, hb2, C0⟩ := hs.at_ (k := 0) (by simp)
  obtain ⟨c0, c1, c2⟩ : WrAt w b2 o2 y := by simpa using C0
  clear hs C0
  have hdi : (1 : Int) ≤ (d : Int) := by omega
  go_enter Tryd.func29, Tryd.ntmps29
  go_wp2_with (first
    | (go_at_call 31; refine (refRightRes _ _ _).mono ?_; rintro e w1 ⟨rfl, hw⟩
       obtain ⟨HB1, R1, R2, l1⟩ := three _ _ _ _ _ _ _ _ hw
       have e13 : w1.cell? ⟨w.heap.size, 13, none⟩ = some (.int .u8 x.rc) := (cell_of_row _ _ 13 _ _ _ R1).trans (by simp [*])
       have e15 : w1.cell? ⟨w.heap.size, 15, none⟩ = some (.slice (some ⟨b2, o2, none⟩) 1 d) := (cell_of_row _ _ 15 _ _ _ R1).trans rfl
       have e2 : w1.cell? ⟨w.heap.size + 1, 2, none⟩ = some (.string p.key) := (cell_of_row _ _ 2 _ _ _ R2).trans rfl
       have y0 := (HB1.cell (p := ⟨b2, o2, none⟩) hb2).trans c0
       have y1 := (HB1.cell (p := ⟨b2, o2 + 1, none⟩) hb2).trans c1
       have y2 := (HB1.cell (p := ⟨b2, o2 + 2, none⟩) hb2).trans c2
       have H1 := Lib.hid HB1
       have l0 : w.heap.size < w1.heap.size := Nat.lt_of_succ_lt l1
       have ln : ¬ w.heap.size = w1.heap.size := Nat.ne_of_lt l0
       clear hw HB1 R1 R2))
  all_goals try go_rounds 2
  all_goals
    go_ret
    refine ⟨ret_bool ?_, H1.out.trans (by repeat (first | (with_reducible exact Below.refl _ _) | (with_reducible refine Below.alloc ?_ (by first | exact H1.out.size | omega | (simp; done) | (simp; omega)) _)))⟩
    clear H1 p0 p1 p2 p3 p4 c0 c1 c2 e13 e15 e2 y0 y1 y2 l0 l1 ln
    first
      | (simp [outB, oneB, wB, *]; done)
      | ((try simp only [beq_iff_eq, beq_eq_false_iff_ne, ne_eq, toList_inj, emp_eq, nil_iff] at *); simp_all [outB, oneB, wB]; done)
      | ((try simp only [beq_iff_eq, beq_eq_false_iff_ne, ne_eq, toList_inj, emp_eq, nil_iff] at *); simp_all [outB, oneB, wB]; first | omega | (intro e; simp_all; done) | (split <;> first | omega | (intro e; simp_all; done)))

theorem chE (x : E18) (bp o nX c d : Nat) (B : Option Addr) (p : P5) (Y : List W3) (w : World) (hb : bp < w.heap.size) (hp : PartAt w bp o p) (hl : 1 ≤ nX) (hc : nX ≤ c) (hm : c ≤ maxLen) (hs : RowsW w w.heap.size B Y) (hd : Y.length ≤ d) (hn : d ≤ maxLen) :
    Calls Tryd.prog 29 #[.agg #[.int .u8 x.k, .int .u8 x.n, .int .u16 x.l, .int .u32 x.s, .int .u8 x.d, .int .u8 x.a0, .int .u8 x.a1, .int .u8 x.b0, .int .u8 x.b1, .int .u8 x.c0, .int .u8 x.c1, .int .u32 x.fl, .slice (some ⟨bp, o, none⟩) nX c, .int .u8 x.rc, .string x.rv, .slice B Y.length d, .int .u8 x.vn, .int .u16 x.vl]] w fun e w' => e = .returned (.bool (outB x p Y)) ∧ Below w.heap.size w w' := by
  by_cases h0 : Y.length = 0
  · obtain rfl := List.length_eq_zero_iff.1 h0
    exact chE_0 x bp o nX c d B p w hb hp hl hc hm hn
  · by_cases h1 : Y.length = 1
    · obtain ⟨y, rfl⟩ := List.length_eq_one_iff.1 h1
      exact chE_1 x bp o nX c d B p y w hb hp hl hc hm hn hs hd
    · exact chE_2 x bp o nX c d B p Y w hb hp hl hc hm hn (by omega) hd

end Go.Proofs.YtnkimbmnnhnanaaDoor
