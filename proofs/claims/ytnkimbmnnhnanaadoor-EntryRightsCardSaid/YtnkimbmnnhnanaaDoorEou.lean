/-
  May the first part come to this: the program's outcomeRight, by an exact answer. Condition: the lists lie in memory.
-/
import Derived.Test.YtnkimbmnnhnanaaDoorErd
import Derived.Deep.QuietTactic
import Derived.BigQuiet
import Derived.Lib.QuietBelow
import Derived.IntWalk
namespace Go.Proofs.YtnkimbmnnhnanaaDoor
set_option linter.unusedSimpArgs false
set_option linter.unusedVariables false
open Go.RowKit Go.Sort

set_option maxHeartbeats 400000 in
theorem writeR (y : W3) (w : World) : Calls Tryd.prog 51 #[.agg #[.string y.key, .string y.val, .bool y.has]] w fun e w' => e = .returned (.bool (wB y)) ∧ Below w.heap.size w w' := by
  unfold wB
  cases hh : y.has
  all_goals
    go_enter Tryd.func51, Tryd.ntmps51
    go_wp2
    go_ret
    refine ⟨ret_bool ?_, by repeat (first | (with_reducible exact Below.refl _ _) | (with_reducible refine Below.alloc ?_ (by first | (simp; done) | (simp; omega)) _))⟩
    try simp only [emp_eq, nil_iff]
    simp [-ByteArray.size_eq_zero_iff]
    first | done | omega | exact ByteArray.size_eq_zero_iff
set_option maxRecDepth 100000 in
set_option maxHeartbeats 1000000 in
theorem outE_rc (x : E18) (bp o nX c d : Nat) (B : Option Addr) (p : P5) (Y : List W3) (w : World) (hb : bp < w.heap.size) (hp : PartAt w bp o p) (hl : 1 ≤ nX) (hc : nX ≤ c) (hm : c ≤ maxLen) (h : ¬ x.rc = 0) (hd : Y.length ≤ d) (hn : d ≤ maxLen) :
    Calls Tryd.prog 22 #[.agg #[.int .u8 x.k, .int .u8 x.n, .int .u16 x.l, .int .u32 x.s, .int .u8 x.d, .int .u8 x.a0, .int .u8 x.a1, .int .u8 x.b0, .int .u8 x.b1, .int .u8 x.c0, .int .u8 x.c1, .int .u32 x.fl, .slice (some ⟨bp, o, none⟩) nX c, .int .u8 x.rc, .string x.rv, .slice B Y.length d, .int .u8 x.vn, .int .u16 x.vl]] w fun e w' => e = .returned (.bool (outB x p Y)) ∧ Below w.heap.size w w' := by
  have HB : Hid (Below w.heap.size w (w.alloc (.cells #[.int .u8 x.k, .int .u8 x.n, .int .u16 x.l, .int .u32 x.s, .int .u8 x.d, .int .u8 x.a0, .int .u8 x.a1, .int .u8 x.b0, .int .u8 x.b1, .int .u8 x.c0, .int .u8 x.c1, .int .u32 x.fl, .slice (some ⟨bp, o, none⟩) nX c, .int .u8 x.rc, .string x.rv, .slice B Y.length d, .int .u8 x.vn, .int .u16 x.vl] 49))) := Lib.hid ((Below.refl _ _).alloc (Nat.le_refl _) _)
  obtain ⟨p0, p1, p2, p3, p4⟩ := hp
  unfold maxLen at hm
  have hl1 : (1 : Int) ≤ (nX : Int) := by omega
  have hci : (nX : Int) ≤ (c : Int) := by omega
  have hz : ((Y.length : Int) == 0) = decide (Y.length = 0) := by rw [Bool.eq_iff_iff]; simp
  go_enter Tryd.func22, Tryd.ntmps22
  go_wp2_with (first
    | (go_at_call 26; refine (rightRes _ _ _).mono ?_; rintro e w1 ⟨rfl, rfl⟩))
  all_goals
    go_ret
    exact ⟨ret_bool (by first | (simp [outB, oneB, wB, *]; done) | (simp only [beq_iff_eq, beq_eq_false_iff_ne, ne_eq] at *; simp_all [outB, oneB, wB]; done) | (simp only [beq_iff_eq, beq_eq_false_iff_ne, ne_eq] at *; simp_all [outB, oneB, wB]; omega)), by repeat (first | (with_reducible exact Below.refl _ _) | (with_reducible exact H9.out) | (with_reducible refine Below.drew ?_) | (with_reducible refine Below.alloc ?_ (by first | omega | (simp; done) | (simp; omega)) _))⟩

set_option maxRecDepth 100000 in
set_option maxHeartbeats 1000000 in
theorem outE_rd (x : E18) (bp o nX c d : Nat) (B : Option Addr) (p : P5) (Y : List W3) (w : World) (hb : bp < w.heap.size) (hp : PartAt w bp o p) (hl : 1 ≤ nX) (hc : nX ≤ c) (hm : c ≤ maxLen) (h : x.rc = 0) (hk : p.k = 0) (hd : Y.length ≤ d) (hn : d ≤ maxLen) :
    Calls Tryd.prog 22 #[.agg #[.int .u8 x.k, .int .u8 x.n, .int .u16 x.l, .int .u32 x.s, .int .u8 x.d, .int .u8 x.a0, .int .u8 x.a1, .int .u8 x.b0, .int .u8 x.b1, .int .u8 x.c0, .int .u8 x.c1, .int .u32 x.fl, .slice (some ⟨bp, o, none⟩) nX c, .int .u8 x.rc, .string x.rv, .slice B Y.length d, .int .u8 x.vn, .int .u16 x.vl]] w fun e w' => e = .returned (.bool (outB x p Y)) ∧ Below w.heap.size w w' := by
  have HB : Hid (Below w.heap.size w (w.alloc (.cells #[.int .u8 x.k, .int .u8 x.n, .int .u16 x.l, .int .u32 x.s, .int .u8 x.d, .int .u8 x.a0, .int .u8 x.a1, .int .u8 x.b0, .int .u8 x.b1, .int .u8 x.c0, .int .u8 x.c1, .int .u32 x.fl, .slice (some ⟨bp, o, none⟩) nX c, .int .u8 x.rc, .string x.rv, .slice B Y.length d, .int .u8 x.vn, .int .u16 x.vl] 49))) := Lib.hid ((Below.refl _ _).alloc (Nat.le_refl _) _)
  obtain ⟨p0, p1, p2, p3, p4⟩ := hp
  unfold maxLen at hm
  have hl1 : (1 : Int) ≤ (nX : Int) := by omega
  have hci : (nX : Int) ≤ (c : Int) := by omega
  have hz : ((Y.length : Int) == 0) = decide (Y.length = 0) := by rw [Bool.eq_iff_iff]; simp
  go_enter Tryd.func22, Tryd.ntmps22
  go_wp2_with (first
    | (go_at_call 26; refine (rightRes _ _ _).mono ?_; rintro e w1 ⟨rfl, rfl⟩))
  all_goals
    go_ret
    exact ⟨ret_bool (by first | (simp [outB, oneB, wB, *]; done) | (simp only [beq_iff_eq, beq_eq_false_iff_ne, ne_eq] at *; simp_all [outB, oneB, wB]; done) | (simp only [beq_iff_eq, beq_eq_false_iff_ne, ne_eq] at *; simp_all [outB, oneB, wB]; omega)), by repeat (first | (with_reducible exact Below.refl _ _) | (with_reducible exact H9.out) | (with_reducible refine Below.drew ?_) | (with_reducible refine Below.alloc ?_ (by first | omega | (simp; done) | (simp; omega)) _))⟩

set_option maxRecDepth 100000 in
set_option maxHeartbeats 1000000 in
theorem outE_no (x : E18) (bp o nX c d : Nat) (B : Option Addr) (p : P5) (Y : List W3) (w : World) (hb : bp < w.heap.size) (hp : PartAt w bp o p) (hl : 1 ≤ nX) (hc : nX ≤ c) (hm : c ≤ maxLen) (h : x.rc = 0) (hk : ¬ p.k = 0) (hY : ¬ Y.length = 1) (hd : Y.length ≤ d) (hn : d ≤ maxLen) :
    Calls Tryd.prog 22 #[.agg #[.int .u8 x.k, .int .u8 x.n, .int .u16 x.l, .int .u32 x.s, .int .u8 x.d, .int .u8 x.a0, .int .u8 x.a1, .int .u8 x.b0, .int .u8 x.b1, .int .u8 x.c0, .int .u8 x.c1, .int .u32 x.fl, .slice (some ⟨bp, o, none⟩) nX c, .int .u8 0, .string x.rv, .slice B Y.length d, .int .u8 x.vn, .int .u16 x.vl]] w fun e w' => e = .returned (.bool (outB x p Y)) ∧ Below w.heap.size w w' := by
  have HB : Hid (Below w.heap.size w (w.alloc (.cells #[.int .u8 x.k, .int .u8 x.n, .int .u16 x.l, .int .u32 x.s, .int .u8 x.d, .int .u8 x.a0, .int .u8 x.a1, .int .u8 x.b0, .int .u8 x.b1, .int .u8 x.c0, .int .u8 x.c1, .int .u32 x.fl, .slice (some ⟨bp, o, none⟩) nX c, .int .u8 0, .string x.rv, .slice B Y.length d, .int .u8 x.vn, .int .u16 x.vl] 49))) := Lib.hid ((Below.refl _ _).alloc (Nat.le_refl _) _)
  obtain ⟨p0, p1, p2, p3, p4⟩ := hp
  unfold maxLen at hm
  have hl1 : (1 : Int) ≤ (nX : Int) := by omega
  have hci : (nX : Int) ≤ (c : Int) := by omega
  have hY1 : ¬ (Y.length : Int) = 1 := by omega
  have hY3 := oneB_no (p := p) hY
  have hY2 : ((Y.length : Int) == 1) = false := by rw [beq_eq_false_iff_ne]; exact hY1
  cases hR : rR 0 x.rv with
  | false =>
    go_enter Tryd.func22, Tryd.ntmps22
    go_wp2_with (first
      | (go_at_call 26; refine (rightRes _ _ _).mono ?_; rintro e w1 ⟨rfl, rfl⟩))
    all_goals
      go_ret
      exact ⟨ret_bool (by first | (simp [outB, oneB, wB, *]; done) | (simp only [beq_iff_eq, beq_eq_false_iff_ne, ne_eq] at *; simp_all [outB, oneB, wB]; done) | (simp only [beq_iff_eq, beq_eq_false_iff_ne, ne_eq] at *; simp_all [outB, oneB, wB]; omega)), by repeat (first | (with_reducible exact Below.refl _ _) | (with_reducible exact H9.out) | (with_reducible refine Below.drew ?_) | (with_reducible refine Below.alloc ?_ (by first | omega | (simp; done) | (simp; omega)) _))⟩
  | true =>
    go_enter Tryd.func22, Tryd.ntmps22
    go_wp2_with (first
      | (go_at_call 26; refine (rightRes _ _ _).mono ?_; rintro e w1 ⟨rfl, rfl⟩))
    have HW : Below w.heap.size w (((w.alloc (.cells #[.int .u8 x.k, .int .u8 x.n, .int .u16 x.l, .int .u32 x.s, .int .u8 x.d, .int .u8 x.a0, .int .u8 x.a1, .int .u8 x.b0, .int .u8 x.b1, .int .u8 x.c0, .int .u8 x.c1, .int .u32 x.fl, .slice (some ⟨bp, o, none⟩) nX c, .int .u8 0, .string x.rv, .slice B Y.length d, .int .u8 x.vn, .int .u16 x.vl] 49)).alloc (.cells #[.int .u8 0, .string x.rv] 46)).alloc (.cells #[.int .u8 p.g, .int .u8 p.k, .string p.key, .string p.val, .int .i64 p.n] 56)) := (((Below.refl _ _).alloc (Nat.le_refl _) _).alloc (by simp) _).alloc (by simp; omega) _
    have f15 : (((w.alloc (.cells #[.int .u8 x.k, .int .u8 x.n, .int .u16 x.l, .int .u32 x.s, .int .u8 x.d, .int .u8 x.a0, .int .u8 x.a1, .int .u8 x.b0, .int .u8 x.b1, .int .u8 x.c0, .int .u8 x.c1, .int .u32 x.fl, .slice (some ⟨bp, o, none⟩) nX c, .int .u8 0, .string x.rv, .slice B Y.length d, .int .u8 x.vn, .int .u16 x.vl] 49)).alloc (.cells #[.int .u8 0, .string x.rv] 46)).alloc (.cells #[.int .u8 p.g, .int .u8 p.k, .string p.key, .string p.val, .int .i64 p.n] 56)).cell? ⟨w.heap.size, 15, none⟩ = some (.slice B Y.length d) := by go_simp
    have f2 : (((w.alloc (.cells #[.int .u8 x.k, .int .u8 x.n, .int .u16 x.l, .int .u32 x.s, .int .u8 x.d, .int .u8 x.a0, .int .u8 x.a1, .int .u8 x.b0, .int .u8 x.b1, .int .u8 x.c0, .int .u8 x.c1, .int .u32 x.fl, .slice (some ⟨bp, o, none⟩) nX c, .int .u8 0, .string x.rv, .slice B Y.length d, .int .u8 x.vn, .int .u16 x.vl] 49)).alloc (.cells #[.int .u8 0, .string x.rv] 46)).alloc (.cells #[.int .u8 p.g, .int .u8 p.k, .string p.key, .string p.val, .int .i64 p.n] 56)).cell? ⟨w.heap.size + 1 + 1, 2, none⟩ = some (.string p.key) := by go_simp
    generalize (((w.alloc (.cells #[.int .u8 x.k, .int .u8 x.n, .int .u16 x.l, .int .u32 x.s, .int .u8 x.d, .int .u8 x.a0, .int .u8 x.a1, .int .u8 x.b0, .int .u8 x.b1, .int .u8 x.c0, .int .u8 x.c1, .int .u32 x.fl, .slice (some ⟨bp, o, none⟩) nX c, .int .u8 0, .string x.rv, .slice B Y.length d, .int .u8 x.vn, .int .u16 x.vl] 49)).alloc (.cells #[.int .u8 0, .string x.rv] 46)).alloc (.cells #[.int .u8 p.g, .int .u8 p.k, .string p.key, .string p.val, .int .i64 p.n] 56)) = W at *
    have k15 := cell_regrown f15
    have k2 := cell_regrown f2
    refine wp_region_quiet_below (by kernel_rfl) (by kernel_rfl) ?_
    repeat (go_big_quiet_step (first | (fail) | fail))
    refine wpQuiet_nil ?_
    intro W9 hW
    obtain ⟨p9, rfl⟩ := hW
    go_wp2
    go_ret
    exact ⟨ret_bool (by first | (simp [outB, oneB, wB, *]; done) | (simp only [beq_iff_eq, beq_eq_false_iff_ne, ne_eq] at *; simp_all [outB, oneB, wB]; done)), HW.trans ((below_regrown _ _ _).mono HW.size)⟩

set_option maxRecDepth 100000 in
set_option maxHeartbeats 1000000 in
theorem outE_one1 (x : E18) (bp o nX c d : Nat) (B : Option Addr) (p : P5) (y : W3) (w : World) (hb : bp < w.heap.size) (hp : PartAt w bp o p) (hl : 1 ≤ nX) (hc : nX ≤ c) (hm : c ≤ maxLen) (h : x.rc = 0) (hk : ¬ p.k = 0) (hs : RowsW w w.heap.size B [y]) (hd : 1 ≤ d) (hn : d ≤ maxLen) (hke : y.key = p.key) :
    Calls Tryd.prog 22 #[.agg #[.int .u8 x.k, .int .u8 x.n, .int .u16 x.l, .int .u32 x.s, .int .u8 x.d, .int .u8 x.a0, .int .u8 x.a1, .int .u8 x.b0, .int .u8 x.b1, .int .u8 x.c0, .int .u8 x.c1, .int .u32 x.fl, .slice (some ⟨bp, o, none⟩) nX c, .int .u8 0, .string x.rv, .slice B 1 d, .int .u8 x.vn, .int .u16 x.vl]] w fun e w' => e = .returned (.bool (outB x p [y])) ∧ Below w.heap.size w w' := by
  have HB : Hid (Below w.heap.size w (w.alloc (.cells #[.int .u8 x.k, .int .u8 x.n, .int .u16 x.l, .int .u32 x.s, .int .u8 x.d, .int .u8 x.a0, .int .u8 x.a1, .int .u8 x.b0, .int .u8 x.b1, .int .u8 x.c0, .int .u8 x.c1, .int .u32 x.fl, .slice (some ⟨bp, o, none⟩) nX c, .int .u8 0, .string x.rv, .slice B 1 d, .int .u8 x.vn, .int .u16 x.vl] 49))) := Lib.hid ((Below.refl _ _).alloc (Nat.le_refl _) _)
  obtain ⟨p0, p1, p2, p3, p4⟩ := hp
  unfold maxLen at hm
  have hl1 : (1 : Int) ≤ (nX : Int) := by omega
  have hci : (nX : Int) ≤ (c : Int) := by omega
  obtain ⟨b2, o2, rfl, hb2, C0⟩ := hs.at_ (k := 0) (by simp)
  obtain ⟨c0, c1, c2⟩ : WrAt w b2 o2 y := by simpa using C0
  clear hs C0
  have hdi : (1 : Int) ≤ (d : Int) := by omega
  unfold maxLen at hn
  have hkl : y.key.toList = p.key.toList := by rw [hke]
  have HKE := Lib.hid hke
  clear hke
  cases hR : rR 0 x.rv with
  | false =>
    go_enter Tryd.func22, Tryd.ntmps22
    go_wp2_with (first
      | (go_at_call 26; refine (rightRes _ _ _).mono ?_; rintro e w1 ⟨rfl, rfl⟩))
    all_goals
      go_ret
      exact ⟨ret_bool (by first | (simp [outB, oneB, wB, *]; done) | (simp only [beq_iff_eq, beq_eq_false_iff_ne, ne_eq] at *; simp_all [outB, oneB, wB]; done) | (simp only [beq_iff_eq, beq_eq_false_iff_ne, ne_eq] at *; simp_all [outB, oneB, wB]; omega)), by repeat (first | (with_reducible exact Below.refl _ _) | (with_reducible exact H9.out) | (with_reducible refine Below.drew ?_) | (with_reducible refine Below.alloc ?_ (by first | omega | (simp; done) | (simp; omega)) _))⟩
  | true =>
    go_enter Tryd.func22, Tryd.ntmps22
    go_wp2_with (first
      | (go_at_call 26; refine (rightRes _ _ _).mono ?_; rintro e w1 ⟨rfl, rfl⟩))
    have HW : Below w.heap.size w (((w.alloc (.cells #[.int .u8 x.k, .int .u8 x.n, .int .u16 x.l, .int .u32 x.s, .int .u8 x.d, .int .u8 x.a0, .int .u8 x.a1, .int .u8 x.b0, .int .u8 x.b1, .int .u8 x.c0, .int .u8 x.c1, .int .u32 x.fl, .slice (some ⟨bp, o, none⟩) nX c, .int .u8 0, .string x.rv, .slice (some ⟨b2, o2, none⟩) 1 d, .int .u8 x.vn, .int .u16 x.vl] 49)).alloc (.cells #[.int .u8 0, .string x.rv] 46)).alloc (.cells #[.int .u8 p.g, .int .u8 p.k, .string p.key, .string p.val, .int .i64 p.n] 56)) := (((Below.refl _ _).alloc (Nat.le_refl _) _).alloc (by simp) _).alloc (by simp; omega) _
    have f15 : (((w.alloc (.cells #[.int .u8 x.k, .int .u8 x.n, .int .u16 x.l, .int .u32 x.s, .int .u8 x.d, .int .u8 x.a0, .int .u8 x.a1, .int .u8 x.b0, .int .u8 x.b1, .int .u8 x.c0, .int .u8 x.c1, .int .u32 x.fl, .slice (some ⟨bp, o, none⟩) nX c, .int .u8 0, .string x.rv, .slice (some ⟨b2, o2, none⟩) 1 d, .int .u8 x.vn, .int .u16 x.vl] 49)).alloc (.cells #[.int .u8 0, .string x.rv] 46)).alloc (.cells #[.int .u8 p.g, .int .u8 p.k, .string p.key, .string p.val, .int .i64 p.n] 56)).cell? ⟨w.heap.size, 15, none⟩ = some (.slice (some ⟨b2, o2, none⟩) 1 d) := by go_simp
    have f2 : (((w.alloc (.cells #[.int .u8 x.k, .int .u8 x.n, .int .u16 x.l, .int .u32 x.s, .int .u8 x.d, .int .u8 x.a0, .int .u8 x.a1, .int .u8 x.b0, .int .u8 x.b1, .int .u8 x.c0, .int .u8 x.c1, .int .u32 x.fl, .slice (some ⟨bp, o, none⟩) nX c, .int .u8 0, .string x.rv, .slice (some ⟨b2, o2, none⟩) 1 d, .int .u8 x.vn, .int .u16 x.vl] 49)).alloc (.cells #[.int .u8 0, .string x.rv] 46)).alloc (.cells #[.int .u8 p.g, .int .u8 p.k, .string p.key, .string p.val, .int .i64 p.n] 56)).cell? ⟨w.heap.size + 1 + 1, 2, none⟩ = some (.string p.key) := by go_simp
    have y0 := (HW.cell (p := ⟨b2, o2, none⟩) hb2).trans c0
    have y1 := (HW.cell (p := ⟨b2, o2 + 1, none⟩) hb2).trans c1
    have y2 := (HW.cell (p := ⟨b2, o2 + 2, none⟩) hb2).trans c2
    clear c0 c1 c2
    generalize (((w.alloc (.cells #[.int .u8 x.k, .int .u8 x.n, .int .u16 x.l, .int .u32 x.s, .int .u8 x.d, .int .u8 x.a0, .int .u8 x.a1, .int .u8 x.b0, .int .u8 x.b1, .int .u8 x.c0, .int .u8 x.c1, .int .u32 x.fl, .slice (some ⟨bp, o, none⟩) nX c, .int .u8 0, .string x.rv, .slice (some ⟨b2, o2, none⟩) 1 d, .int .u8 x.vn, .int .u16 x.vl] 49)).alloc (.cells #[.int .u8 0, .string x.rv] 46)).alloc (.cells #[.int .u8 p.g, .int .u8 p.k, .string p.key, .string p.val, .int .i64 p.n] 56)) = W at *
    have k15 := cell_regrown f15
    have k2 := cell_regrown f2
    have m0 := cell_regrown y0
    have m1 := cell_regrown y1
    have m2 := cell_regrown y2
    refine wp_region_quiet_below (by kernel_rfl) (by kernel_rfl) ?_
    repeat (go_big_quiet_step (first | (fail) | (exact Calls.regrown_of (writeR y _))))
    refine wpQuiet_nil ?_
    intro W9 hW
    obtain ⟨p9, rfl⟩ := hW
    go_wp2
    go_ret
    have hke := HKE.out
    exact ⟨ret_bool (by first | (simp [outB, oneB, wB, *]; done) | (simp only [beq_iff_eq, beq_eq_false_iff_ne, ne_eq] at *; simp_all [outB, oneB, wB]; done)), HW.trans ((below_regrown _ _ _).mono HW.size)⟩

set_option maxRecDepth 100000 in
set_option maxHeartbeats 1000000 in
theorem outE_one0 (x : E18) (bp o nX c d : Nat) (B : Option Addr) (p : P5) (y : W3) (w : World) (hb : bp < w.heap.size) (hp : PartAt w bp o p) (hl : 1 ≤ nX) (hc : nX ≤ c) (hm : c ≤ maxLen) (h : x.rc = 0) (hk : ¬ p.k = 0) (hs : RowsW w w.heap.size B [y]) (hd : 1 ≤ d) (hn : d ≤ maxLen) (hke : ¬ y.key = p.key) :
    Calls Tryd.prog 22 #[.agg #[.int .u8 x.k, .int .u8 x.n, .int .u16 x.l, .int .u32 x.s, .int .u8 x.d, .int .u8 x.a0, .int .u8 x.a1, .int .u8 x.b0, .int .u8 x.b1, .int .u8 x.c0, .int .u8 x.c1, .int .u32 x.fl, .slice (some ⟨bp, o, none⟩) nX c, .int .u8 0, .string x.rv, .slice B 1 d, .int .u8 x.vn, .int .u16 x.vl]] w fun e w' => e = .returned (.bool (outB x p [y])) ∧ Below w.heap.size w w' := by
  have HB : Hid (Below w.heap.size w (w.alloc (.cells #[.int .u8 x.k, .int .u8 x.n, .int .u16 x.l, .int .u32 x.s, .int .u8 x.d, .int .u8 x.a0, .int .u8 x.a1, .int .u8 x.b0, .int .u8 x.b1, .int .u8 x.c0, .int .u8 x.c1, .int .u32 x.fl, .slice (some ⟨bp, o, none⟩) nX c, .int .u8 0, .string x.rv, .slice B 1 d, .int .u8 x.vn, .int .u16 x.vl] 49))) := Lib.hid ((Below.refl _ _).alloc (Nat.le_refl _) _)
  obtain ⟨p0, p1, p2, p3, p4⟩ := hp
  unfold maxLen at hm
  have hl1 : (1 : Int) ≤ (nX : Int) := by omega
  have hci : (nX : Int) ≤ (c : Int) := by omega
  obtain ⟨b2, o2, rfl, hb2, C0⟩ := hs.at_ (k := 0) (by simp)
  obtain ⟨c0, c1, c2⟩ : WrAt w b2 o2 y := by simpa using C0
  clear hs C0
  have hdi : (1 : Int) ≤ (d : Int) := by omega
  unfold maxLen at hn
  have hkl : ¬ y.key.toList = p.key.toList := fun e => hke ((toList_inj _ _).1 e)
  have hklb : (y.key.toList == p.key.toList) = false := by rw [beq_eq_false_iff_ne]; exact hkl
  have HKE := Lib.hid hke
  clear hke
  cases hR : rR 0 x.rv with
  | false =>
    go_enter Tryd.func22, Tryd.ntmps22
    go_wp2_with (first
      | (go_at_call 26; refine (rightRes _ _ _).mono ?_; rintro e w1 ⟨rfl, rfl⟩))
    all_goals
      go_ret
      exact ⟨ret_bool (by first | (simp [outB, oneB, wB, *]; done) | (simp only [beq_iff_eq, beq_eq_false_iff_ne, ne_eq] at *; simp_all [outB, oneB, wB]; done) | (simp only [beq_iff_eq, beq_eq_false_iff_ne, ne_eq] at *; simp_all [outB, oneB, wB]; omega)), by repeat (first | (with_reducible exact Below.refl _ _) | (with_reducible exact H9.out) | (with_reducible refine Below.drew ?_) | (with_reducible refine Below.alloc ?_ (by first | omega | (simp; done) | (simp; omega)) _))⟩
  | true =>
    go_enter Tryd.func22, Tryd.ntmps22
    go_wp2_with (first
      | (go_at_call 26; refine (rightRes _ _ _).mono ?_; rintro e w1 ⟨rfl, rfl⟩))
    have HW : Below w.heap.size w (((w.alloc (.cells #[.int .u8 x.k, .int .u8 x.n, .int .u16 x.l, .int .u32 x.s, .int .u8 x.d, .int .u8 x.a0, .int .u8 x.a1, .int .u8 x.b0, .int .u8 x.b1, .int .u8 x.c0, .int .u8 x.c1, .int .u32 x.fl, .slice (some ⟨bp, o, none⟩) nX c, .int .u8 0, .string x.rv, .slice (some ⟨b2, o2, none⟩) 1 d, .int .u8 x.vn, .int .u16 x.vl] 49)).alloc (.cells #[.int .u8 0, .string x.rv] 46)).alloc (.cells #[.int .u8 p.g, .int .u8 p.k, .string p.key, .string p.val, .int .i64 p.n] 56)) := (((Below.refl _ _).alloc (Nat.le_refl _) _).alloc (by simp) _).alloc (by simp; omega) _
    have f15 : (((w.alloc (.cells #[.int .u8 x.k, .int .u8 x.n, .int .u16 x.l, .int .u32 x.s, .int .u8 x.d, .int .u8 x.a0, .int .u8 x.a1, .int .u8 x.b0, .int .u8 x.b1, .int .u8 x.c0, .int .u8 x.c1, .int .u32 x.fl, .slice (some ⟨bp, o, none⟩) nX c, .int .u8 0, .string x.rv, .slice (some ⟨b2, o2, none⟩) 1 d, .int .u8 x.vn, .int .u16 x.vl] 49)).alloc (.cells #[.int .u8 0, .string x.rv] 46)).alloc (.cells #[.int .u8 p.g, .int .u8 p.k, .string p.key, .string p.val, .int .i64 p.n] 56)).cell? ⟨w.heap.size, 15, none⟩ = some (.slice (some ⟨b2, o2, none⟩) 1 d) := by go_simp
    have f2 : (((w.alloc (.cells #[.int .u8 x.k, .int .u8 x.n, .int .u16 x.l, .int .u32 x.s, .int .u8 x.d, .int .u8 x.a0, .int .u8 x.a1, .int .u8 x.b0, .int .u8 x.b1, .int .u8 x.c0, .int .u8 x.c1, .int .u32 x.fl, .slice (some ⟨bp, o, none⟩) nX c, .int .u8 0, .string x.rv, .slice (some ⟨b2, o2, none⟩) 1 d, .int .u8 x.vn, .int .u16 x.vl] 49)).alloc (.cells #[.int .u8 0, .string x.rv] 46)).alloc (.cells #[.int .u8 p.g, .int .u8 p.k, .string p.key, .string p.val, .int .i64 p.n] 56)).cell? ⟨w.heap.size + 1 + 1, 2, none⟩ = some (.string p.key) := by go_simp
    have y0 := (HW.cell (p := ⟨b2, o2, none⟩) hb2).trans c0
    have y1 := (HW.cell (p := ⟨b2, o2 + 1, none⟩) hb2).trans c1
    have y2 := (HW.cell (p := ⟨b2, o2 + 2, none⟩) hb2).trans c2
    clear c0 c1 c2
    generalize (((w.alloc (.cells #[.int .u8 x.k, .int .u8 x.n, .int .u16 x.l, .int .u32 x.s, .int .u8 x.d, .int .u8 x.a0, .int .u8 x.a1, .int .u8 x.b0, .int .u8 x.b1, .int .u8 x.c0, .int .u8 x.c1, .int .u32 x.fl, .slice (some ⟨bp, o, none⟩) nX c, .int .u8 0, .string x.rv, .slice (some ⟨b2, o2, none⟩) 1 d, .int .u8 x.vn, .int .u16 x.vl] 49)).alloc (.cells #[.int .u8 0, .string x.rv] 46)).alloc (.cells #[.int .u8 p.g, .int .u8 p.k, .string p.key, .string p.val, .int .i64 p.n] 56)) = W at *
    have k15 := cell_regrown f15
    have k2 := cell_regrown f2
    have m0 := cell_regrown y0
    have m1 := cell_regrown y1
    have m2 := cell_regrown y2
    refine wp_region_quiet_below (by kernel_rfl) (by kernel_rfl) ?_
    repeat (go_big_quiet_step (first | (fail) | (exact Calls.regrown_of (writeR y _))))
    refine wpQuiet_nil ?_
    intro W9 hW
    obtain ⟨p9, rfl⟩ := hW
    go_wp2
    go_ret
    have hke := HKE.out
    exact ⟨ret_bool (by first | (simp [outB, oneB, wB, *]; done) | (simp only [beq_iff_eq, beq_eq_false_iff_ne, ne_eq] at *; simp_all [outB, oneB, wB]; done)), HW.trans ((below_regrown _ _ _).mono HW.size)⟩

theorem outE (x : E18) (bp o nX c d : Nat) (B : Option Addr) (p : P5) (Y : List W3) (w : World) (hb : bp < w.heap.size) (hp : PartAt w bp o p) (hl : 1 ≤ nX) (hc : nX ≤ c) (hm : c ≤ maxLen) (hs : RowsW w w.heap.size B Y) (hd : Y.length ≤ d) (hn : d ≤ maxLen) :
    Calls Tryd.prog 22 #[.agg #[.int .u8 x.k, .int .u8 x.n, .int .u16 x.l, .int .u32 x.s, .int .u8 x.d, .int .u8 x.a0, .int .u8 x.a1, .int .u8 x.b0, .int .u8 x.b1, .int .u8 x.c0, .int .u8 x.c1, .int .u32 x.fl, .slice (some ⟨bp, o, none⟩) nX c, .int .u8 x.rc, .string x.rv, .slice B Y.length d, .int .u8 x.vn, .int .u16 x.vl]] w fun e w' => e = .returned (.bool (outB x p Y)) ∧ Below w.heap.size w w' := by
  by_cases h : x.rc = 0
  · by_cases hk : p.k = 0
    · exact outE_rd x bp o nX c d B p Y w hb hp hl hc hm h hk hd hn
    · rw [h]
      by_cases hY : Y.length = 1
      · obtain ⟨y, rfl⟩ := List.length_eq_one_iff.1 hY
        by_cases hke : y.key = p.key
        · exact outE_one1 x bp o nX c d B p y w hb hp hl hc hm h hk hs hd hn hke
        · exact outE_one0 x bp o nX c d B p y w hb hp hl hc hm h hk hs hd hn hke
      · exact outE_no x bp o nX c d B p Y w hb hp hl hc hm h hk hY hd hn
  · exact outE_rc x bp o nX c d B p Y w hb hp hl hc hm h hd hn

end Go.Proofs.YtnkimbmnnhnanaaDoor
