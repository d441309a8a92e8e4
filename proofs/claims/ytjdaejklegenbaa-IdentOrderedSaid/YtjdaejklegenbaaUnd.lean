/-
  Two identifiers of the program compared by ==; is one of them the other, or under it: by contracts. Condition: right identifiers.
-/
import Derived.Test.YtjdaejklegenbaaLex
import Derived.Test.YtjdaejklegenbaaHlp
import Derived.Handy
namespace Go.Proofs.Ytjdaejklegenbaa
set_option linter.unusedSimpArgs false
set_option linter.unusedVariables false
open Go.RowKit

set_option maxRecDepth 100000 in
theorem eqIDrun (n l s d a0 a1 b0 b1 c0 c1 n' l' s' d' x0 x1 y0 y1 z0 z1 : Int) (W : World) :
    (Op.equalIn (9999 + 1) 35 (.agg #[.int .u8 n, .int .u16 l, .int .u32 s, .int .u8 d, .int .u8 a0, .int .u8 a1, .int .u8 b0, .int .u8 b1, .int .u8 c0, .int .u8 c1]) (.agg #[.int .u8 n', .int .u16 l', .int .u32 s', .int .u8 d', .int .u8 x0, .int .u8 x1, .int .u8 y0, .int .u8 y1, .int .u8 z0, .int .u8 z1])).run Try.prog W = .ok (decide (n = n' ∧ l = l' ∧ s = s' ∧ d = d' ∧ a0 = x0 ∧ a1 = x1 ∧ b0 = y0 ∧ b1 = y1 ∧ c0 = z0 ∧ c1 = z1)) W := by
  have hE := eqArrID
  by_cases h0 : n = n'
  rotate_left
  · simp [go_sem, h0]
  by_cases h1 : l = l'
  rotate_left
  · simp [go_sem, h0, h1]
  by_cases h2 : s = s'
  rotate_left
  · simp [go_sem, h0, h1, h2]
  by_cases h3 : d = d'
  rotate_left
  · simp [go_sem, h0, h1, h2, h3]
  by_cases h4 : a0 = x0 ∧ a1 = x1 ∧ b0 = y0 ∧ b1 = y1 ∧ c0 = z0 ∧ c1 = z1
  · obtain ⟨rfl, rfl, rfl, rfl, rfl, rfl⟩ := h4
    simp [go_sem, h0, h1, h2, h3, hE]
  · have k1 : a0 = x0 → a1 = x1 → b0 = y0 → b1 = y1 → c0 = z0 → ¬ c1 = z1 := fun p0 p1 p2 p3 p4 p5 => h4 ⟨p0, p1, p2, p3, p4, p5⟩
    have k2 : (decide (a0 = x0) && (decide (a1 = x1) && (decide (b0 = y0) && (decide (b1 = y1) && (decide (c0 = z0) && decide (c1 = z1)))))) = false := by simpa using k1
    simp [go_sem, h0, h1, h2, h3, hE]
    rw [if_pos k1, k2]

set_option maxRecDepth 100000 in
theorem eqRefrun (n l s d a0 a1 b0 b1 c0 c1 n' l' s' d' x0 x1 y0 y1 z0 z1 : Int) (W : World) :
    (Op.equalIn (9999 + 1) 30 (.agg #[.int .u8 n, .int .u16 l, .int .u32 s, .int .u8 d, .int .u8 a0, .int .u8 a1, .int .u8 b0, .int .u8 b1, .int .u8 c0, .int .u8 c1]) (.agg #[.int .u8 n', .int .u16 l', .int .u32 s', .int .u8 d', .int .u8 x0, .int .u8 x1, .int .u8 y0, .int .u8 y1, .int .u8 z0, .int .u8 z1])).run Try.prog W = .ok (decide (n = n' ∧ l = l' ∧ s = s' ∧ d = d' ∧ a0 = x0 ∧ a1 = x1 ∧ b0 = y0 ∧ b1 = y1 ∧ c0 = z0 ∧ c1 = z1)) W := by
  have hE := eqArrRef
  by_cases h0 : n = n'
  rotate_left
  · simp [go_sem, h0]
  by_cases h1 : l = l'
  rotate_left
  · simp [go_sem, h0, h1]
  by_cases h2 : s = s'
  rotate_left
  · simp [go_sem, h0, h1, h2]
  by_cases h3 : d = d'
  rotate_left
  · simp [go_sem, h0, h1, h2, h3]
  by_cases h4 : a0 = x0 ∧ a1 = x1 ∧ b0 = y0 ∧ b1 = y1 ∧ c0 = z0 ∧ c1 = z1
  · obtain ⟨rfl, rfl, rfl, rfl, rfl, rfl⟩ := h4
    simp [go_sem, h0, h1, h2, h3, hE]
  · have k1 : a0 = x0 → a1 = x1 → b0 = y0 → b1 = y1 → c0 = z0 → ¬ c1 = z1 := fun p0 p1 p2 p3 p4 p5 => h4 ⟨p0, p1, p2, p3, p4, p5⟩
    have k2 : (decide (a0 = x0) && (decide (a1 = x1) && (decide (b0 = y0) && (decide (b1 = y1) && (decide (c0 = z0) && decide (c1 = z1)))))) = false := by simpa using k1
    simp [go_sem, h0, h1, h2, h3, hE]
    rw [if_pos k1, k2]

/-- ten cells stored. -/
theorem Cells10.set {W : World} {b : Nat} {v0 v1 v2 v3 v4 v5 v6 v7 v8 v9 : Value} (h : Cells10 W b v0 v1 v2 v3 v4 v5 v6 v7 v8 v9) (u0 u1 u2 u3 u4 u5 u6 u7 u8 u9 : Value) : Cells10 ((((((((((W.setCell ⟨b, 0, none⟩ u0).setCell ⟨b, 1, none⟩ u1).setCell ⟨b, 2, none⟩ u2).setCell ⟨b, 3, none⟩ u3).setCell ⟨b, 4, none⟩ u4).setCell ⟨b, 5, none⟩ u5).setCell ⟨b, 6, none⟩ u6).setCell ⟨b, 7, none⟩ u7).setCell ⟨b, 8, none⟩ u8).setCell ⟨b, 9, none⟩ u9) b u0 u1 u2 u3 u4 u5 u6 u7 u8 u9 := by
  obtain ⟨h0, h1, h2, h3, h4, h5, h6, h7, h8, h9⟩ := h
  constructor <;> simp [go_sem, h0, h1, h2, h3, h4, h5, h6, h7, h8, h9]
theorem Cells10.set_other {W : World} {b b' : Nat} {v0 v1 v2 v3 v4 v5 v6 v7 v8 v9 : Value} (h : Cells10 W b' v0 v1 v2 v3 v4 v5 v6 v7 v8 v9) (hb : b ≠ b') (u0 u1 u2 u3 u4 u5 u6 u7 u8 u9 : Value) : Cells10 ((((((((((W.setCell ⟨b, 0, none⟩ u0).setCell ⟨b, 1, none⟩ u1).setCell ⟨b, 2, none⟩ u2).setCell ⟨b, 3, none⟩ u3).setCell ⟨b, 4, none⟩ u4).setCell ⟨b, 5, none⟩ u5).setCell ⟨b, 6, none⟩ u6).setCell ⟨b, 7, none⟩ u7).setCell ⟨b, 8, none⟩ u8).setCell ⟨b, 9, none⟩ u9) b' v0 v1 v2 v3 v4 v5 v6 v7 v8 v9 := by
  obtain ⟨h0, h1, h2, h3, h4, h5, h6, h7, h8, h9⟩ := h
  constructor <;> simp [go_sem, hb, h0, h1, h2, h3, h4, h5, h6, h7, h8, h9]
theorem below_set {w W : World} {B b : Nat} (h : Below B w W) (hb : B ≤ b) (u0 u1 u2 u3 u4 u5 u6 u7 u8 u9 : Value) : Below B w ((((((((((W.setCell ⟨b, 0, none⟩ u0).setCell ⟨b, 1, none⟩ u1).setCell ⟨b, 2, none⟩ u2).setCell ⟨b, 3, none⟩ u3).setCell ⟨b, 4, none⟩ u4).setCell ⟨b, 5, none⟩ u5).setCell ⟨b, 6, none⟩ u6).setCell ⟨b, 7, none⟩ u7).setCell ⟨b, 8, none⟩ u8).setCell ⟨b, 9, none⟩ u9) := by
  repeat (refine Below.setCell ?_ hb _)
  exact h
theorem frozen_set {W : World} {b : Nat} (h : ∀ o, W.frozen? ⟨b, o, none⟩ = false) (u0 u1 u2 u3 u4 u5 u6 u7 u8 u9 : Value) (o : Nat) : (((((((((((W.setCell ⟨b, 0, none⟩ u0).setCell ⟨b, 1, none⟩ u1).setCell ⟨b, 2, none⟩ u2).setCell ⟨b, 3, none⟩ u3).setCell ⟨b, 4, none⟩ u4).setCell ⟨b, 5, none⟩ u5).setCell ⟨b, 6, none⟩ u6).setCell ⟨b, 7, none⟩ u7).setCell ⟨b, 8, none⟩ u8).setCell ⟨b, 9, none⟩ u9)).frozen? ⟨b, o, none⟩ = false := by
  simp [go_sem, h]

theorem cut_self (x : I10) : x.cut x.d = x := by
  unfold I10.cut
  rw [if_pos (Int.le_refl _)]
theorem cut_big {x : I10} {k : Int} (h : x.d ≤ k) : x.cut k = x := by
  unfold I10.cut
  rw [if_pos h]
theorem cut_d {x : I10} {k : Int} (h0 : 0 ≤ k) (h : k ≤ x.d) (h3 : x.d ≤ 3) : (x.cut k).d = k := by
  unfold I10.cut
  split
  · omega
  · split
    · simp_all
    · split
      · simp_all
      · have : k = 2 := by omega
        simp_all
theorem ok_cut {x : I10} {k : Int} (hx : x.ok = true) (hf : x.Fit) (h0 : 0 ≤ k) : (x.cut k).ok = true := by
  obtain ⟨n, l, s, d, a0, a1, b0, b1, c0, c1⟩ := x
  obtain ⟨f0, f3, fa, fb, fc⟩ := hf
  dsimp only at f0 f3 fa fb fc
  by_cases hk : d ≤ k
  · rw [cut_big hk]
    exact hx
  have e : (k = 0 ∨ k = 1 ∨ k = 2) ∧ (d = 1 ∨ d = 2 ∨ d = 3) := by omega
  obtain ⟨e1, e2⟩ := e
  rcases e2 with rfl | rfl | rfl <;> rcases e1 with rfl | rfl | rfl
  all_goals first | (exfalso; omega) | skip
  all_goals
    simp [I10.ok, rI] at hx
    simp [I10.cut, I10.ok, rI, hx]
theorem par_cut {x : I10} {m : Int} (hx : x.ok = true) (hf : x.Fit) (h1 : 1 ≤ m) (hm : m ≤ x.d) : par (x.cut m) = (x.cut (m - 1), 0) := by
  have ho := ok_cut (k := m) hx hf (by omega)
  obtain ⟨n, l, s, d, a0, a1, b0, b1, c0, c1⟩ := x
  obtain ⟨f0, f3, fa, fb, fc⟩ := hf
  dsimp only at f0 f3 fa fb fc hm
  have e : (m = 1 ∨ m = 2 ∨ m = 3) ∧ (d = 1 ∨ d = 2 ∨ d = 3) := by omega
  obtain ⟨e1, e2⟩ := e
  unfold par
  rw [if_neg (by rw [ho]; decide)]
  rcases e2 with rfl | rfl | rfl <;> rcases e1 with rfl | rfl | rfl
  all_goals first | (exfalso; omega) | skip
  all_goals simp at fa fb fc
  all_goals simp [I10.cut, *]

set_option maxRecDepth 100000 in
set_option maxHeartbeats 4000000 in
theorem under (x z : I10) (w : World) (hx : x.ok = true) (fx : x.Fit) (fz : z.Fit) :
    Calls Try.prog 27 #[.agg #[.int .u8 x.n, .int .u16 x.l, .int .u32 x.s, .int .u8 x.d, .int .u8 x.a0, .int .u8 x.a1, .int .u8 x.b0, .int .u8 x.b1, .int .u8 x.c0, .int .u8 x.c1], .agg #[.int .u8 z.n, .int .u16 z.l, .int .u32 z.s, .int .u8 z.d, .int .u8 z.a0, .int .u8 z.a1, .int .u8 z.b0, .int .u8 z.b1, .int .u8 z.c0, .int .u8 z.c1]] w fun e w' => e = .returned (.bool (und x z)) ∧ Below w.heap.size w w' := by
  go_enter Try.func27, Try.ntmps27
  go_wp2
  have z0 : Below w.heap.size w ((w.alloc (.cells #[.int .u8 x.n, .int .u16 x.l, .int .u32 x.s, .int .u8 x.d, .int .u8 x.a0, .int .u8 x.a1, .int .u8 x.b0, .int .u8 x.b1, .int .u8 x.c0, .int .u8 x.c1] 35)).alloc (.cells #[.int .u8 z.n, .int .u16 z.l, .int .u32 z.s, .int .u8 z.d, .int .u8 z.a0, .int .u8 z.a1, .int .u8 z.b0, .int .u8 z.b1, .int .u8 z.c0, .int .u8 z.c1] 35)) := ((Below.refl _ _).alloc (Nat.le_refl _) _).alloc (by simp) _
  have C0 := (cells10_new w (.int .u8 x.n) (.int .u16 x.l) (.int .u32 x.s) (.int .u8 x.d) (.int .u8 x.a0) (.int .u8 x.a1) (.int .u8 x.b0) (.int .u8 x.b1) (.int .u8 x.c0) (.int .u8 x.c1) 35).kept (W' := ((w.alloc (.cells #[.int .u8 x.n, .int .u16 x.l, .int .u32 x.s, .int .u8 x.d, .int .u8 x.a0, .int .u8 x.a1, .int .u8 x.b0, .int .u8 x.b1, .int .u8 x.c0, .int .u8 x.c1] 35)).alloc (.cells #[.int .u8 z.n, .int .u16 z.l, .int .u32 z.s, .int .u8 z.d, .int .u8 z.a0, .int .u8 z.a1, .int .u8 z.b0, .int .u8 z.b1, .int .u8 z.c0, .int .u8 z.c1] 35))) ((Below.refl _ _).alloc (Nat.le_refl _) _) (by simp)
  have D0 := cells10_new (w.alloc (.cells #[.int .u8 x.n, .int .u16 x.l, .int .u32 x.s, .int .u8 x.d, .int .u8 x.a0, .int .u8 x.a1, .int .u8 x.b0, .int .u8 x.b1, .int .u8 x.c0, .int .u8 x.c1] 35)) (.int .u8 z.n) (.int .u16 z.l) (.int .u32 z.s) (.int .u8 z.d) (.int .u8 z.a0) (.int .u8 z.a1) (.int .u8 z.b0) (.int .u8 z.b1) (.int .u8 z.c0) (.int .u8 z.c1) 35
  have eD : (w.alloc (.cells #[.int .u8 x.n, .int .u16 x.l, .int .u32 x.s, .int .u8 x.d, .int .u8 x.a0, .int .u8 x.a1, .int .u8 x.b0, .int .u8 x.b1, .int .u8 x.c0, .int .u8 x.c1] 35)).heap.size = w.heap.size + 1 := by simp
  rw [eD] at D0
  clear eD
  have F0 : ∀ o, (((w.alloc (.cells #[.int .u8 x.n, .int .u16 x.l, .int .u32 x.s, .int .u8 x.d, .int .u8 x.a0, .int .u8 x.a1, .int .u8 x.b0, .int .u8 x.b1, .int .u8 x.c0, .int .u8 x.c1] 35)).alloc (.cells #[.int .u8 z.n, .int .u16 z.l, .int .u32 z.s, .int .u8 z.d, .int .u8 z.a0, .int .u8 z.a1, .int .u8 z.b0, .int .u8 z.b1, .int .u8 z.c0, .int .u8 z.c1] 35))).frozen? ⟨w.heap.size, o, none⟩ = false := fun o => by simp
  go_loopw [5] (fun i wx => ∃ k : Nat, k ≤ 3 ∧ i = .int .i64 k ∧ (k : Int) ≤ x.d ∧ (k = 0 ∨ z.d ≤ x.d - k) ∧ Hid (Below w.heap.size w wx) ∧ Cells10 wx w.heap.size (.int .u8 (x.cut (x.d - k)).n) (.int .u16 (x.cut (x.d - k)).l) (.int .u32 (x.cut (x.d - k)).s) (.int .u8 (x.cut (x.d - k)).d) (.int .u8 (x.cut (x.d - k)).a0) (.int .u8 (x.cut (x.d - k)).a1) (.int .u8 (x.cut (x.d - k)).b0) (.int .u8 (x.cut (x.d - k)).b1) (.int .u8 (x.cut (x.d - k)).c0) (.int .u8 (x.cut (x.d - k)).c1) ∧ Cells10 wx (w.heap.size + 1) (.int .u8 z.n) (.int .u16 z.l) (.int .u32 z.s) (.int .u8 z.d) (.int .u8 z.a0) (.int .u8 z.a1) (.int .u8 z.b0) (.int .u8 z.b1) (.int .u8 z.c0) (.int .u8 z.c1) ∧ (∀ o, wx.frozen? ⟨w.heap.size, o, none⟩ = false)) (fun i _ => 4 - (intOf i).toNat)
  case atStart => exact ⟨0, by omega, rfl, fx.d0, .inl rfl, Lib.hid z0, by rw [show x.d - ((0 : Nat) : Int) = x.d from by omega, cut_self]; exact C0, D0, F0⟩
  case round =>
    clear C0 D0 F0 z0
    obtain ⟨k, hk, rfl, hkx, hz, B, C, D, hf⟩ := hrel
    have hNx : w.heap.size < wr.heap.size := World.block_lt_of_cell? _ _ C.c0
    have hMx : w.heap.size + 1 < wr.heap.size := World.block_lt_of_cell? _ _ D.c0
    have hfx := fx.d3
    have hfx0 := fx.d0
    have hfz := fz.d0
    have hcd := cut_d (x := x) (k := x.d - k) (by omega) (by omega) fx.d3
    by_cases hlt : z.d < x.d - k
    · have hp := par_cut (m := x.d - k) hx fx (by omega) (by omega)
      have hcp : par ⟨(x.cut (x.d - k)).n, (x.cut (x.d - k)).l, (x.cut (x.d - k)).s, (x.cut (x.d - k)).d, (x.cut (x.d - k)).a0, (x.cut (x.d - k)).a1, (x.cut (x.d - k)).b0, (x.cut (x.d - k)).b1, (x.cut (x.d - k)).c0, (x.cut (x.d - k)).c1⟩ = (x.cut (x.d - k - 1), 0) := hp
      clear hp
      have e1 : x.d - k - 1 = x.d - ((k + 1 : Nat) : Int) := by omega
      rw [e1] at hcp
      have hcd' : z.d < (x.cut (x.d - k)).d := by rw [hcd]; exact hlt
      have hcd0 : 0 ≤ (x.cut (x.d - k)).d := by rw [hcd]; omega
      clear hcd e1
      generalize x.cut (x.d - k) = c at *
      generalize hnew : x.cut (x.d - ((k + 1 : Nat) : Int)) = c' at *
      have HN := Lib.hid hnew
      have HP := Lib.hid hcp
      clear hnew hcp
      have k0 := C.c0
      have k1 := C.c1
      have k2 := C.c2
      have k3 := C.c3
      have k4 := C.c4
      have k5 := C.c5
      have k6 := C.c6
      have k7 := C.c7
      have k8 := C.c8
      have k9 := C.c9
      have q3 := D.c3
      go_wp2_with fail
      refine (parent c.n c.l c.s c.d c.a0 c.a1 c.b0 c.b1 c.c0 c.c1 _ hcd0).mono ?_
      rw [HP.out]
      rintro e w1 ⟨rfl, h1⟩
      clear k0 k1 k2 k3 k4 k5 k6 k7 k8 k9 q3
      have C1 := C.kept h1 hNx
      have D1 := D.kept h1 hMx
      have hf1 : ∀ o, w1.frozen? ⟨w.heap.size, o, none⟩ = false := fun o => (h1.frozen (p := ⟨w.heap.size, o, none⟩) hNx).trans (hf o)
      have B1 := B.out.trans (h1.mono B.out.size)
      have HB1 := Lib.hid B1
      clear h1 hf C D B B1
      have k0 := C1.c0
      have k1 := C1.c1
      have k2 := C1.c2
      have k3 := C1.c3
      have k4 := C1.c4
      have k5 := C1.c5
      have k6 := C1.c6
      have k7 := C1.c7
      have k8 := C1.c8
      have k9 := C1.c9
      go_wp2
      clear k0 k1 k2 k3 k4 k5 k6 k7 k8 k9
      go_roundw
      case rel =>
        have hC := C1.set (.int .u8 c'.n) (.int .u16 c'.l) (.int .u32 c'.s) (.int .u8 c'.d) (.int .u8 c'.a0) (.int .u8 c'.a1) (.int .u8 c'.b0) (.int .u8 c'.b1) (.int .u8 c'.c0) (.int .u8 c'.c1)
        rw [← HN.out] at hC ⊢
        exact ⟨k + 1, by omega, by go_num, by omega, .inr (by omega), Lib.hid (below_set HB1.out (Nat.le_refl _) _ _ _ _ _ _ _ _ _ _), hC, D1.set_other (by omega) _ _ _ _ _ _ _ _ _ _, fun o => frozen_set hf1 _ _ _ _ _ _ _ _ _ _ o⟩
      case measure => simp [intOf]; omega
    · have hc : x.cut (x.d - k) = x.cut z.d := by
        rcases hz with rfl | hz
        · rw [cut_big (by omega), cut_big (by omega)]
        · have : x.d - k = z.d := by omega
          rw [this]
      have hcd' : ¬ z.d < (x.cut (x.d - k)).d := by rw [hcd]; exact hlt
      have hu : und x z = eqI (x.cut (x.d - k)) z := by rw [hc]; rfl
      have HU := Lib.hid hu
      clear hcd hc hu
      generalize x.cut (x.d - k) = c at *
      have k0 := C.c0
      have k1 := C.c1
      have k2 := C.c2
      have k3 := C.c3
      have k4 := C.c4
      have k5 := C.c5
      have k6 := C.c6
      have k7 := C.c7
      have k8 := C.c8
      have k9 := C.c9
      have q0 := D.c0
      have q1 := D.c1
      have q2 := D.c2
      have q3 := D.c3
      have q4 := D.c4
      have q5 := D.c5
      have q6 := D.c6
      have q7 := D.c7
      have q8 := D.c8
      have q9 := D.c9
      have hE := eqIDrun
      go_wp2
      go_ret
      rw [HU.out]
      exact ⟨by simp [eqI], B.out⟩

end Go.Proofs.Ytjdaejklegenbaa
