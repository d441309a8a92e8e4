/-
  Two identifiers of the program compared by ==; is one of them the other, or under it: by contracts. Condition: right identifiers.
-/
import Derived.Test.YtldbmmganicliaaLex
import Derived.Test.YtldbmmganicliaaHlp
import Derived.Handy
namespace Go.Proofs.Ytldbmmganicliaa
set_option linter.unusedSimpArgs false
set_option linter.unusedVariables false
open Go.RowKit

set_option maxRecDepth 100000 in
theorem eqIDrun (n l s d a0 a1 b0 b1 c0 c1 n' l' s' d' x0 x1 y0 y1 z0 z1 : Int) (W : World) :
    (Op.equalIn (9999 + 1) 37 (.agg #[.int .u8 n, .int .u16 l, .int .u32 s, .int .u8 d, .int .u8 a0, .int .u8 a1, .int .u8 b0, .int .u8 b1, .int .u8 c0, .int .u8 c1]) (.agg #[.int .u8 n', .int .u16 l', .int .u32 s', .int .u8 d', .int .u8 x0, .int .u8 x1, .int .u8 y0, .int .u8 y1, .int .u8 z0, .int .u8 z1])).run Try.prog W = .ok (decide (n = n' ∧ l = l' ∧ s = s' ∧ d = d' ∧ a0 = x0 ∧ a1 = x1 ∧ b0 = y0 ∧ b1 = y1 ∧ c0 = z0 ∧ c1 = z1)) W := by
  have hE := eqArrID
  by_cases h0 : n = n'
  rotate_left
  · simp [go_sem, h0]
  by_cases h1 : l = l'
  rotate_left
  · simp [go_sem, h0, h1]
  by_cases h2 : s = s'
  rotate_left
  · simp [go_sem, h0, h1, h2]
  by_cases h3 : d = d'
  rotate_left
  · simp [go_sem, h0, h1, h2, h3]
  by_cases h4 : a0 = x0 ∧ a1 = x1 ∧ b0 = y0 ∧ b1 = y1 ∧ c0 = z0 ∧ c1 = z1
  · obtain ⟨rfl, rfl, rfl, rfl, rfl, rfl⟩ := h4
    simp [go_sem, h0, h1, h2, h3, hE]
  · have k1 : a0 = x0 → a1 = x1 → b0 = y0 → b1 = y1 → c0 = z0 → ¬ c1 = z1 := fun p0 p1 p2 p3 p4 p5 => h4 ⟨p0, p1, p2, p3, p4, p5⟩
    have k2 : (decide (a0 = x0) && (decide (a1 = x1) && (decide (b0 = y0) && (decide (b1 = y1) && (decide (c0 = z0) && decide (c1 = z1)))))) = false := by simpa using k1
    simp [go_sem, h0, h1, h2, h3, hE]
    rw [if_pos k1, k2]

set_option maxRecDepth 100000 in
theorem eqRefrun (n l s d a0 a1 b0 b1 c0 c1 n' l' s' d' x0 x1 y0 y1 z0 z1 : Int) (W : World) :
    (Op.equalIn (9999 + 1) 43 (.agg #[.int .u8 n, .int .u16 l, .int .u32 s, .int .u8 d, .int .u8 a0, .int .u8 a1, .int .u8 b0, .int .u8 b1, .int .u8 c0, .int .u8 c1]) (.agg #[.int .u8 n', .int .u16 l', .int .u32 s', .int .u8 d', .int .u8 x0, .int .u8 x1, .int .u8 y0, .int .u8 y1, .int .u8 z0, .int .u8 z1])).run Try.prog W = .ok (decide (n = n' ∧ l = l' ∧ s = s' ∧ d = d' ∧ a0 = x0 ∧ a1 = x1 ∧ b0 = y0 ∧ b1 = y1 ∧ c0 = z0 ∧ c1 = z1)) W := by
  have hE := eqArrRef
  by_cases h0 : n = n'
  rotate_left
  · simp [go_sem, h0]
  by_cases h1 : l = l'
  rotate_left
  · simp [go_sem, h0, h1]
  by_cases h2 : s = s'
  rotate_left
  · simp [go_sem, h0, h1, h2]
  by_cases h3 : d = d'
  rotate_left
  · simp [go_sem, h0, h1, h2, h3]
  by_cases h4 : a0 = x0 ∧ a1 = x1 ∧ b0 = y0 ∧ b1 = y1 ∧ c0 = z0 ∧ c1 = z1
  · obtain ⟨rfl, rfl, rfl, rfl, rfl, rfl⟩ := h4
    simp [go_sem, h0, h1, h2, h3, hE]
  · have k1 : a0 = x0 → a1 = x1 → b0 = y0 → b1 = y1 → c0 = z0 → ¬ c1 = z1 := fun p0 p1 p2 p3 p4 p5 => h4 ⟨p0, p1, p2, p3, p4, p5⟩
    have k2 : (decide (a0 = x0) && (decide (a1 = x1) && (decide (b0 = y0) && (decide (b1 = y1) && (decide (c0 = z0) && decide (c1 = z1)))))) = false := by simpa using k1
    simp [go_sem, h0, h1, h2, h3, hE]
    rw [if_pos k1, k2]

/-- ten cells stored. -/
theorem Cells10.set {W : World} {b : Nat} {v0 v1 v2 v3 v4 v5 v6 v7 v8 v9 : Value} (h : Cells10 W b v0 v1 v2 v3 v4 v5 v6 v7 v8 v9) (u0 u1 u2 u3 u4 u5 u6 u7 u8 u9 : Value) : Cells10 ((((((((((W.setCell ⟨b, 0, none⟩ u0).setCell ⟨b, 1, none⟩ u1).setCell ⟨b, 2, none⟩ u2).setCell ⟨b, 3, none⟩ u3).setCell ⟨b, 4, none⟩ u4).setCell ⟨b, 5, none⟩ u5).setCell ⟨b, 6, none⟩ u6).setCell ⟨b, 7, none⟩ u7).setCell ⟨b, 8, none⟩ u8).setCell ⟨b, 9, none⟩ u9) b u0 u1 u2 u3 u4 u5 u6 u7 u8 u9 := by
  obtain ⟨h0, h1, h2, h3, h4, h5, h6, h7, h8, h9⟩ := h
  constructor <;> simp [go_sem, h0, h1, h2, h3, h4, h5, h6, h7, h8, h9]
theorem Cells10.set_other {W : World} {b b' : Nat} {v0 v1 v2 v3 v4 v5 v6 v7 v8 v9 : Value} (h : Cells10 W b' v0 v1 v2 v3 v4 v5 v6 v7 v8 v9) (hb : b ≠ b') (u0 u1 u2 u3 u4 u5 u6 u7 u8 u9 : Value) : Cells10 ((((((((((W.setCell ⟨b, 0, none⟩ u0).setCell ⟨b, 1, none⟩ u1).setCell ⟨b, 2, none⟩ u2).setCell ⟨b, 3, none⟩ u3).setCell ⟨b, 4, none⟩ u4).setCell ⟨b, 5, none⟩ u5).setCell ⟨b, 6, none⟩ u6).setCell ⟨b, 7, none⟩ u7).setCell ⟨b, 8, none⟩ u8).setCell ⟨b, 9, none⟩ u9) b' v0 v1 v2 v3 v4 v5 v6 v7 v8 v9 := by
  obtain ⟨h0, h1, h2, h3, h4, h5, h6, h7, h8, h9⟩ := h
  constructor <;> simp [go_sem, hb, h0, h1, h2, h3, h4, h5, h6, h7, h8, h9]
theorem below_set {w W : World} {B b : Nat} (h : Below B w W) (hb : B ≤ b) (u0 u1 u2 u3 u4 u5 u6 u7 u8 u9 : Value) : Below B w ((((((((((W.setCell ⟨b, 0, none⟩ u0).setCell ⟨b, 1, none⟩ u1).setCell ⟨b, 2, none⟩ u2).setCell ⟨b, 3, none⟩ u3).setCell ⟨b, 4, none⟩ u4).setCell ⟨b, 5, none⟩ u5).setCell ⟨b, 6, none⟩ u6).setCell ⟨b, 7, none⟩ u7).setCell ⟨b, 8, none⟩ u8).setCell ⟨b, 9, none⟩ u9) := by
  repeat (refine Below.setCell ?_ hb _)
  exact h
theorem frozen_set {W : World} {b : Nat} (h : ∀ o, W.frozen? ⟨b, o, none⟩ = false) (u0 u1 u2 u3 u4 u5 u6 u7 u8 u9 : Value) (o : Nat) : (((((((((((W.setCell ⟨b, 0, none⟩ u0).setCell ⟨b, 1, none⟩ u1).setCell ⟨b, 2, none⟩ u2).setCell ⟨b, 3, none⟩ u3).setCell ⟨b, 4, none⟩ u4).setCell ⟨b, 5, none⟩ u5).setCell ⟨b, 6, none⟩ u6).setCell ⟨b, 7, none⟩ u7).setCell ⟨b, 8, none⟩ u8).setCell ⟨b, 9, none⟩ u9)).frozen? ⟨b, o, none⟩ = false := by
  simp [go_sem, h]

theorem cut_self (x : I10) : x.cut x.d = x := by
  unfold I10.cut
  rw [if_pos (Int.le_refl _)]
theorem cut_big {x : I10} {k : Int} (h : x.d ≤ k) : x.cut k = x := by
  unfold I10.cut
  rw [if_pos h]
theorem cut_d {x : I10} {k : Int} (h0 : 0 ≤ k) (h : k ≤ x.d) (h3 : x.d ≤ 3) : (x.cut k).d = k := by
  unfold I10.cut
  split
  · omega
  · split
    · simp_all
    · split
      · simp_all
      · have : k = 2 := by omega
        simp_all
theorem ok_cut {x : I10} {k : Int} (hx : x.ok = true) (hf : x.Fit) (h0 : 0 ≤ k) : (x.cut k).ok = true := by
  obtain ⟨n, l, s, d, a0, a1, b0, b1, c0, c1⟩ := x
  obtain ⟨f0, f3, fa, fb, fc⟩ := hf
  dsimp only at f0 f3 fa fb fc
  by_cases hk : d ≤ k
  · rw [cut_big hk]
    exact hx
  have e : (k = 0 ∨ k = 1 ∨ k = 2) ∧ (d = 1 ∨ d = 2 ∨ d = 3) := by omega
  obtain ⟨e1, e2⟩ := e
  rcases e2 with rfl | rfl | rfl <;> rcases e1 with rfl | rfl | rfl
  all_goals first | (exfalso; omega) | skip
  all_goals
    simp [I10.ok, rI] at hx
    simp [I10.cut, I10.ok, rI, hx]
theorem par_cut {x : I10} {m : Int} (hx : x.ok = true) (hf : x.Fit) (h1 : 1 ≤ m) (hm : m ≤ x.d) : par (x.cut m) = (x.cut (m - 1), 0) := by
  have ho := ok_cut (k := m) hx hf (by omega)
  obtain ⟨n, l, s, d, a0, a1, b0, b1, c0, c1⟩ := x
  obtain ⟨f0, f3, fa, fb, fc⟩ := hf
  dsimp only at f0 f3 fa fb fc hm
  have e : (m = 1 ∨ m = 2 ∨ m = 3) ∧ (d = 1 ∨ d = 2 ∨ d = 3) := by omega
  obtain ⟨e1, e2⟩ := e
  unfold par
  rw [if_neg (by rw [ho]; decide)]
  rcases e2 with rfl | rfl | rfl <;> rcases e1 with rfl | rfl | rfl
  all_goals first | (exfalso; omega) | skip
  all_goals simp at fa fb fc
  all_goals simp [I10.cut, *]

end Go.Proofs.Ytldbmmganicliaa
