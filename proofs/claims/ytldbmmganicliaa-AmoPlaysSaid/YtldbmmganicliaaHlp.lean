/-
  Helpers: ten cells side by side that are kept; an identifier of the document that comes in as an argument is opened to its ten numbers. No condition.
-/
import Derived.Test.YtldbmmganicliaaConv
import Derived.ProofKit
import Derived.OpenShut
import Derived.Lib.SmallJoins
import Derived.Lib.QuietBelow
import Derived.ChangeOld
import Derived.Below
import Derived.DeepKeys4
namespace Go.Proofs.Ytldbmmganicliaa
set_option linter.unusedSimpArgs false
set_option linter.unusedVariables false
open Go.RowKit

/-- ten cells side by side. -/
structure Cells10 (W : World) (b : Nat) (v0 v1 v2 v3 v4 v5 v6 v7 v8 v9 : Value) : Prop where
  c0 : W.cell? ⟨b, 0, none⟩ = some v0
  c1 : W.cell? ⟨b, 1, none⟩ = some v1
  c2 : W.cell? ⟨b, 2, none⟩ = some v2
  c3 : W.cell? ⟨b, 3, none⟩ = some v3
  c4 : W.cell? ⟨b, 4, none⟩ = some v4
  c5 : W.cell? ⟨b, 5, none⟩ = some v5
  c6 : W.cell? ⟨b, 6, none⟩ = some v6
  c7 : W.cell? ⟨b, 7, none⟩ = some v7
  c8 : W.cell? ⟨b, 8, none⟩ = some v8
  c9 : W.cell? ⟨b, 9, none⟩ = some v9

theorem Cells10.kept {W W' : World} {B b : Nat} {v0 v1 v2 v3 v4 v5 v6 v7 v8 v9 : Value} (h : Cells10 W b v0 v1 v2 v3 v4 v5 v6 v7 v8 v9) (hb : Below B W W') (hl : b < B) : Cells10 W' b v0 v1 v2 v3 v4 v5 v6 v7 v8 v9 :=
  ⟨(hb.cell (p := ⟨b, 0, none⟩) hl).trans h.c0, (hb.cell (p := ⟨b, 1, none⟩) hl).trans h.c1, (hb.cell (p := ⟨b, 2, none⟩) hl).trans h.c2, (hb.cell (p := ⟨b, 3, none⟩) hl).trans h.c3, (hb.cell (p := ⟨b, 4, none⟩) hl).trans h.c4, (hb.cell (p := ⟨b, 5, none⟩) hl).trans h.c5, (hb.cell (p := ⟨b, 6, none⟩) hl).trans h.c6, (hb.cell (p := ⟨b, 7, none⟩) hl).trans h.c7, (hb.cell (p := ⟨b, 8, none⟩) hl).trans h.c8, (hb.cell (p := ⟨b, 9, none⟩) hl).trans h.c9⟩

theorem cells10_new (W : World) (v0 v1 v2 v3 v4 v5 v6 v7 v8 v9 : Value) (t : TypeId) : Cells10 (W.alloc (.cells #[v0, v1, v2, v3, v4, v5, v6, v7, v8, v9] t)) W.heap.size v0 v1 v2 v3 v4 v5 v6 v7 v8 v9 :=
  ⟨by simp, by simp, by simp, by simp, by simp, by simp, by simp, by simp, by simp, by simp⟩

set_option maxRecDepth 100000 in
open Go.ChangeShapes Go.WideShapes Go.Joins in
/-- The ten cells of an identifier of the document, out of its reading. -/
theorem open_cells {H : Type} {enc : TypeId × Value → H} {w : World} {base : Nat} {spare : Nat → Bool} {held : Bool} {fuel : Nat} {cs : List Value} {x : DataW H × List MemPlace}
    (h : DataW.trod enc Try.prog w base spare held fuel 43 cs = some x) :
    ∃ n l s d a0 a1 b0 b1 c0 c1 : Int, cs = [.int .u8 n, .int .u16 l, .int .u32 s, .int .u8 d, .int .u8 a0, .int .u8 a1, .int .u8 b0, .int .u8 b1, .int .u8 c0, .int .u8 c1] ∧ (0 ≤ n ∧ n ≤ 255) ∧ (0 ≤ l ∧ l ≤ 65535) ∧ (0 ≤ s ∧ s ≤ 4294967295) ∧ (0 ≤ d ∧ d ≤ 255) ∧ (0 ≤ a0 ∧ a0 ≤ 255) ∧ (0 ≤ a1 ∧ a1 ≤ 255) ∧ (0 ≤ b0 ∧ b0 ≤ 255) ∧ (0 ≤ b1 ∧ b1 ≤ 255) ∧ (0 ≤ c0 ∧ c0 ≤ 255) ∧ (0 ≤ c1 ∧ c1 ≤ 255) := by
  obtain ⟨y0, y1, y2, y3, m, _, hl, h0, h1, h2, h3⟩ := trod_struct4 Try.underlying43 h
  have hC : Try.prog.cellsOf 43 = 10 := by kernel_rfl
  have hC24 : Try.prog.cellsOf 39 = 2 := by kernel_rfl
  have hC25 : Try.prog.cellsOf 32 = 1 := by kernel_rfl
  have hC5 : Try.prog.cellsOf 5 = 1 := by kernel_rfl
  have hC22 : Try.prog.cellsOf 29 = 1 := by kernel_rfl
  have hC28 : Try.prog.cellsOf 41 = 6 := by kernel_rfl
  have hC27 : Try.prog.cellsOf 40 = 2 := by kernel_rfl
  match cs, hl.trans hC with
  | [x0, x1, x2, x3, x4, x5, x6, x7, x8, x9], _ =>
    simp only [hC24, hC25, hC5, hC28, List.drop_zero, List.take_succ_cons, List.take_zero, List.drop_succ_cons] at h0 h1 h2 h3
    obtain ⟨p0, p1, m0, _, _, g0, g1⟩ := trod_struct2 Try.underlying39 h0
    simp only [hC5, hC22, List.drop_zero, List.take_succ_cons, List.take_zero, List.drop_succ_cons] at g0 g1
    obtain ⟨n, e0, _, w0⟩ := DataW.trod_int Try.underlying5 g0
    obtain ⟨l, e1, _, w1⟩ := DataW.trod_int Try.underlying29 g1
    obtain ⟨s, e2, _, w2⟩ := DataW.trod_int Try.underlying32 h1
    obtain ⟨d, e3, _, w3⟩ := DataW.trod_int Try.underlying5 h2
    obtain ⟨xs, m3, _, _, _, hn, hi⟩ := DataW.trod_array Try.underlying41 h3
    match xs, hn with
    | [q0, q1, q2], _ =>
      have i0 := hi 0 (by omega)
      have i1 := hi 1 (by omega)
      have i2 := hi 2 (by omega)
      simp only [hC27, Nat.zero_mul, Nat.one_mul, List.drop_zero, List.take_succ_cons, List.take_zero, List.drop_succ_cons, Nat.reduceMul, List.getElem?_cons_zero, List.getElem?_cons_succ] at i0 i1 i2
      obtain ⟨_, _, _, _, _, k0, k1⟩ := trod_struct2 Try.underlying40 i0
      obtain ⟨_, _, _, _, _, k2, k3⟩ := trod_struct2 Try.underlying40 i1
      obtain ⟨_, _, _, _, _, k4, k5⟩ := trod_struct2 Try.underlying40 i2
      simp only [hC5, List.drop_zero, List.take_succ_cons, List.take_zero, List.drop_succ_cons] at k0 k1 k2 k3 k4 k5
      obtain ⟨a0, f0, _, u0⟩ := DataW.trod_int Try.underlying5 k0
      obtain ⟨a1, f1, _, u1⟩ := DataW.trod_int Try.underlying5 k1
      obtain ⟨b0, f2, _, u2⟩ := DataW.trod_int Try.underlying5 k2
      obtain ⟨b1, f3, _, u3⟩ := DataW.trod_int Try.underlying5 k3
      obtain ⟨c0, f4, _, u4⟩ := DataW.trod_int Try.underlying5 k4
      obtain ⟨c1, f5, _, u5⟩ := DataW.trod_int Try.underlying5 k5
      simp at e0 e1 e2 e3 f0 f1 f2 f3 f4 f5
      subst e0 e1 e2 e3 f0 f1 f2 f3 f4 f5
      exact ⟨n, l, s, d, a0, a1, b0, b1, c0, c1, rfl, bounds_u8 w0, bounds_u16 w1, bounds_u32 w2, bounds_u8 w3, bounds_u8 u0, bounds_u8 u1, bounds_u8 u2, bounds_u8 u3, bounds_u8 u4, bounds_u8 u5⟩

set_option maxRecDepth 100000 in
open Go.ChangeShapes Go.WideShapes Go.Joins in
/-- An identifier of the document, as an argument. -/
theorem open_id {H : Type} {enc : TypeId × Value → H} {w : World} {base : Nat} {spare : Nat → Bool} {held : Bool} {r : Reach} {b0' : Nat} {v : Value} {x : DataW H} {p : List MemPlace}
    (hv : Value.okWide Try.prog w r b0' 43 v) (h : DataW.Trod enc Try.prog w base spare held 43 v x p) :
    ∃ n l s d a0 a1 b0 b1 c0 c1 : Int, v = .agg #[.int .u8 n, .int .u16 l, .int .u32 s, .int .u8 d, .int .u8 a0, .int .u8 a1, .int .u8 b0, .int .u8 b1, .int .u8 c0, .int .u8 c1] ∧ (0 ≤ n ∧ n ≤ 255) ∧ (0 ≤ l ∧ l ≤ 65535) ∧ (0 ≤ s ∧ s ≤ 4294967295) ∧ (0 ≤ d ∧ d ≤ 255) ∧ (0 ≤ a0 ∧ a0 ≤ 255) ∧ (0 ≤ a1 ∧ a1 ≤ 255) ∧ (0 ≤ b0 ∧ b0 ≤ 255) ∧ (0 ≤ b1 ∧ b1 ≤ 255) ∧ (0 ≤ c0 ∧ c0 ≤ 255) ∧ (0 ≤ c1 ∧ c1 ≤ 255) := by
  obtain ⟨cs, rfl, _⟩ := okWide_struct Try.underlying43 hv
  obtain ⟨fuel, hf⟩ := h
  obtain ⟨n, l, s, d, a0, a1, b0, b1, c0, c1, hcs, hb⟩ := open_cells hf
  have e : cs = #[.int .u8 n, .int .u16 l, .int .u32 s, .int .u8 d, .int .u8 a0, .int .u8 a1, .int .u8 b0, .int .u8 b1, .int .u8 c0, .int .u8 c1] := by
    have e' : cs.toList = [.int .u8 n, .int .u16 l, .int .u32 s, .int .u8 d, .int .u8 a0, .int .u8 a1, .int .u8 b0, .int .u8 b1, .int .u8 c0, .int .u8 c1] := hcs
    cases cs
    simp only at e'
    rw [e']
  exact ⟨n, l, s, d, a0, a1, b0, b1, c0, c1, by rw [e], hb⟩

set_option maxRecDepth 100000 in
theorem eqArrRef (a0 a1 b0 b1 c0 c1 x0 x1 y0 y1 z0 z1 : Int) (W : World) :
    (Op.equalIn 9999 41 (.agg #[.int .u8 a0, .int .u8 a1, .int .u8 b0, .int .u8 b1, .int .u8 c0, .int .u8 c1]) (.agg #[.int .u8 x0, .int .u8 x1, .int .u8 y0, .int .u8 y1, .int .u8 z0, .int .u8 z1])).run Try.prog W
      = .ok (decide (a0 = x0 ∧ a1 = x1 ∧ b0 = y0 ∧ b1 = y1 ∧ c0 = z0 ∧ c1 = z1)) W := by
  obtain ⟨i, hi⟩ : ∃ i, Try.prog.info? 40 = some i := info_of_underlying Try.underlying40
  rw [show (9999 : Nat) = 9998 + 1 from rfl, run_equalIn_array (P := Try.prog) W 9998 (n := 3) (e := 40) _ _ Try.underlying41 hi]
  have hC : Try.prog.cellsOf 40 = 2 := by kernel_rfl
  rw [show List.range 3 = [0, 1, 2] from rfl]
  by_cases h0 : a0 = x0
  rotate_left
  · simp [go_sem, Op.eqItems, hC, h0]
  by_cases h1 : a1 = x1
  rotate_left
  · simp [go_sem, Op.eqItems, hC, h0, h1]
  by_cases h2 : b0 = y0
  rotate_left
  · simp [go_sem, Op.eqItems, hC, h0, h1, h2]
  by_cases h3 : b1 = y1
  rotate_left
  · simp [go_sem, Op.eqItems, hC, h0, h1, h2, h3]
  by_cases h4 : c0 = z0
  rotate_left
  · simp [go_sem, Op.eqItems, hC, h0, h1, h2, h3, h4]
  by_cases h5 : c1 = z1
  rotate_left
  · simp [go_sem, Op.eqItems, hC, h0, h1, h2, h3, h4, h5]
  simp [go_sem, Op.eqItems, hC, h0, h1, h2, h3, h4, h5]

set_option maxRecDepth 100000 in
theorem eqArrID (a0 a1 b0 b1 c0 c1 x0 x1 y0 y1 z0 z1 : Int) (W : World) :
    (Op.equalIn 9999 35 (.agg #[.int .u8 a0, .int .u8 a1, .int .u8 b0, .int .u8 b1, .int .u8 c0, .int .u8 c1]) (.agg #[.int .u8 x0, .int .u8 x1, .int .u8 y0, .int .u8 y1, .int .u8 z0, .int .u8 z1])).run Try.prog W
      = .ok (decide (a0 = x0 ∧ a1 = x1 ∧ b0 = y0 ∧ b1 = y1 ∧ c0 = z0 ∧ c1 = z1)) W := by
  obtain ⟨i, hi⟩ : ∃ i, Try.prog.info? 34 = some i := info_of_underlying Try.underlying34
  rw [show (9999 : Nat) = 9998 + 1 from rfl, run_equalIn_array (P := Try.prog) W 9998 (n := 3) (e := 34) _ _ Try.underlying35 hi]
  have hC : Try.prog.cellsOf 34 = 2 := by kernel_rfl
  rw [show List.range 3 = [0, 1, 2] from rfl]
  by_cases h0 : a0 = x0
  rotate_left
  · simp [go_sem, Op.eqItems, hC, h0]
  by_cases h1 : a1 = x1
  rotate_left
  · simp [go_sem, Op.eqItems, hC, h0, h1]
  by_cases h2 : b0 = y0
  rotate_left
  · simp [go_sem, Op.eqItems, hC, h0, h1, h2]
  by_cases h3 : b1 = y1
  rotate_left
  · simp [go_sem, Op.eqItems, hC, h0, h1, h2, h3]
  by_cases h4 : c0 = z0
  rotate_left
  · simp [go_sem, Op.eqItems, hC, h0, h1, h2, h3, h4]
  by_cases h5 : c1 = z1
  rotate_left
  · simp [go_sem, Op.eqItems, hC, h0, h1, h2, h3, h4, h5]
  simp [go_sem, Op.eqItems, hC, h0, h1, h2, h3, h4, h5]


end Go.Proofs.Ytldbmmganicliaa
