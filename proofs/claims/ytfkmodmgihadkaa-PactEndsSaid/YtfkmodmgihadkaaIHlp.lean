/-
  Helpers: ten cells side by side that are kept; an identifier of the document that comes in as an argument is opened to its ten numbers. No condition.
-/
import Derived.Test.YtfkmodmgihadkaaIConv
import Derived.ProofKit
import Derived.OpenShut
import Derived.Lib.SmallJoins
import Derived.Lib.QuietBelow
import Derived.ChangeOld
import Derived.Below
import Derived.DeepKeys4
namespace Go.Proofs.Ytfkmodmgihadkaa.I
set_option linter.unusedSimpArgs false
set_option linter.unusedVariables false
open Go.RowKit

/-- ten cells side by side. -/
structure Cells10 (W : World) (b : Nat) (v0 v1 v2 v3 v4 v5 v6 v7 v8 v9 : Value) : Prop where
  c0 : W.cell? ⟨b, 0, none⟩ = some v0
  c1 : W.cell? ⟨b, 1, none⟩ = some v1
  c2 : W.cell? ⟨b, 2, none⟩ = some v2
  c3 : W.cell? ⟨b, 3, none⟩ = some v3
  c4 : W.cell? ⟨b, 4, none⟩ = some v4
  c5 : W.cell? ⟨b, 5, none⟩ = some v5
  c6 : W.cell? ⟨b, 6, none⟩ = some v6
  c7 : W.cell? ⟨b, 7, none⟩ = some v7
  c8 : W.cell? ⟨b, 8, none⟩ = some v8
  c9 : W.cell? ⟨b, 9, none⟩ = some v9

theorem Cells10.kept {W W' : World} {B b : Nat} {v0 v1 v2 v3 v4 v5 v6 v7 v8 v9 : Value} (h : Cells10 W b v0 v1 v2 v3 v4 v5 v6 v7 v8 v9) (hb : Below B W W') (hl : b < B) : Cells10 W' b v0 v1 v2 v3 v4 v5 v6 v7 v8 v9 :=
  ⟨(hb.cell (p := ⟨b, 0, none⟩) hl).trans h.c0, (hb.cell (p := ⟨b, 1, none⟩) hl).trans h.c1, (hb.cell (p := ⟨b, 2, none⟩) hl).trans h.c2, (hb.cell (p := ⟨b, 3, none⟩) hl).trans h.c3, (hb.cell (p := ⟨b, 4, none⟩) hl).trans h.c4, (hb.cell (p := ⟨b, 5, none⟩) hl).trans h.c5, (hb.cell (p := ⟨b, 6, none⟩) hl).trans h.c6, (hb.cell (p := ⟨b, 7, none⟩) hl).trans h.c7, (hb.cell (p := ⟨b, 8, none⟩) hl).trans h.c8, (hb.cell (p := ⟨b, 9, none⟩) hl).trans h.c9⟩

theorem cells10_new (W : World) (v0 v1 v2 v3 v4 v5 v6 v7 v8 v9 : Value) (t : TypeId) : Cells10 (W.alloc (.cells #[v0, v1, v2, v3, v4, v5, v6, v7, v8, v9] t)) W.heap.size v0 v1 v2 v3 v4 v5 v6 v7 v8 v9 :=
  ⟨by simp, by simp, by simp, by simp, by simp, by simp, by simp, by simp, by simp, by simp⟩

set_option maxRecDepth 100000 in
open Go.ChangeShapes Go.WideShapes Go.Joins in
set_option maxRecDepth 100000 in
open Go.ChangeShapes Go.WideShapes Go.Joins in
set_option maxRecDepth 100000 in
theorem eqArrID (a0 a1 b0 b1 c0 c1 x0 x1 y0 y1 z0 z1 : Int) (W : World) :
    (Op.equalIn 9999 85 (.agg #[.int .u8 a0, .int .u8 a1, .int .u8 b0, .int .u8 b1, .int .u8 c0, .int .u8 c1]) (.agg #[.int .u8 x0, .int .u8 x1, .int .u8 y0, .int .u8 y1, .int .u8 z0, .int .u8 z1])).run Try.prog W
      = .ok (decide (a0 = x0 ∧ a1 = x1 ∧ b0 = y0 ∧ b1 = y1 ∧ c0 = z0 ∧ c1 = z1)) W := by
  obtain ⟨i, hi⟩ : ∃ i, Try.prog.info? 84 = some i := info_of_underlying Try.underlying84
  rw [show (9999 : Nat) = 9998 + 1 from rfl, run_equalIn_array (P := Try.prog) W 9998 (n := 3) (e := 84) _ _ Try.underlying85 hi]
  have hC : Try.prog.cellsOf 84 = 2 := by kernel_rfl
  rw [show List.range 3 = [0, 1, 2] from rfl]
  by_cases h0 : a0 = x0
  rotate_left
  · simp [go_sem, Op.eqItems, hC, h0]
  by_cases h1 : a1 = x1
  rotate_left
  · simp [go_sem, Op.eqItems, hC, h0, h1]
  by_cases h2 : b0 = y0
  rotate_left
  · simp [go_sem, Op.eqItems, hC, h0, h1, h2]
  by_cases h3 : b1 = y1
  rotate_left
  · simp [go_sem, Op.eqItems, hC, h0, h1, h2, h3]
  by_cases h4 : c0 = z0
  rotate_left
  · simp [go_sem, Op.eqItems, hC, h0, h1, h2, h3, h4]
  by_cases h5 : c1 = z1
  rotate_left
  · simp [go_sem, Op.eqItems, hC, h0, h1, h2, h3, h4, h5]
  simp [go_sem, Op.eqItems, hC, h0, h1, h2, h3, h4, h5]


end Go.Proofs.Ytfkmodmgihadkaa.I
