/-
  Two keys under '==', the program's and the document's: by an exact answer. No condition.
-/
import Derived.Test.YtfekkfphogjpeaaYar
namespace Go.Proofs.Ytfekkfphogjpeaa
set_option linter.unusedSimpArgs false
set_option linter.unusedVariables false
open Go.RowKit Go.Maps Go.Sort

set_option maxRecDepth 100000 in
theorem eqArrR (f : Nat) (a0 a1 b0 b1 c0 c1 x0 x1 y0 y1 z0 z1 : Int) (W : World) :
    (Op.equalIn (f + 1 + 1 + 1) 34 (.agg #[.int .u8 a0, .int .u8 a1, .int .u8 b0, .int .u8 b1, .int .u8 c0, .int .u8 c1]) (.agg #[.int .u8 x0, .int .u8 x1, .int .u8 y0, .int .u8 y1, .int .u8 z0, .int .u8 z1])).run Try.prog W
      = .ok (decide (a0 = x0 ∧ a1 = x1 ∧ b0 = y0 ∧ b1 = y1 ∧ c0 = z0 ∧ c1 = z1)) W := by
  obtain ⟨i, hi⟩ : ∃ i, Try.prog.info? 33 = some i := info_of_underlying Try.underlying33
  rw [run_equalIn_array (P := Try.prog) W (f + 1 + 1) (n := 3) (e := 33) _ _ Try.underlying34 hi]
  have hC : Try.prog.cellsOf 33 = 2 := by kernel_rfl
  rw [show List.range 3 = [0, 1, 2] from rfl]
  by_cases h0 : a0 = x0
  rotate_left
  · simp [go_sem, Op.eqItems, hC, h0]
  by_cases h1 : a1 = x1
  rotate_left
  · simp [go_sem, Op.eqItems, hC, h0, h1]
  by_cases h2 : b0 = y0
  rotate_left
  · simp [go_sem, Op.eqItems, hC, h0, h1, h2]
  by_cases h3 : b1 = y1
  rotate_left
  · simp [go_sem, Op.eqItems, hC, h0, h1, h2, h3]
  by_cases h4 : c0 = z0
  rotate_left
  · simp [go_sem, Op.eqItems, hC, h0, h1, h2, h3, h4]
  by_cases h5 : c1 = z1
  rotate_left
  · simp [go_sem, Op.eqItems, hC, h0, h1, h2, h3, h4, h5]
  simp [go_sem, Op.eqItems, hC, h0, h1, h2, h3, h4, h5]

set_option maxRecDepth 100000 in
theorem eqArrP (f : Nat) (a0 a1 b0 b1 c0 c1 x0 x1 y0 y1 z0 z1 : Int) (W : World) :
    (Op.equalIn (f + 1 + 1 + 1) 46 (.agg #[.int .u8 a0, .int .u8 a1, .int .u8 b0, .int .u8 b1, .int .u8 c0, .int .u8 c1]) (.agg #[.int .u8 x0, .int .u8 x1, .int .u8 y0, .int .u8 y1, .int .u8 z0, .int .u8 z1])).run Try.prog W
      = .ok (decide (a0 = x0 ∧ a1 = x1 ∧ b0 = y0 ∧ b1 = y1 ∧ c0 = z0 ∧ c1 = z1)) W := by
  obtain ⟨i, hi⟩ : ∃ i, Try.prog.info? 45 = some i := info_of_underlying Try.underlying45
  rw [run_equalIn_array (P := Try.prog) W (f + 1 + 1) (n := 3) (e := 45) _ _ Try.underlying46 hi]
  have hC : Try.prog.cellsOf 45 = 2 := by kernel_rfl
  rw [show List.range 3 = [0, 1, 2] from rfl]
  by_cases h0 : a0 = x0
  rotate_left
  · simp [go_sem, Op.eqItems, hC, h0]
  by_cases h1 : a1 = x1
  rotate_left
  · simp [go_sem, Op.eqItems, hC, h0, h1]
  by_cases h2 : b0 = y0
  rotate_left
  · simp [go_sem, Op.eqItems, hC, h0, h1, h2]
  by_cases h3 : b1 = y1
  rotate_left
  · simp [go_sem, Op.eqItems, hC, h0, h1, h2, h3]
  by_cases h4 : c0 = z0
  rotate_left
  · simp [go_sem, Op.eqItems, hC, h0, h1, h2, h3, h4]
  by_cases h5 : c1 = z1
  rotate_left
  · simp [go_sem, Op.eqItems, hC, h0, h1, h2, h3, h4, h5]
  simp [go_sem, Op.eqItems, hC, h0, h1, h2, h3, h4, h5]

set_option maxRecDepth 100000 in
set_option maxHeartbeats 1000000 in
theorem eqKeyR (x y : K13) (W : World) : (Op.equalIn (9999 + 1) 38 (.agg #[.int .u8 x.k, .int .u8 x.pn, .int .u16 x.pl, .int .u8 x.x.n, .int .u16 x.x.l, .int .u32 x.x.s, .int .u8 x.x.d, .int .u8 x.x.a0, .int .u8 x.x.a1, .int .u8 x.x.b0, .int .u8 x.x.b1, .int .u8 x.x.c0, .int .u8 x.x.c1]) (.agg #[.int .u8 y.k, .int .u8 y.pn, .int .u16 y.pl, .int .u8 y.x.n, .int .u16 y.x.l, .int .u32 y.x.s, .int .u8 y.x.d, .int .u8 y.x.a0, .int .u8 y.x.a1, .int .u8 y.x.b0, .int .u8 y.x.b1, .int .u8 y.x.c0, .int .u8 y.x.c1])).run Try.prog W = .ok (decide (x = y)) W := by
  have hE := eqArrR 9995
  obtain ⟨k, pn, pl, ⟨n, l, s, d, a0, a1, b0, b1, c0, c1⟩⟩ := x
  obtain ⟨k', pn', pl', ⟨n', l', s', d', x0, x1, y0, y1, z0, z1⟩⟩ := y
  simp only [K13.mk.injEq, I10.mk.injEq]
  by_cases g0 : k = k'
  rotate_left
  · simp [go_sem, g0]
  by_cases g1 : pn = pn'
  rotate_left
  · simp [go_sem, g0, g1]
  by_cases g2 : pl = pl'
  rotate_left
  · simp [go_sem, g0, g1, g2]
  by_cases h0 : n = n'
  rotate_left
  · simp [go_sem, g0, g1, g2, h0]
  by_cases h1 : l = l'
  rotate_left
  · simp [go_sem, g0, g1, g2, h0, h1]
  by_cases h2 : s = s'
  rotate_left
  · simp [go_sem, g0, g1, g2, h0, h1, h2]
  by_cases h3 : d = d'
  rotate_left
  · simp [go_sem, g0, g1, g2, h0, h1, h2, h3]
  by_cases h4 : a0 = x0 ∧ a1 = x1 ∧ b0 = y0 ∧ b1 = y1 ∧ c0 = z0 ∧ c1 = z1
  · obtain ⟨rfl, rfl, rfl, rfl, rfl, rfl⟩ := h4
    simp [go_sem, g0, g1, g2, h0, h1, h2, h3, hE]
  · have k1 : a0 = x0 → a1 = x1 → b0 = y0 → b1 = y1 → c0 = z0 → ¬ c1 = z1 := fun p0 p1 p2 p3 p4 p5 => h4 ⟨p0, p1, p2, p3, p4, p5⟩
    have k2 : (decide (a0 = x0) && (decide (a1 = x1) && (decide (b0 = y0) && (decide (b1 = y1) && (decide (c0 = z0) && decide (c1 = z1)))))) = false := by simpa using k1
    simp [go_sem, g0, g1, g2, h0, h1, h2, h3, hE]
    rw [if_pos k1, k2]

set_option maxRecDepth 100000 in
set_option maxHeartbeats 1000000 in
theorem eqKeyP (x y : K13) (W : World) : (Op.equalIn (9999 + 1) 50 (.agg #[.int .u8 x.k, .int .u8 x.pn, .int .u16 x.pl, .int .u8 x.x.n, .int .u16 x.x.l, .int .u32 x.x.s, .int .u8 x.x.d, .int .u8 x.x.a0, .int .u8 x.x.a1, .int .u8 x.x.b0, .int .u8 x.x.b1, .int .u8 x.x.c0, .int .u8 x.x.c1]) (.agg #[.int .u8 y.k, .int .u8 y.pn, .int .u16 y.pl, .int .u8 y.x.n, .int .u16 y.x.l, .int .u32 y.x.s, .int .u8 y.x.d, .int .u8 y.x.a0, .int .u8 y.x.a1, .int .u8 y.x.b0, .int .u8 y.x.b1, .int .u8 y.x.c0, .int .u8 y.x.c1])).run Try.prog W = .ok (decide (x = y)) W := by
  have hE := eqArrP 9995
  obtain ⟨k, pn, pl, ⟨n, l, s, d, a0, a1, b0, b1, c0, c1⟩⟩ := x
  obtain ⟨k', pn', pl', ⟨n', l', s', d', x0, x1, y0, y1, z0, z1⟩⟩ := y
  simp only [K13.mk.injEq, I10.mk.injEq]
  by_cases g0 : k = k'
  rotate_left
  · simp [go_sem, g0]
  by_cases g1 : pn = pn'
  rotate_left
  · simp [go_sem, g0, g1]
  by_cases g2 : pl = pl'
  rotate_left
  · simp [go_sem, g0, g1, g2]
  by_cases h0 : n = n'
  rotate_left
  · simp [go_sem, g0, g1, g2, h0]
  by_cases h1 : l = l'
  rotate_left
  · simp [go_sem, g0, g1, g2, h0, h1]
  by_cases h2 : s = s'
  rotate_left
  · simp [go_sem, g0, g1, g2, h0, h1, h2]
  by_cases h3 : d = d'
  rotate_left
  · simp [go_sem, g0, g1, g2, h0, h1, h2, h3]
  by_cases h4 : a0 = x0 ∧ a1 = x1 ∧ b0 = y0 ∧ b1 = y1 ∧ c0 = z0 ∧ c1 = z1
  · obtain ⟨rfl, rfl, rfl, rfl, rfl, rfl⟩ := h4
    simp [go_sem, g0, g1, g2, h0, h1, h2, h3, hE]
  · have k1 : a0 = x0 → a1 = x1 → b0 = y0 → b1 = y1 → c0 = z0 → ¬ c1 = z1 := fun p0 p1 p2 p3 p4 p5 => h4 ⟨p0, p1, p2, p3, p4, p5⟩
    have k2 : (decide (a0 = x0) && (decide (a1 = x1) && (decide (b0 = y0) && (decide (b1 = y1) && (decide (c0 = z0) && decide (c1 = z1)))))) = false := by simpa using k1
    simp [go_sem, g0, g1, g2, h0, h1, h2, h3, hE]
    rw [if_pos k1, k2]

theorem eqOpR {a : Act} {W : World} (x y : K13) (u v : Operand) (t0 : TypeId) (hu : a.eval u = .agg #[.int .u8 x.k, .int .u8 x.pn, .int .u16 x.pl, .int .u8 x.x.n, .int .u16 x.x.l, .int .u32 x.x.s, .int .u8 x.x.d, .int .u8 x.x.a0, .int .u8 x.x.a1, .int .u8 x.x.b0, .int .u8 x.x.b1, .int .u8 x.x.c0, .int .u8 x.x.c1]) (hv : a.eval v = .agg #[.int .u8 y.k, .int .u8 y.pn, .int .u16 y.pl, .int .u8 y.x.n, .int .u16 y.x.l, .int .u32 y.x.s, .int .u8 y.x.d, .int .u8 y.x.a0, .int .u8 y.x.a1, .int .u8 y.x.b0, .int .u8 y.x.b1, .int .u8 y.x.c0, .int .u8 y.x.c1]) : (execOp a.eval (bareO (Op.binOp .eql 38 u v 38) t0)).run Try.prog W = .ok (.value (.bool (decide (x = y)))) W := by
  unfold execOp bareO
  simp [hu, hv, run_eqGuard_agg (P := Try.prog) (w := W) BinOp.eql 38 u v _ _ (by kernel_rfl), run_eql_struct, eqKeyR, Result.andThen]
theorem neOpP {a : Act} {W : World} (x y : K13) (u v : Operand) (t0 : TypeId) (hu : a.eval u = .agg #[.int .u8 x.k, .int .u8 x.pn, .int .u16 x.pl, .int .u8 x.x.n, .int .u16 x.x.l, .int .u32 x.x.s, .int .u8 x.x.d, .int .u8 x.x.a0, .int .u8 x.x.a1, .int .u8 x.x.b0, .int .u8 x.x.b1, .int .u8 x.x.c0, .int .u8 x.x.c1]) (hv : a.eval v = .agg #[.int .u8 y.k, .int .u8 y.pn, .int .u16 y.pl, .int .u8 y.x.n, .int .u16 y.x.l, .int .u32 y.x.s, .int .u8 y.x.d, .int .u8 y.x.a0, .int .u8 y.x.a1, .int .u8 y.x.b0, .int .u8 y.x.b1, .int .u8 y.x.c0, .int .u8 y.x.c1]) : (execOp a.eval (bareO (Op.binOp .neq 50 u v 50) t0)).run Try.prog W = .ok (.value (.bool (!decide (x = y)))) W := by
  unfold execOp bareO
  simp [hu, hv, run_eqGuard_agg (P := Try.prog) (w := W) BinOp.neq 50 u v _ _ (by kernel_rfl), run_neq_struct, eqKeyP, Result.andThen]
theorem wpList_val {P : Program} {w w' : World} {ops : Array Oper} {rest : List Oper} {o : Oper} {a : Act} {Q : Exit → Act → World → Prop} {v : Value} (hgd : o.guard = none) (d : Tmp) (hd : o.dst = some d) (p : Op) (ho : o.op = p)
    (hr : (execOp a.eval (bareO p o.type)).run P w = .ok (.value v) w') (h : wpList P ops Q rest (a.put (some d) v) w') : wpList P ops Q (o :: rest) a w :=
  wpList_plain hgd fun K hK => by
    rw [execOp_bare ho] at hr
    rw [← hd] at h
    unfold Oper.wp
    rw [hr, Oper.upon_value]
    exact hK _ _ h

end Go.Proofs.Ytfekkfphogjpeaa
