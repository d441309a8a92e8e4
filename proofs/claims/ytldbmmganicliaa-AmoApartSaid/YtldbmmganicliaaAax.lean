/-
  The law AmoApart walked: it answers true; what it stands on. Condition: the acts lie in memory, numbers fit their kinds.
-/
import Derived.Test.YtldbmmganicliaaApa
import Derived.Maps.RangeWalk
import Derived.Laws.IdiomRangeMap
import Derived.Test.YtldbmmganicliaaAmu
import Derived.Test.YtldbmmganicliaaAdg
import Derived.Test.YtldbmmganicliaaAmn
import Derived.Deep.MidRow
namespace Go.Proofs.Ytldbmmganicliaa
section
set_option linter.unusedSimpArgs false
set_option linter.unusedVariables false
open Go.RowKit Go.Maps Go.Sort

set_option maxRecDepth 100000 in
theorem eqArrRef8 (a0 a1 b0 b1 c0 c1 x0 x1 y0 y1 z0 z1 : Int) (W : World) :
    (Op.equalIn 9998 41 (.agg #[.int .u8 a0, .int .u8 a1, .int .u8 b0, .int .u8 b1, .int .u8 c0, .int .u8 c1]) (.agg #[.int .u8 x0, .int .u8 x1, .int .u8 y0, .int .u8 y1, .int .u8 z0, .int .u8 z1])).run Try.prog W
      = .ok (decide (a0 = x0 ∧ a1 = x1 ∧ b0 = y0 ∧ b1 = y1 ∧ c0 = z0 ∧ c1 = z1)) W := by
  obtain ⟨i, hi⟩ : ∃ i, Try.prog.info? 40 = some i := info_of_underlying Try.underlying40
  rw [show (9998 : Nat) = 9997 + 1 from rfl, run_equalIn_array (P := Try.prog) W 9997 (n := 3) (e := 40) _ _ Try.underlying41 hi]
  have hC : Try.prog.cellsOf 40 = 2 := by kernel_rfl
  rw [show List.range 3 = [0, 1, 2] from rfl]
  by_cases h0 : a0 = x0
  rotate_left
  · simp [go_sem, Op.eqItems, hC, h0]
  by_cases h1 : a1 = x1
  rotate_left
  · simp [go_sem, Op.eqItems, hC, h0, h1]
  by_cases h2 : b0 = y0
  rotate_left
  · simp [go_sem, Op.eqItems, hC, h0, h1, h2]
  by_cases h3 : b1 = y1
  rotate_left
  · simp [go_sem, Op.eqItems, hC, h0, h1, h2, h3]
  by_cases h4 : c0 = z0
  rotate_left
  · simp [go_sem, Op.eqItems, hC, h0, h1, h2, h3, h4]
  by_cases h5 : c1 = z1
  rotate_left
  · simp [go_sem, Op.eqItems, hC, h0, h1, h2, h3, h4, h5]
  simp [go_sem, Op.eqItems, hC, h0, h1, h2, h3, h4, h5]

set_option maxRecDepth 100000 in
theorem eqArrID8 (a0 a1 b0 b1 c0 c1 x0 x1 y0 y1 z0 z1 : Int) (W : World) :
    (Op.equalIn 9998 35 (.agg #[.int .u8 a0, .int .u8 a1, .int .u8 b0, .int .u8 b1, .int .u8 c0, .int .u8 c1]) (.agg #[.int .u8 x0, .int .u8 x1, .int .u8 y0, .int .u8 y1, .int .u8 z0, .int .u8 z1])).run Try.prog W
      = .ok (decide (a0 = x0 ∧ a1 = x1 ∧ b0 = y0 ∧ b1 = y1 ∧ c0 = z0 ∧ c1 = z1)) W := by
  obtain ⟨i, hi⟩ : ∃ i, Try.prog.info? 34 = some i := info_of_underlying Try.underlying34
  rw [show (9998 : Nat) = 9997 + 1 from rfl, run_equalIn_array (P := Try.prog) W 9997 (n := 3) (e := 34) _ _ Try.underlying35 hi]
  have hC : Try.prog.cellsOf 34 = 2 := by kernel_rfl
  rw [show List.range 3 = [0, 1, 2] from rfl]
  by_cases h0 : a0 = x0
  rotate_left
  · simp [go_sem, Op.eqItems, hC, h0]
  by_cases h1 : a1 = x1
  rotate_left
  · simp [go_sem, Op.eqItems, hC, h0, h1]
  by_cases h2 : b0 = y0
  rotate_left
  · simp [go_sem, Op.eqItems, hC, h0, h1, h2]
  by_cases h3 : b1 = y1
  rotate_left
  · simp [go_sem, Op.eqItems, hC, h0, h1, h2, h3]
  by_cases h4 : c0 = z0
  rotate_left
  · simp [go_sem, Op.eqItems, hC, h0, h1, h2, h3, h4]
  by_cases h5 : c1 = z1
  rotate_left
  · simp [go_sem, Op.eqItems, hC, h0, h1, h2, h3, h4, h5]
  simp [go_sem, Op.eqItems, hC, h0, h1, h2, h3, h4, h5]

theorem toListA (s t : ByteArray) : s.toList = t.toList ↔ s = t := by
  rw [ByteArray.toList_eq, ByteArray.toList_eq]
  constructor
  · intro h
    exact ByteArray.ext (Array.ext' h)
  · rintro rfl; rfl
def eqRw (x y : Rw) : Bool := eqI x.id y.id && (decide (x.en = y.en) && (decide (x.code = y.code) && decide (x.val = y.val)))
theorem eqRw_iff {x y : Rw} : eqRw x y = true ↔ x = y := by
  unfold eqRw
  simp only [Bool.and_eq_true, decide_eq_true_eq, eqI_iff]
  constructor
  · rintro ⟨h1, h2, h3, h4⟩
    obtain ⟨_, _, _, _⟩ := x
    obtain ⟨_, _, _, _⟩ := y
    simp_all
  · rintro rfl
    exact ⟨rfl, rfl, rfl, rfl⟩
set_option maxRecDepth 100000 in
set_option maxHeartbeats 4000000 in
theorem neqRow (x y : Rw) (W : World) : (binOp .neq 88 (.agg #[.int .u8 x.id.n, .int .u16 x.id.l, .int .u32 x.id.s, .int .u8 x.id.d, .int .u8 x.id.a0, .int .u8 x.id.a1, .int .u8 x.id.b0, .int .u8 x.id.b1, .int .u8 x.id.c0, .int .u8 x.id.c1, .bool x.en, .int .u8 x.code, .string x.val]) (.agg #[.int .u8 y.id.n, .int .u16 y.id.l, .int .u32 y.id.s, .int .u8 y.id.d, .int .u8 y.id.a0, .int .u8 y.id.a1, .int .u8 y.id.b0, .int .u8 y.id.b1, .int .u8 y.id.c0, .int .u8 y.id.c1, .bool y.en, .int .u8 y.code, .string y.val])).run Try.prog W = .ok (.bool (!eqRw x y)) W := by
  have e := eqArrID8 x.id.a0 x.id.a1 x.id.b0 x.id.b1 x.id.c0 x.id.c1 y.id.a0 y.id.a1 y.id.b0 y.id.b1 y.id.c0 y.id.c1 W
  go_simp
  unfold eqRw eqI
  by_cases h0 : x.id.n = y.id.n
  rotate_left
  · simp [h0]
  by_cases h1 : x.id.l = y.id.l
  rotate_left
  · simp [h0, h1]
  by_cases h2 : x.id.s = y.id.s
  rotate_left
  · simp [h0, h1, h2]
  by_cases h3 : x.id.d = y.id.d
  rotate_left
  · simp [h0, h1, h2, h3]
  by_cases h4 : x.id.a0 = y.id.a0 ∧ x.id.a1 = y.id.a1 ∧ x.id.b0 = y.id.b0 ∧ x.id.b1 = y.id.b1 ∧ x.id.c0 = y.id.c0 ∧ x.id.c1 = y.id.c1
  rotate_left
  · simp [h0, h1, h2, h3, h4]
  by_cases h5 : x.en = y.en
  rotate_left
  · simp [h0, h1, h2, h3, h4, h5]
  by_cases h6 : x.code = y.code
  rotate_left
  · simp [h0, h1, h2, h3, h4, h5, h6]
  have hv := toListA x.val y.val
  by_cases h7 : x.val = y.val
  · simp [h0, h1, h2, h3, h4, h5, h6, h7]
  · have h8 : ¬ x.val.toList = y.val.toList := fun e => h7 (hv.1 e)
    simp [h0, h1, h2, h3, h4, h5, h6, h7, h8]
set_option maxRecDepth 100000 in
set_option maxHeartbeats 4000000 in
theorem neqRowD (x y : Rw) (W : World) : (binOp .neq 93 (.agg #[.int .u8 x.id.n, .int .u16 x.id.l, .int .u32 x.id.s, .int .u8 x.id.d, .int .u8 x.id.a0, .int .u8 x.id.a1, .int .u8 x.id.b0, .int .u8 x.id.b1, .int .u8 x.id.c0, .int .u8 x.id.c1, .bool x.en, .int .u8 x.code, .string x.val]) (.agg #[.int .u8 y.id.n, .int .u16 y.id.l, .int .u32 y.id.s, .int .u8 y.id.d, .int .u8 y.id.a0, .int .u8 y.id.a1, .int .u8 y.id.b0, .int .u8 y.id.b1, .int .u8 y.id.c0, .int .u8 y.id.c1, .bool y.en, .int .u8 y.code, .string y.val])).run Try.prog W = .ok (.bool (!eqRw x y)) W := by
  have e := eqArrRef8 x.id.a0 x.id.a1 x.id.b0 x.id.b1 x.id.c0 x.id.c1 y.id.a0 y.id.a1 y.id.b0 y.id.b1 y.id.c0 y.id.c1 W
  go_simp
  unfold eqRw eqI
  by_cases h0 : x.id.n = y.id.n
  rotate_left
  · simp [h0]
  by_cases h1 : x.id.l = y.id.l
  rotate_left
  · simp [h0, h1]
  by_cases h2 : x.id.s = y.id.s
  rotate_left
  · simp [h0, h1, h2]
  by_cases h3 : x.id.d = y.id.d
  rotate_left
  · simp [h0, h1, h2, h3]
  by_cases h4 : x.id.a0 = y.id.a0 ∧ x.id.a1 = y.id.a1 ∧ x.id.b0 = y.id.b0 ∧ x.id.b1 = y.id.b1 ∧ x.id.c0 = y.id.c0 ∧ x.id.c1 = y.id.c1
  rotate_left
  · simp [h0, h1, h2, h3, h4]
  by_cases h5 : x.en = y.en
  rotate_left
  · simp [h0, h1, h2, h3, h4, h5]
  by_cases h6 : x.code = y.code
  rotate_left
  · simp [h0, h1, h2, h3, h4, h5, h6]
  have hv := toListA x.val y.val
  by_cases h7 : x.val = y.val
  · simp [h0, h1, h2, h3, h4, h5, h6, h7]
  · have h8 : ¬ x.val.toList = y.val.toList := fun e => h7 (hv.1 e)
    simp [h0, h1, h2, h3, h4, h5, h6, h7, h8]
theorem neOpRw {a : Act} {W : World} (x y : Rw) (u v : Operand) (t0 : TypeId) (hu : a.eval u = .agg #[.int .u8 x.id.n, .int .u16 x.id.l, .int .u32 x.id.s, .int .u8 x.id.d, .int .u8 x.id.a0, .int .u8 x.id.a1, .int .u8 x.id.b0, .int .u8 x.id.b1, .int .u8 x.id.c0, .int .u8 x.id.c1, .bool x.en, .int .u8 x.code, .string x.val]) (hv : a.eval v = .agg #[.int .u8 y.id.n, .int .u16 y.id.l, .int .u32 y.id.s, .int .u8 y.id.d, .int .u8 y.id.a0, .int .u8 y.id.a1, .int .u8 y.id.b0, .int .u8 y.id.b1, .int .u8 y.id.c0, .int .u8 y.id.c1, .bool y.en, .int .u8 y.code, .string y.val]) : (execOp a.eval (bareO (Op.binOp .neq 88 u v 88) t0)).run Try.prog W = .ok (.value (.bool (!eqRw x y))) W := by
  unfold execOp bareO
  simp [hu, hv, run_eqGuard_agg (P := Try.prog) (w := W) BinOp.neq 88 u v _ _ (by kernel_rfl), neqRow, Result.andThen]
theorem neOpRwD {a : Act} {W : World} (x y : Rw) (u v : Operand) (t0 : TypeId) (hu : a.eval u = .agg #[.int .u8 x.id.n, .int .u16 x.id.l, .int .u32 x.id.s, .int .u8 x.id.d, .int .u8 x.id.a0, .int .u8 x.id.a1, .int .u8 x.id.b0, .int .u8 x.id.b1, .int .u8 x.id.c0, .int .u8 x.id.c1, .bool x.en, .int .u8 x.code, .string x.val]) (hv : a.eval v = .agg #[.int .u8 y.id.n, .int .u16 y.id.l, .int .u32 y.id.s, .int .u8 y.id.d, .int .u8 y.id.a0, .int .u8 y.id.a1, .int .u8 y.id.b0, .int .u8 y.id.b1, .int .u8 y.id.c0, .int .u8 y.id.c1, .bool y.en, .int .u8 y.code, .string y.val]) : (execOp a.eval (bareO (Op.binOp .neq 93 u v 93) t0)).run Try.prog W = .ok (.value (.bool (!eqRw x y))) W := by
  unfold execOp bareO
  simp [hu, hv, run_eqGuard_agg (P := Try.prog) (w := W) BinOp.neq 93 u v _ _ (by kernel_rfl), neqRowD, Result.andThen]
theorem wpList_valG {P : Program} {w w' : World} {ops : Array Oper} {rest : List Oper} {o : Oper} {a : Act} {Q : Exit → Act → World → Prop} {v : Value} (hgd : Region.wanted o (yielded ops a.tmps) = true) (d : Tmp) (hd : o.dst = some d) (p : Op) (ho : o.op = p)
    (hr : (execOp a.eval (bareO p o.type)).run P w = .ok (.value v) w') (h : wpList P ops Q rest (a.put (some d) v) w') : wpList P ops Q (o :: rest) a w :=
  wpList_step fun K hK => by
    rw [if_pos hgd]
    rw [execOp_bare ho] at hr
    rw [← hd] at h
    unfold Oper.wp
    rw [hr, Oper.upon_value]
    exact hK _ _ h
/-- a row is in the other table, too. -/
def inL (u : Tt) (x : Rw) : Bool := isT u.L x.id && eqRw x (u.row x.id)
def eqL (t u : Tt) : Bool := decide (t.L.length = u.L.length) && t.L.all (inL u)
theorem eqL_false {t u : Tt} {y : Rw} (hy : y ∈ t.L) (h : inL u y = false) : eqL t u = false := by
  unfold eqL
  cases hall : t.L.all (inL u) with
  | false => simp
  | true =>
    have := List.all_eq_true.1 hall y hy
    rw [h] at this
    cases this
set_option maxRecDepth 100000 in
set_option maxHeartbeats 4000000 in
theorem eqRowsA (W : World) (b m k c b' m' k' c' : Nat) (t u : Tt) (h : PT W b m k c t) (h' : PT W b' m' k' c' u) :
    Calls Try.prog 53 #[.map (some m), .map (some m')] W fun e W' => e = .returned (.bool (eqL t u)) ∧ Below W.heap.size W W' := by
  have hl1 := fun ty => h.lenM ty
  have hl2 := fun ty => h'.lenM ty
  obtain ⟨nn, D, hk, O, M⟩ := h.rows
  have HM := Lib.hid M
  have HP := Lib.hid h
  have HQ := Lib.hid h'
  have ND : Hid (∀ y ∈ t.L, y.id.Rng) := Lib.hid fun y hy => (h.ok.rng y hy).1
  obtain ⟨n1, hn1⟩ : ∃ q, t.L.length = q := ⟨_, rfl⟩
  obtain ⟨n2, hn2⟩ : ∃ q, u.L.length = q := ⟨_, rfl⟩
  rw [hn1] at hl1
  rw [hn2] at hl2
  have OO := Lib.hid O
  obtain ⟨r, hr⟩ : ∃ q, eqL t u = q := ⟨_, rfl⟩
  rw [hr]
  have HR := Lib.hid hr
  have HN1 := Lib.hid hn1
  have HN2 := Lib.hid hn2
  clear h h' M O hk hn1 hn2 hr
  by_cases hne : n1 = n2
  · skip
    have hni : (n1 : Int) = (n2 : Int) := by omega
    go_enter Try.func53, Try.ntmps53
    go_wp2_with (first | (at_range; refine wpList_range_own _ rfl _ 82 rfl 37 88 idKeyed mapR rwElem m nn D rfl OO.out ?_; intro w0 hrg0 hg0 hs0) | fail)
    go_frame
    have hb0 : Below W.heap.size W w0 := ⟨hg0.os, hg0.tape, hg0.output, hg0.size, fun k hk => hg0.block k hk (by simp)⟩
    go_loopw [5] (fun _ wr => ∃ (left : Lit → Bool) (cnt : Nat), wr.ranges Try.prog 37 rwElem m W.heap.size nn D left cnt ∧ Hid (Below W.heap.size W wr) ∧ Hid (∀ x ∈ t.L, left x.key = false → inL u x = true)) (fun _ wr => wr.rangeLeft m W.heap.size)
    case atStart => exact ⟨_, _, hrg0, Lib.hid hb0, Lib.hid (fun x hx h0 => by rw [HM.out.has_ x hx] at h0; cases h0)⟩
    case round =>
      obtain ⟨left, cnt, hrg, HB, HV⟩ := hrel
      go_wp2_with (first | (at_next; refine wpList_next_ranges (α := Value) (β := Value) _ rfl _ rfl 37 idKeyed rwElem id id (fun key kl hk => ⟨key, rfl⟩) (fun v _ _ => ⟨v, rfl⟩) m W.heap.size nn D _ _ rfl hrg ?_ ?_) | fail)
      · intro hc0 hl0
        have hrt : r = true := by
          rw [← HR.out]
          unfold eqL
          rw [Bool.and_eq_true]
          refine ⟨by simpa using HN1.out.trans (hne.trans HN2.out.symm), List.all_eq_true.2 fun x hx => HV.out x hx (hl0 _)⟩
        go_wp2_with fail
        go_ret
        exact ⟨by rw [hrt]; rfl, HB.out⟩
      · intro xv c2 kl yd yp w2 cnt2 hkey hlk hv hat hrg2 hlt hg2 hs2 hen
        obtain ⟨y, hy, rfl⟩ := HM.out.all kl (has_true_of_atKey hat)
        have ry := ND.out y hy
        have hyd : yd = y.dat := (hat (.lit (.bool false))).symm.trans (HM.out.at_ y hy _)
        obtain ⟨y', rfl, hy2⟩ := rwElem_inv hv
        obtain rfl : y = y' := rdat_inj (hyd.symm.trans (congrArg Prod.fst hy2))
        obtain rfl : xv = .agg #[.int .u8 y.id.n, .int .u16 y.id.l, .int .u32 y.id.s, .int .u8 y.id.d, .int .u8 y.id.a0, .int .u8 y.id.a1, .int .u8 y.id.b0, .int .u8 y.id.b1, .int .u8 y.id.c0, .int .u8 y.id.c1] := idKeyed.inj hkey (idKey y.id ry)
        have hb2 : Below W.heap.size W w2 := HB.out.grown hg2 HB.out.size (fun k e => by injection e with e; omega)
        obtain ⟨w3, hw3⟩ : ∃ z, w2.alloc (.cells #[.int .u8 y.id.n, .int .u16 y.id.l, .int .u32 y.id.s, .int .u8 y.id.d, .int .u8 y.id.a0, .int .u8 y.id.a1, .int .u8 y.id.b0, .int .u8 y.id.b1, .int .u8 y.id.c0, .int .u8 y.id.c1] 37) = z := ⟨_, rfl⟩
        obtain ⟨w4, hw4⟩ : ∃ z, w3.alloc (.cells #[.int .u8 y.id.n, .int .u16 y.id.l, .int .u32 y.id.s, .int .u8 y.id.d, .int .u8 y.id.a0, .int .u8 y.id.a1, .int .u8 y.id.b0, .int .u8 y.id.b1, .int .u8 y.id.c0, .int .u8 y.id.c1, .bool y.en, .int .u8 y.code, .string y.val] 88) = z := ⟨_, rfl⟩
        obtain ⟨k5, hk5⟩ : ∃ z, w2.heap.size = z := ⟨_, rfl⟩
        have hk6 : w3.heap.size = k5 + 1 := by rw [← hw3, World.size_alloc, hk5]
        have b3 : Below w2.heap.size w2 w3 := by rw [← hw3]; exact (Below.refl _ _).alloc (Nat.le_refl _) _
        have b34 : Below w3.heap.size w3 w4 := by rw [← hw4]; exact (Below.refl _ _).alloc (Nat.le_refl _) _
        have b4 : Below w2.heap.size w2 w4 := b3.trans (b34.mono b3.size)
        have r3 : w3.heap[k5]? = some (.cells #[.int .u8 y.id.n, .int .u16 y.id.l, .int .u32 y.id.s, .int .u8 y.id.d, .int .u8 y.id.a0, .int .u8 y.id.a1, .int .u8 y.id.b0, .int .u8 y.id.b1, .int .u8 y.id.c0, .int .u8 y.id.c1] 37 (0, 0)) := by rw [← hw3, ← hk5]; exact heap_alloc_new _ _
        have r5 : w4.heap[k5]? = some (.cells #[.int .u8 y.id.n, .int .u16 y.id.l, .int .u32 y.id.s, .int .u8 y.id.d, .int .u8 y.id.a0, .int .u8 y.id.a1, .int .u8 y.id.b0, .int .u8 y.id.b1, .int .u8 y.id.c0, .int .u8 y.id.c1] 37 (0, 0)) := (b34.block _ (bltA r3)).trans r3
        have r6 : w4.heap[k5 + 1]? = some (.cells #[.int .u8 y.id.n, .int .u16 y.id.l, .int .u32 y.id.s, .int .u8 y.id.d, .int .u8 y.id.a0, .int .u8 y.id.a1, .int .u8 y.id.b0, .int .u8 y.id.b1, .int .u8 y.id.c0, .int .u8 y.id.c1, .bool y.en, .int .u8 y.code, .string y.val] 88 (0, 0)) := by rw [← hw4, ← hk6]; exact heap_alloc_new _ _
        obtain ⟨z, hz⟩ : ∃ q, u.row y.id = q := ⟨_, rfl⟩
        obtain ⟨iz, hiz⟩ : ∃ q, isT u.L y.id = q := ⟨_, rfl⟩
        obtain ⟨es, cl, hmm, hlk2⟩ := HQ.out.look y.id ry
        have hlook := (hlk2 w4 (((hb2.trans (b4.mono hb2.size)).block _ HQ.out.ml).trans hmm)).1
        rw [hz, hiz] at hlook
        unfold Rw.cs at hlook
        obtain ⟨w5, hw5⟩ : ∃ q, w4.alloc (.cells #[.int .u8 z.id.n, .int .u16 z.id.l, .int .u32 z.id.s, .int .u8 z.id.d, .int .u8 z.id.a0, .int .u8 z.id.a1, .int .u8 z.id.b0, .int .u8 z.id.b1, .int .u8 z.id.c0, .int .u8 z.id.c1, .bool z.en, .int .u8 z.code, .string z.val] 88) = q := ⟨_, rfl⟩
        obtain ⟨k7, hk7⟩ : ∃ q, w4.heap.size = q := ⟨_, rfl⟩
        have b45 : Below w4.heap.size w4 w5 := by rw [← hw5]; exact (Below.refl _ _).alloc (Nat.le_refl _) _
        have r7 : w5.heap[k7]? = some (.cells #[.int .u8 z.id.n, .int .u16 z.id.l, .int .u32 z.id.s, .int .u8 z.id.d, .int .u8 z.id.a0, .int .u8 z.id.a1, .int .u8 z.id.b0, .int .u8 z.id.b1, .int .u8 z.id.c0, .int .u8 z.id.c1, .bool z.en, .int .u8 z.code, .string z.val] 88 (0, 0)) := by rw [← hw5, ← hk7]; exact heap_alloc_new _ _
        have R5 := Lib.hid r5
        have R6 := Lib.hid ((b45.block _ (bltA r6)).trans r6)
        have R7 := Lib.hid r7
        have b25 : Below w2.heap.size w2 w5 := b4.trans (b45.mono b4.size)
        have HB5 := Lib.hid (hb2.trans (b25.mono hb2.size))
        have HRG := Lib.hid (hrg2.kept (grown_of_below b25 none) (by simp) (by simp))
        have HLT := Lib.hid hlt
        have HLE := Lib.hid hrg.left_eq
        have HY := Lib.hid hy
        have HLK := Lib.hid hlk
        have HW4 : Hid ((w2.alloc (.cells #[.int .u8 y.id.n, .int .u16 y.id.l, .int .u32 y.id.s, .int .u8 y.id.d, .int .u8 y.id.a0, .int .u8 y.id.a1, .int .u8 y.id.b0, .int .u8 y.id.b1, .int .u8 y.id.c0, .int .u8 y.id.c1] 37)).alloc (.cells #[.int .u8 y.id.n, .int .u16 y.id.l, .int .u32 y.id.s, .int .u8 y.id.d, .int .u8 y.id.a0, .int .u8 y.id.a1, .int .u8 y.id.b0, .int .u8 y.id.b1, .int .u8 y.id.c0, .int .u8 y.id.c1, .bool y.en, .int .u8 y.code, .string y.val] 88) = w4) := Lib.hid (by rw [hw3]; exact hw4)
        have HW5 := Lib.hid hw5
        have HK5 := Lib.hid hk5
        have HK7 := Lib.hid hk7
        have HLOOK := Lib.hid hlook
        have HIN : Hid (inL u y = (iz && eqRw y z)) := Lib.hid (by unfold inL; rw [hz, hiz])
        simp only [id_eq, Rw.cs] at hen
        clear hs2 hat hv hyd hy2 hrg2 hg2 hlt hlk hkey b3 b4 b34 b45 b25 r3 r5 r6 r7 hw3 hw4 hw5 hk5 hk6 hk7 hrg ry hb2 hmm hlk2 hlook hz hiz hy hb0 hrg0 hg0 hs0
        simp only [id_eq, Rw.cs]
        obtain ⟨ez, hez⟩ : ∃ q, eqRw y z = q := ⟨_, rfl⟩
        have hnq : (binOp .neq 88 (.agg #[.int .u8 y.id.n, .int .u16 y.id.l, .int .u32 y.id.s, .int .u8 y.id.d, .int .u8 y.id.a0, .int .u8 y.id.a1, .int .u8 y.id.b0, .int .u8 y.id.b1, .int .u8 y.id.c0, .int .u8 y.id.c1, .bool y.en, .int .u8 y.code, .string y.val]) (.agg #[.int .u8 z.id.n, .int .u16 z.id.l, .int .u32 z.id.s, .int .u8 z.id.d, .int .u8 z.id.a0, .int .u8 z.id.a1, .int .u8 z.id.b0, .int .u8 z.id.b1, .int .u8 z.id.c0, .int .u8 z.id.c1, .bool z.en, .int .u8 z.code, .string z.val])).run Try.prog w5 = .ok (.bool (!ez)) w5 := hez ▸ neqRow y z w5
        have HEZ := Lib.hid hez
        clear hez hnq
        have HFA : Hid ((iz && ez) = false → r = false) := Lib.hid fun e => by
          rw [← HR.out]
          exact eqL_false HY.out (by rw [HIN.out, HEZ.out]; exact e)
        cases iz
        · have hrf : r = false := HFA.out (by simp)
          go_wp2_with (first
            | (at_lookup; rw [HW4.out]; rw [HK5.out]; refine wpList_val rfl 24 rfl _ rfl (v := .tuple #[.agg #[.int .u8 z.id.n, .int .u16 z.id.l, .int .u32 z.id.s, .int .u8 z.id.d, .int .u8 z.id.a0, .int .u8 z.id.a1, .int .u8 z.id.b0, .int .u8 z.id.b1, .int .u8 z.id.c0, .int .u8 z.id.c1, .bool z.en, .int .u8 z.code, .string z.val], .bool false]) (w' := w4) (by have e := HLOOK.out; unfold bareO; go_simp) ?_)
            | (rw [HW5.out]; try rw [HK7.out])
            | fail)
          go_ret
          exact ⟨by rw [hrf]; rfl, HB5.out⟩
        · have y0 := cell_of R6.out 0 (.int .u8 y.id.n) rfl; have y1 := cell_of R6.out 1 (.int .u16 y.id.l) rfl; have y2 := cell_of R6.out 2 (.int .u32 y.id.s) rfl; have y3 := cell_of R6.out 3 (.int .u8 y.id.d) rfl; have y4 := cell_of R6.out 4 (.int .u8 y.id.a0) rfl; have y5 := cell_of R6.out 5 (.int .u8 y.id.a1) rfl; have y6 := cell_of R6.out 6 (.int .u8 y.id.b0) rfl; have y7 := cell_of R6.out 7 (.int .u8 y.id.b1) rfl; have y8 := cell_of R6.out 8 (.int .u8 y.id.c0) rfl; have y9 := cell_of R6.out 9 (.int .u8 y.id.c1) rfl; have y10 := cell_of R6.out 10 (.bool y.en) rfl; have y11 := cell_of R6.out 11 (.int .u8 y.code) rfl; have y12 := cell_of R6.out 12 (.string y.val) rfl
          have z0 := cell_of R7.out 0 (.int .u8 z.id.n) rfl; have z1 := cell_of R7.out 1 (.int .u16 z.id.l) rfl; have z2 := cell_of R7.out 2 (.int .u32 z.id.s) rfl; have z3 := cell_of R7.out 3 (.int .u8 z.id.d) rfl; have z4 := cell_of R7.out 4 (.int .u8 z.id.a0) rfl; have z5 := cell_of R7.out 5 (.int .u8 z.id.a1) rfl; have z6 := cell_of R7.out 6 (.int .u8 z.id.b0) rfl; have z7 := cell_of R7.out 7 (.int .u8 z.id.b1) rfl; have z8 := cell_of R7.out 8 (.int .u8 z.id.c0) rfl; have z9 := cell_of R7.out 9 (.int .u8 z.id.c1) rfl; have z10 := cell_of R7.out 10 (.bool z.en) rfl; have z11 := cell_of R7.out 11 (.int .u8 z.code) rfl; have z12 := cell_of R7.out 12 (.string z.val) rfl
          cases ez
          · have hrf : r = false := HFA.out (by simp)
            have e8 := eqArrID8 y.id.a0 y.id.a1 y.id.b0 y.id.b1 y.id.c0 y.id.c1 z.id.a0 z.id.a1 z.id.b0 z.id.b1 z.id.c0 z.id.c1 w5
            have e9 := toListA y.val z.val
            go_wp2_with (first
              | (at_lookup; rw [HW4.out]; rw [HK5.out]; refine wpList_val rfl 24 rfl _ rfl (v := .tuple #[.agg #[.int .u8 z.id.n, .int .u16 z.id.l, .int .u32 z.id.s, .int .u8 z.id.d, .int .u8 z.id.a0, .int .u8 z.id.a1, .int .u8 z.id.b0, .int .u8 z.id.b1, .int .u8 z.id.c0, .int .u8 z.id.c1, .bool z.en, .int .u8 z.code, .string z.val], .bool true]) (w' := w4) (by have e := HLOOK.out; unfold bareO; go_simp) ?_)
              | (rw [HW5.out]; try rw [HK7.out])
              | fail)
            all_goals first | (go_ret; exact ⟨by rw [hrf]; rfl, HB5.out⟩) | (exfalso; have hz := HEZ.out; unfold eqRw eqI at hz; simp_all; done)
          · have hzy := eqRw_iff.1 HEZ.out
            subst hzy
            have e8 := eqArrID8 y.id.a0 y.id.a1 y.id.b0 y.id.b1 y.id.c0 y.id.c1 y.id.a0 y.id.a1 y.id.b0 y.id.b1 y.id.c0 y.id.c1 w5
            simp only [and_self, decide_true] at e8
            go_wp2_with (first
              | (at_lookup; rw [HW4.out]; rw [HK5.out]; refine wpList_val rfl 24 rfl _ rfl (v := .tuple #[.agg #[.int .u8 y.id.n, .int .u16 y.id.l, .int .u32 y.id.s, .int .u8 y.id.d, .int .u8 y.id.a0, .int .u8 y.id.a1, .int .u8 y.id.b0, .int .u8 y.id.b1, .int .u8 y.id.c0, .int .u8 y.id.c1, .bool y.en, .int .u8 y.code, .string y.val], .bool true]) (w' := w4) (by have e := HLOOK.out; unfold bareO; go_simp) ?_)
              | (rw [HW5.out]; try rw [HK7.out])
              | fail)
            go_roundw
            case rel =>
              refine ⟨_, _, HRG.out, HB5, Lib.hid fun x hx h0 => ?_⟩
              by_cases e : left x.key = false
              · exact HV.out x hx e
              · have ek : x.key = y.key := by
                  have e1 : left x.key = true := by simpa using e
                  rw [e1] at h0
                  simp only [Bool.true_and, Bool.not_eq_false'] at h0
                  exact WideAt.sameKey_eq h0
                obtain rfl : x = y := HM.out.key_inj hx HY.out ek
                rw [HIN.out, HEZ.out]
                rfl
            case measure => rw [HRG.out.left_eq, HLE.out]; exact HLT.out
  · have hni : ¬ (n1 : Int) = (n2 : Int) := by omega
    have hrf : r = false := by
      rw [← HR.out]
      unfold eqL
      rw [HN1.out, HN2.out]
      simp [hne]
    go_enter Try.func53, Try.ntmps53
    go_wp2_with fail
    go_ret
    exact ⟨by rw [hrf]; rfl, Below.refl _ _⟩
end

section
set_option linter.unusedSimpArgs false
set_option linter.unusedVariables false
open Go.RowKit Go.Maps Go.Sort

def hasF (F : List Fw) (n l : Int) : Bool := F.any fun f => decide (f.n = n) && decide (f.l = l)
/-- a floor is the other table's, too. -/
def inF (u : Tt) (x : Fw) : Bool := hasF u.F x.n x.l && decide (x.f = floorF u.F x.n x.l)
def eqF (t u : Tt) : Bool := decide (t.F.length = u.F.length) && t.F.all (inF u)
theorem eqF_false {t u : Tt} {y : Fw} (hy : y ∈ t.F) (h : inF u y = false) : eqF t u = false := by
  unfold eqF
  cases hall : t.F.all (inF u) with
  | false => simp
  | true =>
    have := List.all_eq_true.1 hall y hy
    rw [h] at this
    cases this
theorem PT.lookFo {W : World} {b m k c : Nat} {t : Tt} (h : PT W b m k c t) (n l : Int) (rn : 0 ≤ n ∧ n ≤ 255) (rl : 0 ≤ l ∧ l ≤ 65535) :
    ∃ es clock, W.heap[k]? = some (.map es clock) ∧ ∀ X : World, X.heap[k]? = some (.map es clock) → (Instr.lookup 83 (.map (some k)) (.agg #[.int .u8 n, .int .u16 l]) true).run Try.prog X = .ok (.tuple #[.int .u32 (floorF t.F n l), .bool (hasF t.F n l)]) X := by
  obtain ⟨nn, D, hk, ⟨es, clock, hb, F, hs, hD⟩, K⟩ := h.flo
  refine ⟨es, clock, hb, fun X hX => ?_⟩
  have O : X.ownsMap Try.prog 31 fElem k nn D := ⟨es, clock, hX, F, hs, hD⟩
  obtain ⟨v, ps, hrun, hv⟩ := O.look_ok prKeyed mapF (floZero X) (fElem_mk 0) (prKey n l rn rl)
  have e : D.atKey (lit2 n l) (fDat 0) = fDat (floorF t.F n l) ∧ has D (lit2 n l) = hasF t.F n l := by
    by_cases hx : ∃ y ∈ t.F, y.n = n ∧ y.l = l
    · obtain ⟨y, hy, rfl, rfl⟩ := hx
      rw [h.ok.floor_in hy]
      refine ⟨K.at_ y hy _, ?_⟩
      rw [show has D (lit2 y.n y.l) = true from K.has_ y hy]
      exact (List.any_eq_true.2 ⟨y, hy, by simp⟩).symm
    · have hn : ∀ y ∈ t.F, ¬ (y.n = n ∧ y.l = l) := fun y hy e => hx ⟨y, hy, e⟩
      have hh : has D (lit2 n l) = false := K.hasnt fun y hy e => hn y hy (lit2_inj (h.ok.frng y hy).n (h.ok.frng y hy).l rn rl e)
      refine ⟨by rw [atKey_of_not_has hh, Tt.floor_no hn], ?_⟩
      rw [hh]
      cases hf : hasF t.F n l with
      | false => rfl
      | true =>
        obtain ⟨y, hy, hyy⟩ := List.any_eq_true.1 hf
        exact absurd (by simpa using hyy) (hn y hy)
  rw [e.1] at hv
  rw [e.2] at hrun
  obtain ⟨y, rfl, hy⟩ := fElem_inv hv
  obtain rfl := fDat_inj (congrArg Prod.fst hy)
  exact hrun
theorem PT.lenK {W : World} {b m k c : Nat} {t : Tt} (h : PT W b m k c t) (ty : TypeId) : (Builtin.len_ #[83] ty #[.map (some k)]).run Try.prog W = .ok (.int .i64 t.F.length) W := by
  obtain ⟨nn, D, hk, O, K⟩ := h.flo
  have := O.len mapF ty
  rw [K.size] at this
  exact this
set_option maxRecDepth 100000 in
set_option maxHeartbeats 4000000 in
theorem eqFlosA (W : World) (b m k c b' m' k' c' : Nat) (t u : Tt) (h : PT W b m k c t) (h' : PT W b' m' k' c' u) :
    Calls Try.prog 54 #[.map (some k), .map (some k')] W fun e W' => e = .returned (.bool (eqF t u)) ∧ Below W.heap.size W W' := by
  have hl1 := fun ty => h.lenK ty
  have hl2 := fun ty => h'.lenK ty
  obtain ⟨nn, D, hk, O, M⟩ := h.flo
  have HM := Lib.hid M
  have HQ := Lib.hid h'
  have ND : Hid (∀ y ∈ t.F, y.Rng) := Lib.hid fun y hy => h.ok.frng y hy
  obtain ⟨n1, hn1⟩ : ∃ q, t.F.length = q := ⟨_, rfl⟩
  obtain ⟨n2, hn2⟩ : ∃ q, u.F.length = q := ⟨_, rfl⟩
  rw [hn1] at hl1
  rw [hn2] at hl2
  have OO := Lib.hid O
  obtain ⟨r, hr⟩ : ∃ q, eqF t u = q := ⟨_, rfl⟩
  rw [hr]
  have HR := Lib.hid hr
  have HN1 := Lib.hid hn1
  have HN2 := Lib.hid hn2
  clear h h' M O hk hn1 hn2 hr
  by_cases hne : n1 = n2
  · skip
    have hni : (n1 : Int) = (n2 : Int) := by omega
    go_enter Try.func54, Try.ntmps54
    go_wp2_with (first | (at_range; refine wpList_range_own _ rfl _ 83 rfl 31 32 prKeyed mapF fElem k nn D rfl OO.out ?_; intro w0 hrg0 hg0 hs0) | fail)
    go_frame
    have hb0 : Below W.heap.size W w0 := ⟨hg0.os, hg0.tape, hg0.output, hg0.size, fun k hk => hg0.block k hk (by simp)⟩
    go_loopw [5] (fun _ wr => ∃ (left : Lit → Bool) (cnt : Nat), wr.ranges Try.prog 31 fElem k W.heap.size nn D left cnt ∧ Hid (Below W.heap.size W wr) ∧ Hid (∀ x ∈ t.F, left x.key = false → inF u x = true)) (fun _ wr => wr.rangeLeft k W.heap.size)
    case atStart => exact ⟨_, _, hrg0, Lib.hid hb0, Lib.hid (fun x hx h0 => by rw [HM.out.has_ x hx] at h0; cases h0)⟩
    case round =>
      obtain ⟨left, cnt, hrg, HB, HV⟩ := hrel
      go_wp2_with (first | (at_next; refine wpList_next_ranges (α := Value) (β := Value) _ rfl _ rfl 31 prKeyed fElem id id (fun key kl hk => ⟨key, rfl⟩) (fun v _ _ => ⟨v, rfl⟩) k W.heap.size nn D _ _ rfl hrg ?_ ?_) | fail)
      · intro hc0 hl0
        have hrt : r = true := by
          rw [← HR.out]
          unfold eqF
          rw [Bool.and_eq_true]
          refine ⟨by simpa using HN1.out.trans (hne.trans HN2.out.symm), List.all_eq_true.2 fun x hx => HV.out x hx (hl0 _)⟩
        go_wp2_with fail
        go_ret
        exact ⟨by rw [hrt]; rfl, HB.out⟩
      · intro xv c2 kl yd yp w2 cnt2 hkey hlk hv hat hrg2 hlt hg2 hs2 hen
        obtain ⟨y, hy, rfl⟩ := HM.out.all kl (has_true_of_atKey hat)
        have ry := ND.out y hy
        have hyd : yd = y.dat := (hat (.lit (.bool false))).symm.trans (HM.out.at_ y hy _)
        obtain ⟨y', rfl, hy2⟩ := fElem_inv hv
        obtain rfl : y.f = y' := fDat_inj (hyd.symm.trans (congrArg Prod.fst hy2))
        obtain rfl : xv = .agg #[.int .u8 y.n, .int .u16 y.l] := prKeyed.inj hkey (prKey y.n y.l ry.n ry.l)
        have hb2 : Below W.heap.size W w2 := HB.out.grown hg2 HB.out.size (fun k e => by injection e with e; omega)
        obtain ⟨w3, hw3⟩ : ∃ z, w2.alloc (.cells #[.int .u8 y.n, .int .u16 y.l] 31) = z := ⟨_, rfl⟩
        obtain ⟨k5, hk5⟩ : ∃ z, w2.heap.size = z := ⟨_, rfl⟩
        have b3 : Below w2.heap.size w2 w3 := by rw [← hw3]; exact (Below.refl _ _).alloc (Nat.le_refl _) _
        obtain ⟨f, hf⟩ : ∃ q, floorF u.F y.n y.l = q := ⟨_, rfl⟩
        obtain ⟨iz, hiz⟩ : ∃ q, hasF u.F y.n y.l = q := ⟨_, rfl⟩
        obtain ⟨es, cl, hmm, hlk2⟩ := HQ.out.lookFo y.n y.l ry.n ry.l
        have hlook := hlk2 w3 (((hb2.trans (b3.mono hb2.size)).block _ HQ.out.kl).trans hmm)
        rw [hf, hiz] at hlook
        have HB5 := Lib.hid (hb2.trans (b3.mono hb2.size))
        have HRG := Lib.hid (hrg2.kept (grown_of_below b3 none) (by simp) (by simp))
        have HLT := Lib.hid hlt
        have HLE := Lib.hid hrg.left_eq
        have HY := Lib.hid hy
        have HW3 := Lib.hid hw3
        have HK5 := Lib.hid hk5
        have HLOOK := Lib.hid hlook
        have HIN : Hid (inF u y = (iz && decide (y.f = f))) := Lib.hid (by unfold inF; rw [hf, hiz])
        try simp only [id_eq] at hen
        clear hs2 hat hv hyd hy2 hrg2 hg2 hlt hlk hkey b3 hw3 hk5 hrg ry hb2 hmm hlk2 hlook hf hiz hy hb0 hrg0 hg0 hs0
        try simp only [id_eq]
        have HFA : Hid ((iz && decide (y.f = f)) = false → r = false) := Lib.hid fun e => by
          rw [← HR.out]
          exact eqF_false HY.out (by rw [HIN.out]; exact e)
        cases iz
        · have hrf : r = false := HFA.out (by simp)
          go_wp2_with (first
          | (at_lookup; rw [HW3.out]; rw [HK5.out]; refine wpList_val rfl 24 rfl _ rfl (v := .tuple #[.int .u32 f, .bool false]) (w' := w3) (by have e := HLOOK.out; unfold bareO; go_simp) ?_)
          | fail)
          go_ret
          exact ⟨by rw [hrf]; rfl, HB5.out⟩
        · by_cases hyf : y.f = f
          · go_wp2_with (first
          | (at_lookup; rw [HW3.out]; rw [HK5.out]; refine wpList_val rfl 24 rfl _ rfl (v := .tuple #[.int .u32 f, .bool true]) (w' := w3) (by have e := HLOOK.out; unfold bareO; go_simp) ?_)
          | fail)
            go_roundw
            case rel =>
              refine ⟨_, _, HRG.out, HB5, Lib.hid fun x hx h0 => ?_⟩
              by_cases e : left x.key = false
              · exact HV.out x hx e
              · have ek : x.key = y.key := by
                  have e1 : left x.key = true := by simpa using e
                  rw [e1] at h0
                  simp only [Bool.true_and, Bool.not_eq_false'] at h0
                  exact WideAt.sameKey_eq h0
                obtain rfl : x = y := HM.out.key_inj hx HY.out ek
                rw [HIN.out]
                simpa using hyf
            case measure => rw [HRG.out.left_eq, HLE.out]; exact HLT.out
          · have hrf : r = false := HFA.out (by simpa using hyf)
            go_wp2_with (first
          | (at_lookup; rw [HW3.out]; rw [HK5.out]; refine wpList_val rfl 24 rfl _ rfl (v := .tuple #[.int .u32 f, .bool true]) (w' := w3) (by have e := HLOOK.out; unfold bareO; go_simp) ?_)
          | fail)
            go_ret
            exact ⟨by rw [hrf]; rfl, HB5.out⟩
  · have hni : ¬ (n1 : Int) = (n2 : Int) := by omega
    have hrf : r = false := by
      rw [← HR.out]
      unfold eqF
      rw [HN1.out, HN2.out]
      simp [hne]
    go_enter Try.func54, Try.ntmps54
    go_wp2_with fail
    go_ret
    exact ⟨by rw [hrf]; rfl, Below.refl _ _⟩
/-- are two tables the same, by the program? -/
def sameP (t u : Tt) : Bool := decide (t.win = u.win) && (eqL t u && eqF t u)
set_option maxRecDepth 100000 in
set_option maxHeartbeats 4000000 in
theorem aSame (W : World) (b m k c b' m' k' c' : Nat) (t u : Tt) (h : PT W b m k c t) (h' : PT W b' m' k' c' u) :
    Calls Try.prog 31 #[.pointer (some ⟨b, 0, none⟩), .pointer (some ⟨b', 0, none⟩)] W fun e W' => e = .returned (.bool (sameP t u)) ∧ Below W.heap.size W W' := by
  have HP := Lib.hid h
  have HQ := Lib.hid h'
  have RB := Lib.hid h.blk
  have RC := Lib.hid h'.blk
  have M1 := Lib.hid (aMade W b m k c t h)
  have M2 := Lib.hid (aMade W b' m' k' c' u h')
  have BX : Hid (Below W.heap.size W W.drew) := Lib.hid (Below.refl _ _).drew
  clear h h'
  go_enter Try.func31, Try.ntmps31
  go_wp2_with fail
  refine M1.out.mono ?_
  rintro e w1 ⟨rfl, rfl⟩
  go_wp2_with fail
  refine M2.out.mono ?_
  rintro e w1 ⟨rfl, rfl⟩
  go_wp2_with fail
  refine region_heldT (S := fun X : World => Below W.heap.size W X) 31 (by kernel_rfl) (by decide) (fun inv => ?_)
  have HS : Below W.heap.size W W.drew := BX.out
  change FirstH _ _ _ _ _ _ _ _ _ _ W.drew
  generalize W.drew = wd at *
  by_cases hw : t.win = u.win
  rotate_left
  · have hr : sameP t u = false := by simp [sameP, hw]
    refine FirstH.go (i := 0) (v := .pointer (some ⟨b, 0, none⟩)) rfl rfl 18 rfl (Op.move (Operand.tmp 0)) rfl (by kernel_rfl) (fun _ _ _ h => h) inv (fun W hS => by unfold bareO; go_simp) HS (fun inv => ?_)
    try simp only [Act.put, List.setIfInBounds_toArray, List.set_cons_zero, List.set_cons_succ]
    refine FirstH.go (i := 1) (v := .pointer (some ⟨b, 0, none⟩)) rfl rfl 19 rfl (Op.nilCheck (Operand.tmp 18)) rfl (by kernel_rfl) (fun _ _ _ h => h) inv (fun W hS => by unfold bareO; go_simp) HS (fun inv => ?_)
    try simp only [Act.put, List.setIfInBounds_toArray, List.set_cons_zero, List.set_cons_succ]
    refine FirstH.go (i := 2) (v := .pointer (some ⟨b, 0, none⟩)) rfl rfl 20 rfl (Op.fieldAddr 85 (Operand.tmp 19) 0) rfl (by kernel_rfl) (fun _ _ _ h => h) inv (fun W hS => by unfold bareO; go_simp) HS (fun inv => ?_)
    try simp only [Act.put, List.setIfInBounds_toArray, List.set_cons_zero, List.set_cons_succ]
    refine FirstH.go (i := 3) (v := .int .u32 t.win) rfl rfl 21 rfl (Op.load 32 (Operand.tmp 20)) rfl (by kernel_rfl) (fun _ _ _ h => h) inv (fun W hS => by have hb0 := (hS.block _ (bltA RB.out)).trans RB.out; have c0 := cell_of hb0 0 (.int .u32 t.win) rfl; unfold bareO; go_simp) HS (fun inv => ?_)
    try simp only [Act.put, List.setIfInBounds_toArray, List.set_cons_zero, List.set_cons_succ]
    refine FirstH.go (i := 4) (v := .pointer (some ⟨b', 0, none⟩)) rfl rfl 22 rfl (Op.move (Operand.tmp 1)) rfl (by kernel_rfl) (fun _ _ _ h => h) inv (fun W hS => by unfold bareO; go_simp) HS (fun inv => ?_)
    try simp only [Act.put, List.setIfInBounds_toArray, List.set_cons_zero, List.set_cons_succ]
    refine FirstH.go (i := 5) (v := .pointer (some ⟨b', 0, none⟩)) rfl rfl 23 rfl (Op.nilCheck (Operand.tmp 22)) rfl (by kernel_rfl) (fun _ _ _ h => h) inv (fun W hS => by unfold bareO; go_simp) HS (fun inv => ?_)
    try simp only [Act.put, List.setIfInBounds_toArray, List.set_cons_zero, List.set_cons_succ]
    refine FirstH.go (i := 6) (v := .pointer (some ⟨b', 0, none⟩)) rfl rfl 24 rfl (Op.fieldAddr 85 (Operand.tmp 23) 0) rfl (by kernel_rfl) (fun _ _ _ h => h) inv (fun W hS => by unfold bareO; go_simp) HS (fun inv => ?_)
    try simp only [Act.put, List.setIfInBounds_toArray, List.set_cons_zero, List.set_cons_succ]
    refine FirstH.go (i := 7) (v := .int .u32 u.win) rfl rfl 25 rfl (Op.load 32 (Operand.tmp 24)) rfl (by kernel_rfl) (fun _ _ _ h => h) inv (fun W hS => by have hb0 := (hS.block _ (bltA RC.out)).trans RC.out; have c0 := cell_of hb0 0 (.int .u32 u.win) rfl; unfold bareO; go_simp) HS (fun inv => ?_)
    try simp only [Act.put, List.setIfInBounds_toArray, List.set_cons_zero, List.set_cons_succ]
    refine FirstH.go (i := 8) (v := .bool false) rfl rfl 26 rfl (Op.binOp BinOp.eql 32 (Operand.tmp 21) (Operand.tmp 25) 32) rfl (by kernel_rfl) (fun _ _ _ h => h) inv (fun W hS => by unfold bareO; go_simp) HS (fun inv => ?_)
    try simp only [Act.put, List.setIfInBounds_toArray, List.set_cons_zero, List.set_cons_succ]
    refine FirstH.go (i := 9) (v := .bool false) rfl rfl 27 rfl (Op.move (Operand.tmp 26)) rfl (by kernel_rfl) (fun _ _ _ h => h) inv (fun W hS => by unfold bareO; go_simp) HS (fun inv => ?_)
    try simp only [Act.put, List.setIfInBounds_toArray, List.set_cons_zero, List.set_cons_succ]
    refine FirstH.goS (i := 10) rfl (by rfl) 28 rfl (by kernel_rfl) (fun _ _ _ h => h) inv HS (fun inv => ?_)
    try simp only [Act.put, List.setIfInBounds_toArray, List.set_cons_zero, List.set_cons_succ]
    refine FirstH.goS (i := 11) rfl (by rfl) 29 rfl (by kernel_rfl) (fun _ _ _ h => h) inv HS (fun inv => ?_)
    try simp only [Act.put, List.setIfInBounds_toArray, List.set_cons_zero, List.set_cons_succ]
    refine FirstH.goS (i := 12) rfl (by rfl) 30 rfl (by kernel_rfl) (fun _ _ _ h => h) inv HS (fun inv => ?_)
    try simp only [Act.put, List.setIfInBounds_toArray, List.set_cons_zero, List.set_cons_succ]
    refine FirstH.goS (i := 13) rfl (by rfl) 31 rfl (by kernel_rfl) (fun _ _ _ h => h) inv HS (fun inv => ?_)
    try simp only [Act.put, List.setIfInBounds_toArray, List.set_cons_zero, List.set_cons_succ]
    refine FirstH.goS (i := 14) rfl (by rfl) 32 rfl (by kernel_rfl) (fun _ _ _ h => h) inv HS (fun inv => ?_)
    try simp only [Act.put, List.setIfInBounds_toArray, List.set_cons_zero, List.set_cons_succ]
    refine FirstH.goS (i := 15) rfl (by rfl) 33 rfl (by kernel_rfl) (fun _ _ _ h => h) inv HS (fun inv => ?_)
    try simp only [Act.put, List.setIfInBounds_toArray, List.set_cons_zero, List.set_cons_succ]
    refine FirstH.goS (i := 16) rfl (by rfl) 34 rfl (by kernel_rfl) (fun _ _ _ h => h) inv HS (fun inv => ?_)
    try simp only [Act.put, List.setIfInBounds_toArray, List.set_cons_zero, List.set_cons_succ]
    refine FirstH.goS (i := 17) rfl (by rfl) 35 rfl (by kernel_rfl) (fun _ _ _ h => h) inv HS (fun inv => ?_)
    try simp only [Act.put, List.setIfInBounds_toArray, List.set_cons_zero, List.set_cons_succ]
    refine FirstH.goS (i := 18) rfl (by rfl) 36 rfl (by kernel_rfl) (fun _ _ _ h => h) inv HS (fun inv => ?_)
    try simp only [Act.put, List.setIfInBounds_toArray, List.set_cons_zero, List.set_cons_succ]
    refine FirstH.go (i := 19) (v := .bool false) rfl rfl 37 rfl (Op.pick (Operand.tmp 27) (Operand.tmp 36) (Operand.const (Value.bool false))) rfl (by kernel_rfl) (fun _ _ _ h => h) inv (fun W hS => by unfold bareO; go_simp) HS (fun inv => ?_)
    try simp only [Act.put, List.setIfInBounds_toArray, List.set_cons_zero, List.set_cons_succ]
    refine FirstH.go (i := 20) (v := .bool false) rfl rfl 38 rfl (Op.move (Operand.tmp 37)) rfl (by kernel_rfl) (fun _ _ _ h => h) inv (fun W hS => by unfold bareO; go_simp) HS (fun inv => ?_)
    try simp only [Act.put, List.setIfInBounds_toArray, List.set_cons_zero, List.set_cons_succ]
    refine FirstH.goS (i := 21) rfl (by rfl) 39 rfl (by kernel_rfl) (fun _ _ _ h => h) inv HS (fun inv => ?_)
    try simp only [Act.put, List.setIfInBounds_toArray, List.set_cons_zero, List.set_cons_succ]
    refine FirstH.goS (i := 22) rfl (by rfl) 40 rfl (by kernel_rfl) (fun _ _ _ h => h) inv HS (fun inv => ?_)
    try simp only [Act.put, List.setIfInBounds_toArray, List.set_cons_zero, List.set_cons_succ]
    refine FirstH.goS (i := 23) rfl (by rfl) 41 rfl (by kernel_rfl) (fun _ _ _ h => h) inv HS (fun inv => ?_)
    try simp only [Act.put, List.setIfInBounds_toArray, List.set_cons_zero, List.set_cons_succ]
    refine FirstH.goS (i := 24) rfl (by rfl) 42 rfl (by kernel_rfl) (fun _ _ _ h => h) inv HS (fun inv => ?_)
    try simp only [Act.put, List.setIfInBounds_toArray, List.set_cons_zero, List.set_cons_succ]
    refine FirstH.goS (i := 25) rfl (by rfl) 43 rfl (by kernel_rfl) (fun _ _ _ h => h) inv HS (fun inv => ?_)
    try simp only [Act.put, List.setIfInBounds_toArray, List.set_cons_zero, List.set_cons_succ]
    refine FirstH.goS (i := 26) rfl (by rfl) 44 rfl (by kernel_rfl) (fun _ _ _ h => h) inv HS (fun inv => ?_)
    try simp only [Act.put, List.setIfInBounds_toArray, List.set_cons_zero, List.set_cons_succ]
    refine FirstH.goS (i := 27) rfl (by rfl) 45 rfl (by kernel_rfl) (fun _ _ _ h => h) inv HS (fun inv => ?_)
    try simp only [Act.put, List.setIfInBounds_toArray, List.set_cons_zero, List.set_cons_succ]
    refine FirstH.goS (i := 28) rfl (by rfl) 46 rfl (by kernel_rfl) (fun _ _ _ h => h) inv HS (fun inv => ?_)
    try simp only [Act.put, List.setIfInBounds_toArray, List.set_cons_zero, List.set_cons_succ]
    refine FirstH.goS (i := 29) rfl (by rfl) 47 rfl (by kernel_rfl) (fun _ _ _ h => h) inv HS (fun inv => ?_)
    try simp only [Act.put, List.setIfInBounds_toArray, List.set_cons_zero, List.set_cons_succ]
    refine FirstH.go (i := 30) (v := .bool false) rfl rfl 48 rfl (Op.pick (Operand.tmp 38) (Operand.tmp 47) (Operand.const (Value.bool false))) rfl (by kernel_rfl) (fun _ _ _ h => h) inv (fun W hS => by unfold bareO; go_simp) HS (fun inv => ?_)
    try simp only [Act.put, List.setIfInBounds_toArray, List.set_cons_zero, List.set_cons_succ]
    refine ⟨by kernel_rfl, ?_⟩
    simp only [List.drop_succ_cons, List.drop_zero]
    have BZ := Lib.hid HS
    clear inv HS
    go_wp2_with fail
    go_ret
    exact ⟨by rw [hr]; rfl, BZ.out⟩
  cases hel : eqL t u with
  | false =>
    have HEL := Lib.hid hel
    have hr : sameP t u = false := by simp [sameP, hel]
    clear hel
    refine FirstH.go (i := 0) (v := .pointer (some ⟨b, 0, none⟩)) rfl rfl 18 rfl (Op.move (Operand.tmp 0)) rfl (by kernel_rfl) (fun _ _ _ h => h) inv (fun W hS => by unfold bareO; go_simp) HS (fun inv => ?_)
    try simp only [Act.put, List.setIfInBounds_toArray, List.set_cons_zero, List.set_cons_succ]
    refine FirstH.go (i := 1) (v := .pointer (some ⟨b, 0, none⟩)) rfl rfl 19 rfl (Op.nilCheck (Operand.tmp 18)) rfl (by kernel_rfl) (fun _ _ _ h => h) inv (fun W hS => by unfold bareO; go_simp) HS (fun inv => ?_)
    try simp only [Act.put, List.setIfInBounds_toArray, List.set_cons_zero, List.set_cons_succ]
    refine FirstH.go (i := 2) (v := .pointer (some ⟨b, 0, none⟩)) rfl rfl 20 rfl (Op.fieldAddr 85 (Operand.tmp 19) 0) rfl (by kernel_rfl) (fun _ _ _ h => h) inv (fun W hS => by unfold bareO; go_simp) HS (fun inv => ?_)
    try simp only [Act.put, List.setIfInBounds_toArray, List.set_cons_zero, List.set_cons_succ]
    refine FirstH.go (i := 3) (v := .int .u32 t.win) rfl rfl 21 rfl (Op.load 32 (Operand.tmp 20)) rfl (by kernel_rfl) (fun _ _ _ h => h) inv (fun W hS => by have hb0 := (hS.block _ (bltA RB.out)).trans RB.out; have c0 := cell_of hb0 0 (.int .u32 t.win) rfl; unfold bareO; go_simp) HS (fun inv => ?_)
    try simp only [Act.put, List.setIfInBounds_toArray, List.set_cons_zero, List.set_cons_succ]
    refine FirstH.go (i := 4) (v := .pointer (some ⟨b', 0, none⟩)) rfl rfl 22 rfl (Op.move (Operand.tmp 1)) rfl (by kernel_rfl) (fun _ _ _ h => h) inv (fun W hS => by unfold bareO; go_simp) HS (fun inv => ?_)
    try simp only [Act.put, List.setIfInBounds_toArray, List.set_cons_zero, List.set_cons_succ]
    refine FirstH.go (i := 5) (v := .pointer (some ⟨b', 0, none⟩)) rfl rfl 23 rfl (Op.nilCheck (Operand.tmp 22)) rfl (by kernel_rfl) (fun _ _ _ h => h) inv (fun W hS => by unfold bareO; go_simp) HS (fun inv => ?_)
    try simp only [Act.put, List.setIfInBounds_toArray, List.set_cons_zero, List.set_cons_succ]
    refine FirstH.go (i := 6) (v := .pointer (some ⟨b', 0, none⟩)) rfl rfl 24 rfl (Op.fieldAddr 85 (Operand.tmp 23) 0) rfl (by kernel_rfl) (fun _ _ _ h => h) inv (fun W hS => by unfold bareO; go_simp) HS (fun inv => ?_)
    try simp only [Act.put, List.setIfInBounds_toArray, List.set_cons_zero, List.set_cons_succ]
    refine FirstH.go (i := 7) (v := .int .u32 u.win) rfl rfl 25 rfl (Op.load 32 (Operand.tmp 24)) rfl (by kernel_rfl) (fun _ _ _ h => h) inv (fun W hS => by have hb0 := (hS.block _ (bltA RC.out)).trans RC.out; have c0 := cell_of hb0 0 (.int .u32 u.win) rfl; unfold bareO; go_simp) HS (fun inv => ?_)
    try simp only [Act.put, List.setIfInBounds_toArray, List.set_cons_zero, List.set_cons_succ]
    refine FirstH.go (i := 8) (v := .bool true) rfl rfl 26 rfl (Op.binOp BinOp.eql 32 (Operand.tmp 21) (Operand.tmp 25) 32) rfl (by kernel_rfl) (fun _ _ _ h => h) inv (fun W hS => by unfold bareO; go_simp) HS (fun inv => ?_)
    try simp only [Act.put, List.setIfInBounds_toArray, List.set_cons_zero, List.set_cons_succ]
    refine FirstH.go (i := 9) (v := .bool true) rfl rfl 27 rfl (Op.move (Operand.tmp 26)) rfl (by kernel_rfl) (fun _ _ _ h => h) inv (fun W hS => by unfold bareO; go_simp) HS (fun inv => ?_)
    try simp only [Act.put, List.setIfInBounds_toArray, List.set_cons_zero, List.set_cons_succ]
    refine FirstH.goG (i := 10) (v := .pointer (some ⟨b, 0, none⟩)) rfl (by rfl) 28 rfl (Op.move (Operand.tmp 0)) rfl (by kernel_rfl) (fun _ _ _ h => h) inv (fun W hS => by unfold bareO; go_simp) HS (fun inv => ?_)
    try simp only [Act.put, List.setIfInBounds_toArray, List.set_cons_zero, List.set_cons_succ]
    refine FirstH.goG (i := 11) (v := .pointer (some ⟨b, 0, none⟩)) rfl (by rfl) 29 rfl (Op.nilCheck (Operand.tmp 28)) rfl (by kernel_rfl) (fun _ _ _ h => h) inv (fun W hS => by unfold bareO; go_simp) HS (fun inv => ?_)
    try simp only [Act.put, List.setIfInBounds_toArray, List.set_cons_zero, List.set_cons_succ]
    refine FirstH.goG (i := 12) (v := .pointer (some ⟨b, 1, none⟩)) rfl (by rfl) 30 rfl (Op.fieldAddr 85 (Operand.tmp 29) 1) rfl (by kernel_rfl) (fun _ _ _ h => h) inv (fun W hS => by unfold bareO; go_simp) HS (fun inv => ?_)
    try simp only [Act.put, List.setIfInBounds_toArray, List.set_cons_zero, List.set_cons_succ]
    refine FirstH.goG (i := 13) (v := .map (some m)) rfl (by rfl) 31 rfl (Op.load 82 (Operand.tmp 30)) rfl (by kernel_rfl) (fun _ _ _ h => h) inv (fun W hS => by have hb0 := (hS.block _ (bltA RB.out)).trans RB.out; have c0 := cell_of hb0 1 (.map (some m)) rfl; unfold bareO; go_simp) HS (fun inv => ?_)
    try simp only [Act.put, List.setIfInBounds_toArray, List.set_cons_zero, List.set_cons_succ]
    refine FirstH.goG (i := 14) (v := .pointer (some ⟨b', 0, none⟩)) rfl (by rfl) 32 rfl (Op.move (Operand.tmp 1)) rfl (by kernel_rfl) (fun _ _ _ h => h) inv (fun W hS => by unfold bareO; go_simp) HS (fun inv => ?_)
    try simp only [Act.put, List.setIfInBounds_toArray, List.set_cons_zero, List.set_cons_succ]
    refine FirstH.goG (i := 15) (v := .pointer (some ⟨b', 0, none⟩)) rfl (by rfl) 33 rfl (Op.nilCheck (Operand.tmp 32)) rfl (by kernel_rfl) (fun _ _ _ h => h) inv (fun W hS => by unfold bareO; go_simp) HS (fun inv => ?_)
    try simp only [Act.put, List.setIfInBounds_toArray, List.set_cons_zero, List.set_cons_succ]
    refine FirstH.goG (i := 16) (v := .pointer (some ⟨b', 1, none⟩)) rfl (by rfl) 34 rfl (Op.fieldAddr 85 (Operand.tmp 33) 1) rfl (by kernel_rfl) (fun _ _ _ h => h) inv (fun W hS => by unfold bareO; go_simp) HS (fun inv => ?_)
    try simp only [Act.put, List.setIfInBounds_toArray, List.set_cons_zero, List.set_cons_succ]
    refine FirstH.goG (i := 17) (v := .map (some m')) rfl (by rfl) 35 rfl (Op.load 82 (Operand.tmp 34)) rfl (by kernel_rfl) (fun _ _ _ h => h) inv (fun W hS => by have hb0 := (hS.block _ (bltA RC.out)).trans RC.out; have c0 := cell_of hb0 1 (.map (some m')) rfl; unfold bareO; go_simp) HS (fun inv => ?_)
    try simp only [Act.put, List.setIfInBounds_toArray, List.set_cons_zero, List.set_cons_succ]
    refine FirstH.only (i := 18) (by kernel_rfl) (by decide) inv (fun inv => wpOp_callG (i := 18) rfl (by rfl) 36 rfl (Op.call { callee := Callee.value (.func 53), args := #[Operand.tmp 31, Operand.tmp 35], argTypes := #[82, 82] }) rfl 53 #[.map (some m), .map (some m')] (by unfold bareO; go_simp) (eqRowsA wd b m k c b' m' k' c' t u (HP.out.below HS) (HQ.out.below HS)) ?_)
    rintro e v1 ⟨rfl, b1⟩
    have HS : Below W.heap.size W v1 := HS.trans (b1.mono HS.size)
    clear b1
    rw [HEL.out]
    refine ⟨_, rfl, HS, ?_⟩
    try simp only [Act.put, List.setIfInBounds_toArray, List.set_cons_zero, List.set_cons_succ]
    refine FirstH.go (i := 19) (v := .bool false) rfl rfl 37 rfl (Op.pick (Operand.tmp 27) (Operand.tmp 36) (Operand.const (Value.bool false))) rfl (by kernel_rfl) (fun _ _ _ h => h) inv (fun W hS => by unfold bareO; go_simp) HS (fun inv => ?_)
    try simp only [Act.put, List.setIfInBounds_toArray, List.set_cons_zero, List.set_cons_succ]
    refine FirstH.go (i := 20) (v := .bool false) rfl rfl 38 rfl (Op.move (Operand.tmp 37)) rfl (by kernel_rfl) (fun _ _ _ h => h) inv (fun W hS => by unfold bareO; go_simp) HS (fun inv => ?_)
    try simp only [Act.put, List.setIfInBounds_toArray, List.set_cons_zero, List.set_cons_succ]
    refine FirstH.goS (i := 21) rfl (by rfl) 39 rfl (by kernel_rfl) (fun _ _ _ h => h) inv HS (fun inv => ?_)
    try simp only [Act.put, List.setIfInBounds_toArray, List.set_cons_zero, List.set_cons_succ]
    refine FirstH.goS (i := 22) rfl (by rfl) 40 rfl (by kernel_rfl) (fun _ _ _ h => h) inv HS (fun inv => ?_)
    try simp only [Act.put, List.setIfInBounds_toArray, List.set_cons_zero, List.set_cons_succ]
    refine FirstH.goS (i := 23) rfl (by rfl) 41 rfl (by kernel_rfl) (fun _ _ _ h => h) inv HS (fun inv => ?_)
    try simp only [Act.put, List.setIfInBounds_toArray, List.set_cons_zero, List.set_cons_succ]
    refine FirstH.goS (i := 24) rfl (by rfl) 42 rfl (by kernel_rfl) (fun _ _ _ h => h) inv HS (fun inv => ?_)
    try simp only [Act.put, List.setIfInBounds_toArray, List.set_cons_zero, List.set_cons_succ]
    refine FirstH.goS (i := 25) rfl (by rfl) 43 rfl (by kernel_rfl) (fun _ _ _ h => h) inv HS (fun inv => ?_)
    try simp only [Act.put, List.setIfInBounds_toArray, List.set_cons_zero, List.set_cons_succ]
    refine FirstH.goS (i := 26) rfl (by rfl) 44 rfl (by kernel_rfl) (fun _ _ _ h => h) inv HS (fun inv => ?_)
    try simp only [Act.put, List.setIfInBounds_toArray, List.set_cons_zero, List.set_cons_succ]
    refine FirstH.goS (i := 27) rfl (by rfl) 45 rfl (by kernel_rfl) (fun _ _ _ h => h) inv HS (fun inv => ?_)
    try simp only [Act.put, List.setIfInBounds_toArray, List.set_cons_zero, List.set_cons_succ]
    refine FirstH.goS (i := 28) rfl (by rfl) 46 rfl (by kernel_rfl) (fun _ _ _ h => h) inv HS (fun inv => ?_)
    try simp only [Act.put, List.setIfInBounds_toArray, List.set_cons_zero, List.set_cons_succ]
    refine FirstH.goS (i := 29) rfl (by rfl) 47 rfl (by kernel_rfl) (fun _ _ _ h => h) inv HS (fun inv => ?_)
    try simp only [Act.put, List.setIfInBounds_toArray, List.set_cons_zero, List.set_cons_succ]
    refine FirstH.go (i := 30) (v := .bool false) rfl rfl 48 rfl (Op.pick (Operand.tmp 38) (Operand.tmp 47) (Operand.const (Value.bool false))) rfl (by kernel_rfl) (fun _ _ _ h => h) inv (fun W hS => by unfold bareO; go_simp) HS (fun inv => ?_)
    try simp only [Act.put, List.setIfInBounds_toArray, List.set_cons_zero, List.set_cons_succ]
    refine ⟨by kernel_rfl, ?_⟩
    simp only [List.drop_succ_cons, List.drop_zero]
    have BZ := Lib.hid HS
    clear inv HS
    go_wp2_with fail
    go_ret
    exact ⟨by rw [hr]; rfl, BZ.out⟩
  | true =>
    have HEL := Lib.hid hel
    have hr : sameP t u = eqF t u := by simp [sameP, hel, hw]
    clear hel
    refine FirstH.go (i := 0) (v := .pointer (some ⟨b, 0, none⟩)) rfl rfl 18 rfl (Op.move (Operand.tmp 0)) rfl (by kernel_rfl) (fun _ _ _ h => h) inv (fun W hS => by unfold bareO; go_simp) HS (fun inv => ?_)
    try simp only [Act.put, List.setIfInBounds_toArray, List.set_cons_zero, List.set_cons_succ]
    refine FirstH.go (i := 1) (v := .pointer (some ⟨b, 0, none⟩)) rfl rfl 19 rfl (Op.nilCheck (Operand.tmp 18)) rfl (by kernel_rfl) (fun _ _ _ h => h) inv (fun W hS => by unfold bareO; go_simp) HS (fun inv => ?_)
    try simp only [Act.put, List.setIfInBounds_toArray, List.set_cons_zero, List.set_cons_succ]
    refine FirstH.go (i := 2) (v := .pointer (some ⟨b, 0, none⟩)) rfl rfl 20 rfl (Op.fieldAddr 85 (Operand.tmp 19) 0) rfl (by kernel_rfl) (fun _ _ _ h => h) inv (fun W hS => by unfold bareO; go_simp) HS (fun inv => ?_)
    try simp only [Act.put, List.setIfInBounds_toArray, List.set_cons_zero, List.set_cons_succ]
    refine FirstH.go (i := 3) (v := .int .u32 t.win) rfl rfl 21 rfl (Op.load 32 (Operand.tmp 20)) rfl (by kernel_rfl) (fun _ _ _ h => h) inv (fun W hS => by have hb0 := (hS.block _ (bltA RB.out)).trans RB.out; have c0 := cell_of hb0 0 (.int .u32 t.win) rfl; unfold bareO; go_simp) HS (fun inv => ?_)
    try simp only [Act.put, List.setIfInBounds_toArray, List.set_cons_zero, List.set_cons_succ]
    refine FirstH.go (i := 4) (v := .pointer (some ⟨b', 0, none⟩)) rfl rfl 22 rfl (Op.move (Operand.tmp 1)) rfl (by kernel_rfl) (fun _ _ _ h => h) inv (fun W hS => by unfold bareO; go_simp) HS (fun inv => ?_)
    try simp only [Act.put, List.setIfInBounds_toArray, List.set_cons_zero, List.set_cons_succ]
    refine FirstH.go (i := 5) (v := .pointer (some ⟨b', 0, none⟩)) rfl rfl 23 rfl (Op.nilCheck (Operand.tmp 22)) rfl (by kernel_rfl) (fun _ _ _ h => h) inv (fun W hS => by unfold bareO; go_simp) HS (fun inv => ?_)
    try simp only [Act.put, List.setIfInBounds_toArray, List.set_cons_zero, List.set_cons_succ]
    refine FirstH.go (i := 6) (v := .pointer (some ⟨b', 0, none⟩)) rfl rfl 24 rfl (Op.fieldAddr 85 (Operand.tmp 23) 0) rfl (by kernel_rfl) (fun _ _ _ h => h) inv (fun W hS => by unfold bareO; go_simp) HS (fun inv => ?_)
    try simp only [Act.put, List.setIfInBounds_toArray, List.set_cons_zero, List.set_cons_succ]
    refine FirstH.go (i := 7) (v := .int .u32 u.win) rfl rfl 25 rfl (Op.load 32 (Operand.tmp 24)) rfl (by kernel_rfl) (fun _ _ _ h => h) inv (fun W hS => by have hb0 := (hS.block _ (bltA RC.out)).trans RC.out; have c0 := cell_of hb0 0 (.int .u32 u.win) rfl; unfold bareO; go_simp) HS (fun inv => ?_)
    try simp only [Act.put, List.setIfInBounds_toArray, List.set_cons_zero, List.set_cons_succ]
    refine FirstH.go (i := 8) (v := .bool true) rfl rfl 26 rfl (Op.binOp BinOp.eql 32 (Operand.tmp 21) (Operand.tmp 25) 32) rfl (by kernel_rfl) (fun _ _ _ h => h) inv (fun W hS => by unfold bareO; go_simp) HS (fun inv => ?_)
    try simp only [Act.put, List.setIfInBounds_toArray, List.set_cons_zero, List.set_cons_succ]
    refine FirstH.go (i := 9) (v := .bool true) rfl rfl 27 rfl (Op.move (Operand.tmp 26)) rfl (by kernel_rfl) (fun _ _ _ h => h) inv (fun W hS => by unfold bareO; go_simp) HS (fun inv => ?_)
    try simp only [Act.put, List.setIfInBounds_toArray, List.set_cons_zero, List.set_cons_succ]
    refine FirstH.goG (i := 10) (v := .pointer (some ⟨b, 0, none⟩)) rfl (by rfl) 28 rfl (Op.move (Operand.tmp 0)) rfl (by kernel_rfl) (fun _ _ _ h => h) inv (fun W hS => by unfold bareO; go_simp) HS (fun inv => ?_)
    try simp only [Act.put, List.setIfInBounds_toArray, List.set_cons_zero, List.set_cons_succ]
    refine FirstH.goG (i := 11) (v := .pointer (some ⟨b, 0, none⟩)) rfl (by rfl) 29 rfl (Op.nilCheck (Operand.tmp 28)) rfl (by kernel_rfl) (fun _ _ _ h => h) inv (fun W hS => by unfold bareO; go_simp) HS (fun inv => ?_)
    try simp only [Act.put, List.setIfInBounds_toArray, List.set_cons_zero, List.set_cons_succ]
    refine FirstH.goG (i := 12) (v := .pointer (some ⟨b, 1, none⟩)) rfl (by rfl) 30 rfl (Op.fieldAddr 85 (Operand.tmp 29) 1) rfl (by kernel_rfl) (fun _ _ _ h => h) inv (fun W hS => by unfold bareO; go_simp) HS (fun inv => ?_)
    try simp only [Act.put, List.setIfInBounds_toArray, List.set_cons_zero, List.set_cons_succ]
    refine FirstH.goG (i := 13) (v := .map (some m)) rfl (by rfl) 31 rfl (Op.load 82 (Operand.tmp 30)) rfl (by kernel_rfl) (fun _ _ _ h => h) inv (fun W hS => by have hb0 := (hS.block _ (bltA RB.out)).trans RB.out; have c0 := cell_of hb0 1 (.map (some m)) rfl; unfold bareO; go_simp) HS (fun inv => ?_)
    try simp only [Act.put, List.setIfInBounds_toArray, List.set_cons_zero, List.set_cons_succ]
    refine FirstH.goG (i := 14) (v := .pointer (some ⟨b', 0, none⟩)) rfl (by rfl) 32 rfl (Op.move (Operand.tmp 1)) rfl (by kernel_rfl) (fun _ _ _ h => h) inv (fun W hS => by unfold bareO; go_simp) HS (fun inv => ?_)
    try simp only [Act.put, List.setIfInBounds_toArray, List.set_cons_zero, List.set_cons_succ]
    refine FirstH.goG (i := 15) (v := .pointer (some ⟨b', 0, none⟩)) rfl (by rfl) 33 rfl (Op.nilCheck (Operand.tmp 32)) rfl (by kernel_rfl) (fun _ _ _ h => h) inv (fun W hS => by unfold bareO; go_simp) HS (fun inv => ?_)
    try simp only [Act.put, List.setIfInBounds_toArray, List.set_cons_zero, List.set_cons_succ]
    refine FirstH.goG (i := 16) (v := .pointer (some ⟨b', 1, none⟩)) rfl (by rfl) 34 rfl (Op.fieldAddr 85 (Operand.tmp 33) 1) rfl (by kernel_rfl) (fun _ _ _ h => h) inv (fun W hS => by unfold bareO; go_simp) HS (fun inv => ?_)
    try simp only [Act.put, List.setIfInBounds_toArray, List.set_cons_zero, List.set_cons_succ]
    refine FirstH.goG (i := 17) (v := .map (some m')) rfl (by rfl) 35 rfl (Op.load 82 (Operand.tmp 34)) rfl (by kernel_rfl) (fun _ _ _ h => h) inv (fun W hS => by have hb0 := (hS.block _ (bltA RC.out)).trans RC.out; have c0 := cell_of hb0 1 (.map (some m')) rfl; unfold bareO; go_simp) HS (fun inv => ?_)
    try simp only [Act.put, List.setIfInBounds_toArray, List.set_cons_zero, List.set_cons_succ]
    refine FirstH.only (i := 18) (by kernel_rfl) (by decide) inv (fun inv => wpOp_callG (i := 18) rfl (by rfl) 36 rfl (Op.call { callee := Callee.value (.func 53), args := #[Operand.tmp 31, Operand.tmp 35], argTypes := #[82, 82] }) rfl 53 #[.map (some m), .map (some m')] (by unfold bareO; go_simp) (eqRowsA wd b m k c b' m' k' c' t u (HP.out.below HS) (HQ.out.below HS)) ?_)
    rintro e v1 ⟨rfl, b1⟩
    have HS : Below W.heap.size W v1 := HS.trans (b1.mono HS.size)
    clear b1
    rw [HEL.out]
    refine ⟨_, rfl, HS, ?_⟩
    try simp only [Act.put, List.setIfInBounds_toArray, List.set_cons_zero, List.set_cons_succ]
    refine FirstH.go (i := 19) (v := .bool true) rfl rfl 37 rfl (Op.pick (Operand.tmp 27) (Operand.tmp 36) (Operand.const (Value.bool false))) rfl (by kernel_rfl) (fun _ _ _ h => h) inv (fun W hS => by unfold bareO; go_simp) HS (fun inv => ?_)
    try simp only [Act.put, List.setIfInBounds_toArray, List.set_cons_zero, List.set_cons_succ]
    refine FirstH.go (i := 20) (v := .bool true) rfl rfl 38 rfl (Op.move (Operand.tmp 37)) rfl (by kernel_rfl) (fun _ _ _ h => h) inv (fun W hS => by unfold bareO; go_simp) HS (fun inv => ?_)
    try simp only [Act.put, List.setIfInBounds_toArray, List.set_cons_zero, List.set_cons_succ]
    refine FirstH.goG (i := 21) (v := .pointer (some ⟨b, 0, none⟩)) rfl (by rfl) 39 rfl (Op.move (Operand.tmp 0)) rfl (by kernel_rfl) (fun _ _ _ h => h) inv (fun W hS => by unfold bareO; go_simp) HS (fun inv => ?_)
    try simp only [Act.put, List.setIfInBounds_toArray, List.set_cons_zero, List.set_cons_succ]
    refine FirstH.goG (i := 22) (v := .pointer (some ⟨b, 0, none⟩)) rfl (by rfl) 40 rfl (Op.nilCheck (Operand.tmp 39)) rfl (by kernel_rfl) (fun _ _ _ h => h) inv (fun W hS => by unfold bareO; go_simp) HS (fun inv => ?_)
    try simp only [Act.put, List.setIfInBounds_toArray, List.set_cons_zero, List.set_cons_succ]
    refine FirstH.goG (i := 23) (v := .pointer (some ⟨b, 2, none⟩)) rfl (by rfl) 41 rfl (Op.fieldAddr 85 (Operand.tmp 40) 2) rfl (by kernel_rfl) (fun _ _ _ h => h) inv (fun W hS => by unfold bareO; go_simp) HS (fun inv => ?_)
    try simp only [Act.put, List.setIfInBounds_toArray, List.set_cons_zero, List.set_cons_succ]
    refine FirstH.goG (i := 24) (v := .map (some k)) rfl (by rfl) 42 rfl (Op.load 83 (Operand.tmp 41)) rfl (by kernel_rfl) (fun _ _ _ h => h) inv (fun W hS => by have hb0 := (hS.block _ (bltA RB.out)).trans RB.out; have c0 := cell_of hb0 2 (.map (some k)) rfl; unfold bareO; go_simp) HS (fun inv => ?_)
    try simp only [Act.put, List.setIfInBounds_toArray, List.set_cons_zero, List.set_cons_succ]
    refine FirstH.goG (i := 25) (v := .pointer (some ⟨b', 0, none⟩)) rfl (by rfl) 43 rfl (Op.move (Operand.tmp 1)) rfl (by kernel_rfl) (fun _ _ _ h => h) inv (fun W hS => by unfold bareO; go_simp) HS (fun inv => ?_)
    try simp only [Act.put, List.setIfInBounds_toArray, List.set_cons_zero, List.set_cons_succ]
    refine FirstH.goG (i := 26) (v := .pointer (some ⟨b', 0, none⟩)) rfl (by rfl) 44 rfl (Op.nilCheck (Operand.tmp 43)) rfl (by kernel_rfl) (fun _ _ _ h => h) inv (fun W hS => by unfold bareO; go_simp) HS (fun inv => ?_)
    try simp only [Act.put, List.setIfInBounds_toArray, List.set_cons_zero, List.set_cons_succ]
    refine FirstH.goG (i := 27) (v := .pointer (some ⟨b', 2, none⟩)) rfl (by rfl) 45 rfl (Op.fieldAddr 85 (Operand.tmp 44) 2) rfl (by kernel_rfl) (fun _ _ _ h => h) inv (fun W hS => by unfold bareO; go_simp) HS (fun inv => ?_)
    try simp only [Act.put, List.setIfInBounds_toArray, List.set_cons_zero, List.set_cons_succ]
    refine FirstH.goG (i := 28) (v := .map (some k')) rfl (by rfl) 46 rfl (Op.load 83 (Operand.tmp 45)) rfl (by kernel_rfl) (fun _ _ _ h => h) inv (fun W hS => by have hb0 := (hS.block _ (bltA RC.out)).trans RC.out; have c0 := cell_of hb0 2 (.map (some k')) rfl; unfold bareO; go_simp) HS (fun inv => ?_)
    try simp only [Act.put, List.setIfInBounds_toArray, List.set_cons_zero, List.set_cons_succ]
    refine FirstH.only (i := 29) (by kernel_rfl) (by decide) inv (fun inv => wpOp_callG (i := 29) rfl (by rfl) 47 rfl (Op.call { callee := Callee.value (.func 54), args := #[Operand.tmp 42, Operand.tmp 46], argTypes := #[83, 83] }) rfl 54 #[.map (some k), .map (some k')] (by unfold bareO; go_simp) (eqFlosA v1 b m k c b' m' k' c' t u (HP.out.below HS) (HQ.out.below HS)) ?_)
    rintro e v2 ⟨rfl, b2⟩
    have HS : Below W.heap.size W v2 := HS.trans (b2.mono HS.size)
    clear b2
    refine ⟨_, rfl, HS, ?_⟩
    try simp only [Act.put, List.setIfInBounds_toArray, List.set_cons_zero, List.set_cons_succ]
    refine FirstH.go (i := 30) (v := .bool (eqF t u)) rfl rfl 48 rfl (Op.pick (Operand.tmp 38) (Operand.tmp 47) (Operand.const (Value.bool false))) rfl (by kernel_rfl) (fun _ _ _ h => h) inv (fun W hS => by unfold bareO; go_simp) HS (fun inv => ?_)
    try simp only [Act.put, List.setIfInBounds_toArray, List.set_cons_zero, List.set_cons_succ]
    refine ⟨by kernel_rfl, ?_⟩
    simp only [List.drop_succ_cons, List.drop_zero]
    have BZ := Lib.hid HS
    clear inv HS
    go_wp2_with fail
    go_ret
    exact ⟨by rw [hr]; rfl, BZ.out⟩
end

section
set_option linter.unusedSimpArgs false
set_option linter.unusedVariables false
open Go.RowKit Go.Maps Go.Sort

/-- are two tables the same, by the document? -/
def sameD (t u : Tt) : Bool := decide (t.win = u.win) && (decide (t.L.length = u.L.length) && (decide (t.F.length = u.F.length) && ((t.L.zip u.L).all (fun p => eqRw p.1 p.2) && t.F.all fun x => decide (floorF u.F x.n x.l = x.f))))
theorem zip_false {L M : List Rw} {j : Nat} {y z : Rw} (hy : L[j]? = some y) (hz : M[j]? = some z) (h : eqRw y z = false) : (L.zip M).all (fun p => eqRw p.1 p.2) = false := by
  cases hall : (L.zip M).all (fun p => eqRw p.1 p.2) with
  | false => rfl
  | true =>
    have hm : (y, z) ∈ L.zip M := List.mem_of_getElem? (i := j) (List.getElem?_zip_eq_some.2 ⟨hy, hz⟩)
    have := List.all_eq_true.1 hall _ hm
    rw [h] at this
    cases this
theorem zip_true {L M : List Rw} (h : ∀ (j : Nat) (y z : Rw), L[j]? = some y → M[j]? = some z → eqRw y z = true) : (L.zip M).all (fun p => eqRw p.1 p.2) = true := by
  refine List.all_eq_true.2 fun p hp => ?_
  obtain ⟨j, hj⟩ := List.getElem?_of_mem hp
  obtain ⟨h1, h2⟩ := List.getElem?_zip_eq_some.1 hj
  exact h j _ _ h1 h2
theorem flo_false {F G : List Fw} {y : Fw} (hy : y ∈ F) (h : ¬ floorF G y.n y.l = y.f) : F.all (fun x => decide (floorF G x.n x.l = x.f)) = false := by
  cases hall : F.all (fun x => decide (floorF G x.n x.l = x.f)) with
  | false => rfl
  | true =>
    have := List.all_eq_true.1 hall y hy
    exact absurd (by simpa using this) h
theorem flo_true {F G : List Fw} (h : ∀ (j : Nat) (y : Fw), F[j]? = some y → floorF G y.n y.l = y.f) : F.all (fun x => decide (floorF G x.n x.l = x.f)) = true := by
  refine List.all_eq_true.2 fun x hx => ?_
  obtain ⟨j, hj⟩ := List.getElem?_of_mem hx
  simpa using h j x hj
set_option maxRecDepth 100000 in
set_option maxHeartbeats 4000000 in
theorem sameT (W : World) (r s : Nat) (t u : Tt) (lv fv lv' fv' : Value) (h : DT W r t lv fv) (h' : DT W s u lv' fv') :
    Calls Try.prog 33 #[.pointer (some ⟨r, 0, none⟩), .pointer (some ⟨s, 0, none⟩)] W fun e W' => e = .returned (.bool (sameD t u)) ∧ Below W.heap.size W W' := by
  obtain ⟨A1, c1, rfl, hc1, hm1, hA1⟩ := h.rows.slice
  obtain ⟨A2, c2, rfl, hc2, hm2, hA2⟩ := h'.rows.slice
  obtain ⟨A3, c3, rfl, hc3, hm3, hA3⟩ := h.flo.slice
  obtain ⟨A4, c4, rfl, hc4, hm4, hA4⟩ := h'.flo.slice
  have hfw := h.few
  obtain ⟨n1, hn1⟩ : ∃ q, t.L.length = q := ⟨_, rfl⟩
  obtain ⟨n2, hn2⟩ : ∃ q, u.L.length = q := ⟨_, rfl⟩
  obtain ⟨f1, hf1⟩ : ∃ q, t.F.length = q := ⟨_, rfl⟩
  obtain ⟨f2, hf2⟩ : ∃ q, u.F.length = q := ⟨_, rfl⟩
  have HN1 := Lib.hid hn1
  have HN2 := Lib.hid hn2
  have HF1 := Lib.hid hf1
  have HF2 := Lib.hid hf2
  have HA1 := Lib.hid hA1
  have HA2 := Lib.hid hA2
  have HA3 := Lib.hid hA3
  have RB : Hid (W.heap[r]? = some (.cells #[.int .i64 t.win, .slice A1 n1 c1, .slice A3 f1 c3] 71 (0, 0))) := Lib.hid (hn1 ▸ hf1 ▸ h.blk)
  have RC : Hid (W.heap[s]? = some (.cells #[.int .i64 u.win, .slice A2 n2 c2, .slice A4 f2 c4] 71 (0, 0))) := Lib.hid (hn2 ▸ hf2 ▸ h'.blk)
  have HP := Lib.hid h
  have HQ := Lib.hid h'
  rw [hn1] at hc1 hfw
  rw [hn2] at hc2
  rw [hf1] at hc3 hfw
  rw [hf2] at hc4
  have hcap1 : n1 ≤ 9223372036854775807 := by omega
  have hcap3 : f1 ≤ 9223372036854775807 := by omega
  obtain ⟨bq, hbq⟩ : ∃ q, sameD t u = q := ⟨_, rfl⟩
  rw [hbq]
  have HB := Lib.hid hbq
  have BX0 : Hid (Below W.heap.size W W.drew) := Lib.hid (Below.refl _ _).drew
  clear h h' hA1 hA2 hA3 hA4 hn1 hn2 hf1 hf2 hfw hm1 hm2 hm3 hm4 hbq
  go_enter Try.func33, Try.ntmps33
  go_wp2_with fail
  refine region_heldT (S := fun X : World => Below W.heap.size W X) 34 (by kernel_rfl) (by decide) (fun inv => ?_)
  have HS : Below W.heap.size W W.drew := BX0.out
  change FirstH _ _ _ _ _ _ _ _ _ _ W.drew
  generalize W.drew = wd at *
  by_cases hw : t.win = u.win
  rotate_left
  · have hr : bq = false := by rw [← HB.out]; simp [sameD, hw]
    refine FirstH.go (i := 0) (v := .pointer (some ⟨r, 0, none⟩)) rfl rfl 7 rfl (Op.move (Operand.tmp 0)) rfl (by kernel_rfl) (fun _ _ _ h => h) inv (fun W hS => by unfold bareO; go_simp) HS (fun inv => ?_)
    try simp only [Act.put, List.setIfInBounds_toArray, List.set_cons_zero, List.set_cons_succ]
    refine FirstH.go (i := 1) (v := .pointer (some ⟨r, 0, none⟩)) rfl rfl 8 rfl (Op.nilCheck (Operand.tmp 7)) rfl (by kernel_rfl) (fun _ _ _ h => h) inv (fun W hS => by unfold bareO; go_simp) HS (fun inv => ?_)
    try simp only [Act.put, List.setIfInBounds_toArray, List.set_cons_zero, List.set_cons_succ]
    refine FirstH.go (i := 2) (v := .pointer (some ⟨r, 0, none⟩)) rfl rfl 9 rfl (Op.fieldAddr 71 (Operand.tmp 8) 0) rfl (by kernel_rfl) (fun _ _ _ h => h) inv (fun W hS => by unfold bareO; go_simp) HS (fun inv => ?_)
    try simp only [Act.put, List.setIfInBounds_toArray, List.set_cons_zero, List.set_cons_succ]
    refine FirstH.go (i := 3) (v := .int .i64 t.win) rfl rfl 10 rfl (Op.load 3 (Operand.tmp 9)) rfl (by kernel_rfl) (fun _ _ _ h => h) inv (fun W hS => by have hb0 := (hS.block _ (bltA RB.out)).trans RB.out; have c0 := cell_of hb0 0 (.int .i64 t.win) rfl; unfold bareO; go_simp) HS (fun inv => ?_)
    try simp only [Act.put, List.setIfInBounds_toArray, List.set_cons_zero, List.set_cons_succ]
    refine FirstH.go (i := 4) (v := .pointer (some ⟨s, 0, none⟩)) rfl rfl 11 rfl (Op.move (Operand.tmp 1)) rfl (by kernel_rfl) (fun _ _ _ h => h) inv (fun W hS => by unfold bareO; go_simp) HS (fun inv => ?_)
    try simp only [Act.put, List.setIfInBounds_toArray, List.set_cons_zero, List.set_cons_succ]
    refine FirstH.go (i := 5) (v := .pointer (some ⟨s, 0, none⟩)) rfl rfl 12 rfl (Op.nilCheck (Operand.tmp 11)) rfl (by kernel_rfl) (fun _ _ _ h => h) inv (fun W hS => by unfold bareO; go_simp) HS (fun inv => ?_)
    try simp only [Act.put, List.setIfInBounds_toArray, List.set_cons_zero, List.set_cons_succ]
    refine FirstH.go (i := 6) (v := .pointer (some ⟨s, 0, none⟩)) rfl rfl 13 rfl (Op.fieldAddr 71 (Operand.tmp 12) 0) rfl (by kernel_rfl) (fun _ _ _ h => h) inv (fun W hS => by unfold bareO; go_simp) HS (fun inv => ?_)
    try simp only [Act.put, List.setIfInBounds_toArray, List.set_cons_zero, List.set_cons_succ]
    refine FirstH.go (i := 7) (v := .int .i64 u.win) rfl rfl 14 rfl (Op.load 3 (Operand.tmp 13)) rfl (by kernel_rfl) (fun _ _ _ h => h) inv (fun W hS => by have hb0 := (hS.block _ (bltA RC.out)).trans RC.out; have c0 := cell_of hb0 0 (.int .i64 u.win) rfl; unfold bareO; go_simp) HS (fun inv => ?_)
    try simp only [Act.put, List.setIfInBounds_toArray, List.set_cons_zero, List.set_cons_succ]
    refine FirstH.go (i := 8) (v := .bool true) rfl rfl 15 rfl (Op.binOp BinOp.neq 3 (Operand.tmp 10) (Operand.tmp 14) 3) rfl (by kernel_rfl) (fun _ _ _ h => h) inv (fun W hS => by unfold bareO; go_simp) HS (fun inv => ?_)
    try simp only [Act.put, List.setIfInBounds_toArray, List.set_cons_zero, List.set_cons_succ]
    refine FirstH.go (i := 9) (v := .bool true) rfl rfl 16 rfl (Op.move (Operand.tmp 15)) rfl (by kernel_rfl) (fun _ _ _ h => h) inv (fun W hS => by unfold bareO; go_simp) HS (fun inv => ?_)
    try simp only [Act.put, List.setIfInBounds_toArray, List.set_cons_zero, List.set_cons_succ]
    refine FirstH.goS (i := 10) rfl (by rfl) 17 rfl (by kernel_rfl) (fun _ _ _ h => h) inv HS (fun inv => ?_)
    try simp only [Act.put, List.setIfInBounds_toArray, List.set_cons_zero, List.set_cons_succ]
    refine FirstH.goS (i := 11) rfl (by rfl) 18 rfl (by kernel_rfl) (fun _ _ _ h => h) inv HS (fun inv => ?_)
    try simp only [Act.put, List.setIfInBounds_toArray, List.set_cons_zero, List.set_cons_succ]
    refine FirstH.goS (i := 12) rfl (by rfl) 19 rfl (by kernel_rfl) (fun _ _ _ h => h) inv HS (fun inv => ?_)
    try simp only [Act.put, List.setIfInBounds_toArray, List.set_cons_zero, List.set_cons_succ]
    refine FirstH.goS (i := 13) rfl (by rfl) 20 rfl (by kernel_rfl) (fun _ _ _ h => h) inv HS (fun inv => ?_)
    try simp only [Act.put, List.setIfInBounds_toArray, List.set_cons_zero, List.set_cons_succ]
    refine FirstH.goS (i := 14) rfl (by rfl) 21 rfl (by kernel_rfl) (fun _ _ _ h => h) inv HS (fun inv => ?_)
    try simp only [Act.put, List.setIfInBounds_toArray, List.set_cons_zero, List.set_cons_succ]
    refine FirstH.goS (i := 15) rfl (by rfl) 22 rfl (by kernel_rfl) (fun _ _ _ h => h) inv HS (fun inv => ?_)
    try simp only [Act.put, List.setIfInBounds_toArray, List.set_cons_zero, List.set_cons_succ]
    refine FirstH.goS (i := 16) rfl (by rfl) 23 rfl (by kernel_rfl) (fun _ _ _ h => h) inv HS (fun inv => ?_)
    try simp only [Act.put, List.setIfInBounds_toArray, List.set_cons_zero, List.set_cons_succ]
    refine FirstH.goS (i := 17) rfl (by rfl) 24 rfl (by kernel_rfl) (fun _ _ _ h => h) inv HS (fun inv => ?_)
    try simp only [Act.put, List.setIfInBounds_toArray, List.set_cons_zero, List.set_cons_succ]
    refine FirstH.goS (i := 18) rfl (by rfl) 25 rfl (by kernel_rfl) (fun _ _ _ h => h) inv HS (fun inv => ?_)
    try simp only [Act.put, List.setIfInBounds_toArray, List.set_cons_zero, List.set_cons_succ]
    refine FirstH.goS (i := 19) rfl (by rfl) 26 rfl (by kernel_rfl) (fun _ _ _ h => h) inv HS (fun inv => ?_)
    try simp only [Act.put, List.setIfInBounds_toArray, List.set_cons_zero, List.set_cons_succ]
    refine FirstH.goS (i := 20) rfl (by rfl) 27 rfl (by kernel_rfl) (fun _ _ _ h => h) inv HS (fun inv => ?_)
    try simp only [Act.put, List.setIfInBounds_toArray, List.set_cons_zero, List.set_cons_succ]
    refine FirstH.go (i := 21) (v := .bool true) rfl rfl 28 rfl (Op.pick (Operand.tmp 16) (Operand.const (Value.bool true)) (Operand.tmp 27)) rfl (by kernel_rfl) (fun _ _ _ h => h) inv (fun W hS => by unfold bareO; go_simp) HS (fun inv => ?_)
    try simp only [Act.put, List.setIfInBounds_toArray, List.set_cons_zero, List.set_cons_succ]
    refine FirstH.go (i := 22) (v := .bool true) rfl rfl 29 rfl (Op.move (Operand.tmp 28)) rfl (by kernel_rfl) (fun _ _ _ h => h) inv (fun W hS => by unfold bareO; go_simp) HS (fun inv => ?_)
    try simp only [Act.put, List.setIfInBounds_toArray, List.set_cons_zero, List.set_cons_succ]
    refine FirstH.goS (i := 23) rfl (by rfl) 30 rfl (by kernel_rfl) (fun _ _ _ h => h) inv HS (fun inv => ?_)
    try simp only [Act.put, List.setIfInBounds_toArray, List.set_cons_zero, List.set_cons_succ]
    refine FirstH.goS (i := 24) rfl (by rfl) 31 rfl (by kernel_rfl) (fun _ _ _ h => h) inv HS (fun inv => ?_)
    try simp only [Act.put, List.setIfInBounds_toArray, List.set_cons_zero, List.set_cons_succ]
    refine FirstH.goS (i := 25) rfl (by rfl) 32 rfl (by kernel_rfl) (fun _ _ _ h => h) inv HS (fun inv => ?_)
    try simp only [Act.put, List.setIfInBounds_toArray, List.set_cons_zero, List.set_cons_succ]
    refine FirstH.goS (i := 26) rfl (by rfl) 33 rfl (by kernel_rfl) (fun _ _ _ h => h) inv HS (fun inv => ?_)
    try simp only [Act.put, List.setIfInBounds_toArray, List.set_cons_zero, List.set_cons_succ]
    refine FirstH.goS (i := 27) rfl (by rfl) 34 rfl (by kernel_rfl) (fun _ _ _ h => h) inv HS (fun inv => ?_)
    try simp only [Act.put, List.setIfInBounds_toArray, List.set_cons_zero, List.set_cons_succ]
    refine FirstH.goS (i := 28) rfl (by rfl) 35 rfl (by kernel_rfl) (fun _ _ _ h => h) inv HS (fun inv => ?_)
    try simp only [Act.put, List.setIfInBounds_toArray, List.set_cons_zero, List.set_cons_succ]
    refine FirstH.goS (i := 29) rfl (by rfl) 36 rfl (by kernel_rfl) (fun _ _ _ h => h) inv HS (fun inv => ?_)
    try simp only [Act.put, List.setIfInBounds_toArray, List.set_cons_zero, List.set_cons_succ]
    refine FirstH.goS (i := 30) rfl (by rfl) 37 rfl (by kernel_rfl) (fun _ _ _ h => h) inv HS (fun inv => ?_)
    try simp only [Act.put, List.setIfInBounds_toArray, List.set_cons_zero, List.set_cons_succ]
    refine FirstH.goS (i := 31) rfl (by rfl) 38 rfl (by kernel_rfl) (fun _ _ _ h => h) inv HS (fun inv => ?_)
    try simp only [Act.put, List.setIfInBounds_toArray, List.set_cons_zero, List.set_cons_succ]
    refine FirstH.goS (i := 32) rfl (by rfl) 39 rfl (by kernel_rfl) (fun _ _ _ h => h) inv HS (fun inv => ?_)
    try simp only [Act.put, List.setIfInBounds_toArray, List.set_cons_zero, List.set_cons_succ]
    refine FirstH.goS (i := 33) rfl (by rfl) 40 rfl (by kernel_rfl) (fun _ _ _ h => h) inv HS (fun inv => ?_)
    try simp only [Act.put, List.setIfInBounds_toArray, List.set_cons_zero, List.set_cons_succ]
    refine ⟨by kernel_rfl, ?_⟩
    simp only [List.drop_succ_cons, List.drop_zero]
    have BZ := Lib.hid HS
    clear inv HS
    go_wp2_with fail
    go_ret
    exact ⟨by first | rfl | (rw [hr]; rfl), BZ.out⟩
  by_cases hn : n1 = n2
  rotate_left
  · have hr : bq = false := by rw [← HB.out]; unfold sameD; rw [HN1.out, HN2.out]; simp [hn]
    have hni : ¬ (n1 : Int) = (n2 : Int) := by omega
    refine FirstH.go (i := 0) (v := .pointer (some ⟨r, 0, none⟩)) rfl rfl 7 rfl (Op.move (Operand.tmp 0)) rfl (by kernel_rfl) (fun _ _ _ h => h) inv (fun W hS => by unfold bareO; go_simp) HS (fun inv => ?_)
    try simp only [Act.put, List.setIfInBounds_toArray, List.set_cons_zero, List.set_cons_succ]
    refine FirstH.go (i := 1) (v := .pointer (some ⟨r, 0, none⟩)) rfl rfl 8 rfl (Op.nilCheck (Operand.tmp 7)) rfl (by kernel_rfl) (fun _ _ _ h => h) inv (fun W hS => by unfold bareO; go_simp) HS (fun inv => ?_)
    try simp only [Act.put, List.setIfInBounds_toArray, List.set_cons_zero, List.set_cons_succ]
    refine FirstH.go (i := 2) (v := .pointer (some ⟨r, 0, none⟩)) rfl rfl 9 rfl (Op.fieldAddr 71 (Operand.tmp 8) 0) rfl (by kernel_rfl) (fun _ _ _ h => h) inv (fun W hS => by unfold bareO; go_simp) HS (fun inv => ?_)
    try simp only [Act.put, List.setIfInBounds_toArray, List.set_cons_zero, List.set_cons_succ]
    refine FirstH.go (i := 3) (v := .int .i64 t.win) rfl rfl 10 rfl (Op.load 3 (Operand.tmp 9)) rfl (by kernel_rfl) (fun _ _ _ h => h) inv (fun W hS => by have hb0 := (hS.block _ (bltA RB.out)).trans RB.out; have c0 := cell_of hb0 0 (.int .i64 t.win) rfl; unfold bareO; go_simp) HS (fun inv => ?_)
    try simp only [Act.put, List.setIfInBounds_toArray, List.set_cons_zero, List.set_cons_succ]
    refine FirstH.go (i := 4) (v := .pointer (some ⟨s, 0, none⟩)) rfl rfl 11 rfl (Op.move (Operand.tmp 1)) rfl (by kernel_rfl) (fun _ _ _ h => h) inv (fun W hS => by unfold bareO; go_simp) HS (fun inv => ?_)
    try simp only [Act.put, List.setIfInBounds_toArray, List.set_cons_zero, List.set_cons_succ]
    refine FirstH.go (i := 5) (v := .pointer (some ⟨s, 0, none⟩)) rfl rfl 12 rfl (Op.nilCheck (Operand.tmp 11)) rfl (by kernel_rfl) (fun _ _ _ h => h) inv (fun W hS => by unfold bareO; go_simp) HS (fun inv => ?_)
    try simp only [Act.put, List.setIfInBounds_toArray, List.set_cons_zero, List.set_cons_succ]
    refine FirstH.go (i := 6) (v := .pointer (some ⟨s, 0, none⟩)) rfl rfl 13 rfl (Op.fieldAddr 71 (Operand.tmp 12) 0) rfl (by kernel_rfl) (fun _ _ _ h => h) inv (fun W hS => by unfold bareO; go_simp) HS (fun inv => ?_)
    try simp only [Act.put, List.setIfInBounds_toArray, List.set_cons_zero, List.set_cons_succ]
    refine FirstH.go (i := 7) (v := .int .i64 u.win) rfl rfl 14 rfl (Op.load 3 (Operand.tmp 13)) rfl (by kernel_rfl) (fun _ _ _ h => h) inv (fun W hS => by have hb0 := (hS.block _ (bltA RC.out)).trans RC.out; have c0 := cell_of hb0 0 (.int .i64 u.win) rfl; unfold bareO; go_simp) HS (fun inv => ?_)
    try simp only [Act.put, List.setIfInBounds_toArray, List.set_cons_zero, List.set_cons_succ]
    refine FirstH.go (i := 8) (v := .bool false) rfl rfl 15 rfl (Op.binOp BinOp.neq 3 (Operand.tmp 10) (Operand.tmp 14) 3) rfl (by kernel_rfl) (fun _ _ _ h => h) inv (fun W hS => by unfold bareO; go_simp) HS (fun inv => ?_)
    try simp only [Act.put, List.setIfInBounds_toArray, List.set_cons_zero, List.set_cons_succ]
    refine FirstH.go (i := 9) (v := .bool false) rfl rfl 16 rfl (Op.move (Operand.tmp 15)) rfl (by kernel_rfl) (fun _ _ _ h => h) inv (fun W hS => by unfold bareO; go_simp) HS (fun inv => ?_)
    try simp only [Act.put, List.setIfInBounds_toArray, List.set_cons_zero, List.set_cons_succ]
    refine FirstH.goG (i := 10) (v := .pointer (some ⟨r, 0, none⟩)) rfl (by rfl) 17 rfl (Op.move (Operand.tmp 0)) rfl (by kernel_rfl) (fun _ _ _ h => h) inv (fun W hS => by unfold bareO; go_simp) HS (fun inv => ?_)
    try simp only [Act.put, List.setIfInBounds_toArray, List.set_cons_zero, List.set_cons_succ]
    refine FirstH.goG (i := 11) (v := .pointer (some ⟨r, 0, none⟩)) rfl (by rfl) 18 rfl (Op.nilCheck (Operand.tmp 17)) rfl (by kernel_rfl) (fun _ _ _ h => h) inv (fun W hS => by unfold bareO; go_simp) HS (fun inv => ?_)
    try simp only [Act.put, List.setIfInBounds_toArray, List.set_cons_zero, List.set_cons_succ]
    refine FirstH.goG (i := 12) (v := .pointer (some ⟨r, 1, none⟩)) rfl (by rfl) 19 rfl (Op.fieldAddr 71 (Operand.tmp 18) 1) rfl (by kernel_rfl) (fun _ _ _ h => h) inv (fun W hS => by unfold bareO; go_simp) HS (fun inv => ?_)
    try simp only [Act.put, List.setIfInBounds_toArray, List.set_cons_zero, List.set_cons_succ]
    refine FirstH.goG (i := 13) (v := .slice A1 n1 c1) rfl (by rfl) 20 rfl (Op.load 68 (Operand.tmp 19)) rfl (by kernel_rfl) (fun _ _ _ h => h) inv (fun W hS => by have hb0 := (hS.block _ (bltA RB.out)).trans RB.out; have c0 := cell_of hb0 1 (.slice A1 n1 c1) rfl; unfold bareO; go_simp) HS (fun inv => ?_)
    try simp only [Act.put, List.setIfInBounds_toArray, List.set_cons_zero, List.set_cons_succ]
    refine FirstH.goG (i := 14) (v := .int .i64 n1) rfl (by rfl) 21 rfl (Op.call { callee := Callee.builtin Builtin.len, args := #[Operand.tmp 20], argTypes := #[68] }) rfl (by kernel_rfl) (fun _ _ _ h => h) inv (fun W hS => by unfold bareO; go_simp) HS (fun inv => ?_)
    try simp only [Act.put, List.setIfInBounds_toArray, List.set_cons_zero, List.set_cons_succ]
    refine FirstH.goG (i := 15) (v := .pointer (some ⟨s, 0, none⟩)) rfl (by rfl) 22 rfl (Op.move (Operand.tmp 1)) rfl (by kernel_rfl) (fun _ _ _ h => h) inv (fun W hS => by unfold bareO; go_simp) HS (fun inv => ?_)
    try simp only [Act.put, List.setIfInBounds_toArray, List.set_cons_zero, List.set_cons_succ]
    refine FirstH.goG (i := 16) (v := .pointer (some ⟨s, 0, none⟩)) rfl (by rfl) 23 rfl (Op.nilCheck (Operand.tmp 22)) rfl (by kernel_rfl) (fun _ _ _ h => h) inv (fun W hS => by unfold bareO; go_simp) HS (fun inv => ?_)
    try simp only [Act.put, List.setIfInBounds_toArray, List.set_cons_zero, List.set_cons_succ]
    refine FirstH.goG (i := 17) (v := .pointer (some ⟨s, 1, none⟩)) rfl (by rfl) 24 rfl (Op.fieldAddr 71 (Operand.tmp 23) 1) rfl (by kernel_rfl) (fun _ _ _ h => h) inv (fun W hS => by unfold bareO; go_simp) HS (fun inv => ?_)
    try simp only [Act.put, List.setIfInBounds_toArray, List.set_cons_zero, List.set_cons_succ]
    refine FirstH.goG (i := 18) (v := .slice A2 n2 c2) rfl (by rfl) 25 rfl (Op.load 68 (Operand.tmp 24)) rfl (by kernel_rfl) (fun _ _ _ h => h) inv (fun W hS => by have hb0 := (hS.block _ (bltA RC.out)).trans RC.out; have c0 := cell_of hb0 1 (.slice A2 n2 c2) rfl; unfold bareO; go_simp) HS (fun inv => ?_)
    try simp only [Act.put, List.setIfInBounds_toArray, List.set_cons_zero, List.set_cons_succ]
    refine FirstH.goG (i := 19) (v := .int .i64 n2) rfl (by rfl) 26 rfl (Op.call { callee := Callee.builtin Builtin.len, args := #[Operand.tmp 25], argTypes := #[68] }) rfl (by kernel_rfl) (fun _ _ _ h => h) inv (fun W hS => by unfold bareO; go_simp) HS (fun inv => ?_)
    try simp only [Act.put, List.setIfInBounds_toArray, List.set_cons_zero, List.set_cons_succ]
    refine FirstH.goG (i := 20) (v := .bool true) rfl (by rfl) 27 rfl (Op.binOp BinOp.neq 3 (Operand.tmp 21) (Operand.tmp 26) 3) rfl (by kernel_rfl) (fun _ _ _ h => h) inv (fun W hS => by unfold bareO; go_simp) HS (fun inv => ?_)
    try simp only [Act.put, List.setIfInBounds_toArray, List.set_cons_zero, List.set_cons_succ]
    refine FirstH.go (i := 21) (v := .bool true) rfl rfl 28 rfl (Op.pick (Operand.tmp 16) (Operand.const (Value.bool true)) (Operand.tmp 27)) rfl (by kernel_rfl) (fun _ _ _ h => h) inv (fun W hS => by unfold bareO; go_simp) HS (fun inv => ?_)
    try simp only [Act.put, List.setIfInBounds_toArray, List.set_cons_zero, List.set_cons_succ]
    refine FirstH.go (i := 22) (v := .bool true) rfl rfl 29 rfl (Op.move (Operand.tmp 28)) rfl (by kernel_rfl) (fun _ _ _ h => h) inv (fun W hS => by unfold bareO; go_simp) HS (fun inv => ?_)
    try simp only [Act.put, List.setIfInBounds_toArray, List.set_cons_zero, List.set_cons_succ]
    refine FirstH.goS (i := 23) rfl (by rfl) 30 rfl (by kernel_rfl) (fun _ _ _ h => h) inv HS (fun inv => ?_)
    try simp only [Act.put, List.setIfInBounds_toArray, List.set_cons_zero, List.set_cons_succ]
    refine FirstH.goS (i := 24) rfl (by rfl) 31 rfl (by kernel_rfl) (fun _ _ _ h => h) inv HS (fun inv => ?_)
    try simp only [Act.put, List.setIfInBounds_toArray, List.set_cons_zero, List.set_cons_succ]
    refine FirstH.goS (i := 25) rfl (by rfl) 32 rfl (by kernel_rfl) (fun _ _ _ h => h) inv HS (fun inv => ?_)
    try simp only [Act.put, List.setIfInBounds_toArray, List.set_cons_zero, List.set_cons_succ]
    refine FirstH.goS (i := 26) rfl (by rfl) 33 rfl (by kernel_rfl) (fun _ _ _ h => h) inv HS (fun inv => ?_)
    try simp only [Act.put, List.setIfInBounds_toArray, List.set_cons_zero, List.set_cons_succ]
    refine FirstH.goS (i := 27) rfl (by rfl) 34 rfl (by kernel_rfl) (fun _ _ _ h => h) inv HS (fun inv => ?_)
    try simp only [Act.put, List.setIfInBounds_toArray, List.set_cons_zero, List.set_cons_succ]
    refine FirstH.goS (i := 28) rfl (by rfl) 35 rfl (by kernel_rfl) (fun _ _ _ h => h) inv HS (fun inv => ?_)
    try simp only [Act.put, List.setIfInBounds_toArray, List.set_cons_zero, List.set_cons_succ]
    refine FirstH.goS (i := 29) rfl (by rfl) 36 rfl (by kernel_rfl) (fun _ _ _ h => h) inv HS (fun inv => ?_)
    try simp only [Act.put, List.setIfInBounds_toArray, List.set_cons_zero, List.set_cons_succ]
    refine FirstH.goS (i := 30) rfl (by rfl) 37 rfl (by kernel_rfl) (fun _ _ _ h => h) inv HS (fun inv => ?_)
    try simp only [Act.put, List.setIfInBounds_toArray, List.set_cons_zero, List.set_cons_succ]
    refine FirstH.goS (i := 31) rfl (by rfl) 38 rfl (by kernel_rfl) (fun _ _ _ h => h) inv HS (fun inv => ?_)
    try simp only [Act.put, List.setIfInBounds_toArray, List.set_cons_zero, List.set_cons_succ]
    refine FirstH.goS (i := 32) rfl (by rfl) 39 rfl (by kernel_rfl) (fun _ _ _ h => h) inv HS (fun inv => ?_)
    try simp only [Act.put, List.setIfInBounds_toArray, List.set_cons_zero, List.set_cons_succ]
    refine FirstH.goS (i := 33) rfl (by rfl) 40 rfl (by kernel_rfl) (fun _ _ _ h => h) inv HS (fun inv => ?_)
    try simp only [Act.put, List.setIfInBounds_toArray, List.set_cons_zero, List.set_cons_succ]
    refine ⟨by kernel_rfl, ?_⟩
    simp only [List.drop_succ_cons, List.drop_zero]
    have BZ := Lib.hid HS
    clear inv HS
    go_wp2_with fail
    go_ret
    exact ⟨by first | rfl | (rw [hr]; rfl), BZ.out⟩
  by_cases hf : f1 = f2
  rotate_left
  · have hr : bq = false := by rw [← HB.out]; unfold sameD; rw [HF1.out, HF2.out]; simp [hf]
    have hni : (n1 : Int) = (n2 : Int) := by omega
    have hfi : ¬ (f1 : Int) = (f2 : Int) := by omega
    refine FirstH.go (i := 0) (v := .pointer (some ⟨r, 0, none⟩)) rfl rfl 7 rfl (Op.move (Operand.tmp 0)) rfl (by kernel_rfl) (fun _ _ _ h => h) inv (fun W hS => by unfold bareO; go_simp) HS (fun inv => ?_)
    try simp only [Act.put, List.setIfInBounds_toArray, List.set_cons_zero, List.set_cons_succ]
    refine FirstH.go (i := 1) (v := .pointer (some ⟨r, 0, none⟩)) rfl rfl 8 rfl (Op.nilCheck (Operand.tmp 7)) rfl (by kernel_rfl) (fun _ _ _ h => h) inv (fun W hS => by unfold bareO; go_simp) HS (fun inv => ?_)
    try simp only [Act.put, List.setIfInBounds_toArray, List.set_cons_zero, List.set_cons_succ]
    refine FirstH.go (i := 2) (v := .pointer (some ⟨r, 0, none⟩)) rfl rfl 9 rfl (Op.fieldAddr 71 (Operand.tmp 8) 0) rfl (by kernel_rfl) (fun _ _ _ h => h) inv (fun W hS => by unfold bareO; go_simp) HS (fun inv => ?_)
    try simp only [Act.put, List.setIfInBounds_toArray, List.set_cons_zero, List.set_cons_succ]
    refine FirstH.go (i := 3) (v := .int .i64 t.win) rfl rfl 10 rfl (Op.load 3 (Operand.tmp 9)) rfl (by kernel_rfl) (fun _ _ _ h => h) inv (fun W hS => by have hb0 := (hS.block _ (bltA RB.out)).trans RB.out; have c0 := cell_of hb0 0 (.int .i64 t.win) rfl; unfold bareO; go_simp) HS (fun inv => ?_)
    try simp only [Act.put, List.setIfInBounds_toArray, List.set_cons_zero, List.set_cons_succ]
    refine FirstH.go (i := 4) (v := .pointer (some ⟨s, 0, none⟩)) rfl rfl 11 rfl (Op.move (Operand.tmp 1)) rfl (by kernel_rfl) (fun _ _ _ h => h) inv (fun W hS => by unfold bareO; go_simp) HS (fun inv => ?_)
    try simp only [Act.put, List.setIfInBounds_toArray, List.set_cons_zero, List.set_cons_succ]
    refine FirstH.go (i := 5) (v := .pointer (some ⟨s, 0, none⟩)) rfl rfl 12 rfl (Op.nilCheck (Operand.tmp 11)) rfl (by kernel_rfl) (fun _ _ _ h => h) inv (fun W hS => by unfold bareO; go_simp) HS (fun inv => ?_)
    try simp only [Act.put, List.setIfInBounds_toArray, List.set_cons_zero, List.set_cons_succ]
    refine FirstH.go (i := 6) (v := .pointer (some ⟨s, 0, none⟩)) rfl rfl 13 rfl (Op.fieldAddr 71 (Operand.tmp 12) 0) rfl (by kernel_rfl) (fun _ _ _ h => h) inv (fun W hS => by unfold bareO; go_simp) HS (fun inv => ?_)
    try simp only [Act.put, List.setIfInBounds_toArray, List.set_cons_zero, List.set_cons_succ]
    refine FirstH.go (i := 7) (v := .int .i64 u.win) rfl rfl 14 rfl (Op.load 3 (Operand.tmp 13)) rfl (by kernel_rfl) (fun _ _ _ h => h) inv (fun W hS => by have hb0 := (hS.block _ (bltA RC.out)).trans RC.out; have c0 := cell_of hb0 0 (.int .i64 u.win) rfl; unfold bareO; go_simp) HS (fun inv => ?_)
    try simp only [Act.put, List.setIfInBounds_toArray, List.set_cons_zero, List.set_cons_succ]
    refine FirstH.go (i := 8) (v := .bool false) rfl rfl 15 rfl (Op.binOp BinOp.neq 3 (Operand.tmp 10) (Operand.tmp 14) 3) rfl (by kernel_rfl) (fun _ _ _ h => h) inv (fun W hS => by unfold bareO; go_simp) HS (fun inv => ?_)
    try simp only [Act.put, List.setIfInBounds_toArray, List.set_cons_zero, List.set_cons_succ]
    refine FirstH.go (i := 9) (v := .bool false) rfl rfl 16 rfl (Op.move (Operand.tmp 15)) rfl (by kernel_rfl) (fun _ _ _ h => h) inv (fun W hS => by unfold bareO; go_simp) HS (fun inv => ?_)
    try simp only [Act.put, List.setIfInBounds_toArray, List.set_cons_zero, List.set_cons_succ]
    refine FirstH.goG (i := 10) (v := .pointer (some ⟨r, 0, none⟩)) rfl (by rfl) 17 rfl (Op.move (Operand.tmp 0)) rfl (by kernel_rfl) (fun _ _ _ h => h) inv (fun W hS => by unfold bareO; go_simp) HS (fun inv => ?_)
    try simp only [Act.put, List.setIfInBounds_toArray, List.set_cons_zero, List.set_cons_succ]
    refine FirstH.goG (i := 11) (v := .pointer (some ⟨r, 0, none⟩)) rfl (by rfl) 18 rfl (Op.nilCheck (Operand.tmp 17)) rfl (by kernel_rfl) (fun _ _ _ h => h) inv (fun W hS => by unfold bareO; go_simp) HS (fun inv => ?_)
    try simp only [Act.put, List.setIfInBounds_toArray, List.set_cons_zero, List.set_cons_succ]
    refine FirstH.goG (i := 12) (v := .pointer (some ⟨r, 1, none⟩)) rfl (by rfl) 19 rfl (Op.fieldAddr 71 (Operand.tmp 18) 1) rfl (by kernel_rfl) (fun _ _ _ h => h) inv (fun W hS => by unfold bareO; go_simp) HS (fun inv => ?_)
    try simp only [Act.put, List.setIfInBounds_toArray, List.set_cons_zero, List.set_cons_succ]
    refine FirstH.goG (i := 13) (v := .slice A1 n1 c1) rfl (by rfl) 20 rfl (Op.load 68 (Operand.tmp 19)) rfl (by kernel_rfl) (fun _ _ _ h => h) inv (fun W hS => by have hb0 := (hS.block _ (bltA RB.out)).trans RB.out; have c0 := cell_of hb0 1 (.slice A1 n1 c1) rfl; unfold bareO; go_simp) HS (fun inv => ?_)
    try simp only [Act.put, List.setIfInBounds_toArray, List.set_cons_zero, List.set_cons_succ]
    refine FirstH.goG (i := 14) (v := .int .i64 n1) rfl (by rfl) 21 rfl (Op.call { callee := Callee.builtin Builtin.len, args := #[Operand.tmp 20], argTypes := #[68] }) rfl (by kernel_rfl) (fun _ _ _ h => h) inv (fun W hS => by unfold bareO; go_simp) HS (fun inv => ?_)
    try simp only [Act.put, List.setIfInBounds_toArray, List.set_cons_zero, List.set_cons_succ]
    refine FirstH.goG (i := 15) (v := .pointer (some ⟨s, 0, none⟩)) rfl (by rfl) 22 rfl (Op.move (Operand.tmp 1)) rfl (by kernel_rfl) (fun _ _ _ h => h) inv (fun W hS => by unfold bareO; go_simp) HS (fun inv => ?_)
    try simp only [Act.put, List.setIfInBounds_toArray, List.set_cons_zero, List.set_cons_succ]
    refine FirstH.goG (i := 16) (v := .pointer (some ⟨s, 0, none⟩)) rfl (by rfl) 23 rfl (Op.nilCheck (Operand.tmp 22)) rfl (by kernel_rfl) (fun _ _ _ h => h) inv (fun W hS => by unfold bareO; go_simp) HS (fun inv => ?_)
    try simp only [Act.put, List.setIfInBounds_toArray, List.set_cons_zero, List.set_cons_succ]
    refine FirstH.goG (i := 17) (v := .pointer (some ⟨s, 1, none⟩)) rfl (by rfl) 24 rfl (Op.fieldAddr 71 (Operand.tmp 23) 1) rfl (by kernel_rfl) (fun _ _ _ h => h) inv (fun W hS => by unfold bareO; go_simp) HS (fun inv => ?_)
    try simp only [Act.put, List.setIfInBounds_toArray, List.set_cons_zero, List.set_cons_succ]
    refine FirstH.goG (i := 18) (v := .slice A2 n2 c2) rfl (by rfl) 25 rfl (Op.load 68 (Operand.tmp 24)) rfl (by kernel_rfl) (fun _ _ _ h => h) inv (fun W hS => by have hb0 := (hS.block _ (bltA RC.out)).trans RC.out; have c0 := cell_of hb0 1 (.slice A2 n2 c2) rfl; unfold bareO; go_simp) HS (fun inv => ?_)
    try simp only [Act.put, List.setIfInBounds_toArray, List.set_cons_zero, List.set_cons_succ]
    refine FirstH.goG (i := 19) (v := .int .i64 n2) rfl (by rfl) 26 rfl (Op.call { callee := Callee.builtin Builtin.len, args := #[Operand.tmp 25], argTypes := #[68] }) rfl (by kernel_rfl) (fun _ _ _ h => h) inv (fun W hS => by unfold bareO; go_simp) HS (fun inv => ?_)
    try simp only [Act.put, List.setIfInBounds_toArray, List.set_cons_zero, List.set_cons_succ]
    refine FirstH.goG (i := 20) (v := .bool false) rfl (by rfl) 27 rfl (Op.binOp BinOp.neq 3 (Operand.tmp 21) (Operand.tmp 26) 3) rfl (by kernel_rfl) (fun _ _ _ h => h) inv (fun W hS => by unfold bareO; go_simp) HS (fun inv => ?_)
    try simp only [Act.put, List.setIfInBounds_toArray, List.set_cons_zero, List.set_cons_succ]
    refine FirstH.go (i := 21) (v := .bool false) rfl rfl 28 rfl (Op.pick (Operand.tmp 16) (Operand.const (Value.bool true)) (Operand.tmp 27)) rfl (by kernel_rfl) (fun _ _ _ h => h) inv (fun W hS => by unfold bareO; go_simp) HS (fun inv => ?_)
    try simp only [Act.put, List.setIfInBounds_toArray, List.set_cons_zero, List.set_cons_succ]
    refine FirstH.go (i := 22) (v := .bool false) rfl rfl 29 rfl (Op.move (Operand.tmp 28)) rfl (by kernel_rfl) (fun _ _ _ h => h) inv (fun W hS => by unfold bareO; go_simp) HS (fun inv => ?_)
    try simp only [Act.put, List.setIfInBounds_toArray, List.set_cons_zero, List.set_cons_succ]
    refine FirstH.goG (i := 23) (v := .pointer (some ⟨r, 0, none⟩)) rfl (by rfl) 30 rfl (Op.move (Operand.tmp 0)) rfl (by kernel_rfl) (fun _ _ _ h => h) inv (fun W hS => by unfold bareO; go_simp) HS (fun inv => ?_)
    try simp only [Act.put, List.setIfInBounds_toArray, List.set_cons_zero, List.set_cons_succ]
    refine FirstH.goG (i := 24) (v := .pointer (some ⟨r, 0, none⟩)) rfl (by rfl) 31 rfl (Op.nilCheck (Operand.tmp 30)) rfl (by kernel_rfl) (fun _ _ _ h => h) inv (fun W hS => by unfold bareO; go_simp) HS (fun inv => ?_)
    try simp only [Act.put, List.setIfInBounds_toArray, List.set_cons_zero, List.set_cons_succ]
    refine FirstH.goG (i := 25) (v := .pointer (some ⟨r, 2, none⟩)) rfl (by rfl) 32 rfl (Op.fieldAddr 71 (Operand.tmp 31) 2) rfl (by kernel_rfl) (fun _ _ _ h => h) inv (fun W hS => by unfold bareO; go_simp) HS (fun inv => ?_)
    try simp only [Act.put, List.setIfInBounds_toArray, List.set_cons_zero, List.set_cons_succ]
    refine FirstH.goG (i := 26) (v := .slice A3 f1 c3) rfl (by rfl) 33 rfl (Op.load 69 (Operand.tmp 32)) rfl (by kernel_rfl) (fun _ _ _ h => h) inv (fun W hS => by have hb0 := (hS.block _ (bltA RB.out)).trans RB.out; have c0 := cell_of hb0 2 (.slice A3 f1 c3) rfl; unfold bareO; go_simp) HS (fun inv => ?_)
    try simp only [Act.put, List.setIfInBounds_toArray, List.set_cons_zero, List.set_cons_succ]
    refine FirstH.goG (i := 27) (v := .int .i64 f1) rfl (by rfl) 34 rfl (Op.call { callee := Callee.builtin Builtin.len, args := #[Operand.tmp 33], argTypes := #[69] }) rfl (by kernel_rfl) (fun _ _ _ h => h) inv (fun W hS => by unfold bareO; go_simp) HS (fun inv => ?_)
    try simp only [Act.put, List.setIfInBounds_toArray, List.set_cons_zero, List.set_cons_succ]
    refine FirstH.goG (i := 28) (v := .pointer (some ⟨s, 0, none⟩)) rfl (by rfl) 35 rfl (Op.move (Operand.tmp 1)) rfl (by kernel_rfl) (fun _ _ _ h => h) inv (fun W hS => by unfold bareO; go_simp) HS (fun inv => ?_)
    try simp only [Act.put, List.setIfInBounds_toArray, List.set_cons_zero, List.set_cons_succ]
    refine FirstH.goG (i := 29) (v := .pointer (some ⟨s, 0, none⟩)) rfl (by rfl) 36 rfl (Op.nilCheck (Operand.tmp 35)) rfl (by kernel_rfl) (fun _ _ _ h => h) inv (fun W hS => by unfold bareO; go_simp) HS (fun inv => ?_)
    try simp only [Act.put, List.setIfInBounds_toArray, List.set_cons_zero, List.set_cons_succ]
    refine FirstH.goG (i := 30) (v := .pointer (some ⟨s, 2, none⟩)) rfl (by rfl) 37 rfl (Op.fieldAddr 71 (Operand.tmp 36) 2) rfl (by kernel_rfl) (fun _ _ _ h => h) inv (fun W hS => by unfold bareO; go_simp) HS (fun inv => ?_)
    try simp only [Act.put, List.setIfInBounds_toArray, List.set_cons_zero, List.set_cons_succ]
    refine FirstH.goG (i := 31) (v := .slice A4 f2 c4) rfl (by rfl) 38 rfl (Op.load 69 (Operand.tmp 37)) rfl (by kernel_rfl) (fun _ _ _ h => h) inv (fun W hS => by have hb0 := (hS.block _ (bltA RC.out)).trans RC.out; have c0 := cell_of hb0 2 (.slice A4 f2 c4) rfl; unfold bareO; go_simp) HS (fun inv => ?_)
    try simp only [Act.put, List.setIfInBounds_toArray, List.set_cons_zero, List.set_cons_succ]
    refine FirstH.goG (i := 32) (v := .int .i64 f2) rfl (by rfl) 39 rfl (Op.call { callee := Callee.builtin Builtin.len, args := #[Operand.tmp 38], argTypes := #[69] }) rfl (by kernel_rfl) (fun _ _ _ h => h) inv (fun W hS => by unfold bareO; go_simp) HS (fun inv => ?_)
    try simp only [Act.put, List.setIfInBounds_toArray, List.set_cons_zero, List.set_cons_succ]
    refine FirstH.goG (i := 33) (v := .bool true) rfl (by rfl) 40 rfl (Op.binOp BinOp.neq 3 (Operand.tmp 34) (Operand.tmp 39) 3) rfl (by kernel_rfl) (fun _ _ _ h => h) inv (fun W hS => by unfold bareO; go_simp) HS (fun inv => ?_)
    try simp only [Act.put, List.setIfInBounds_toArray, List.set_cons_zero, List.set_cons_succ]
    refine ⟨by kernel_rfl, ?_⟩
    simp only [List.drop_succ_cons, List.drop_zero]
    have BZ := Lib.hid HS
    clear inv HS
    go_wp2_with fail
    go_ret
    exact ⟨by first | rfl | (rw [hr]; rfl), BZ.out⟩
  · have hni : (n1 : Int) = (n2 : Int) := by omega
    have hfi : (f1 : Int) = (f2 : Int) := by omega
    have HD : Hid (bq = ((t.L.zip u.L).all (fun p => eqRw p.1 p.2) && t.F.all fun x => decide (floorF u.F x.n x.l = x.f))) := Lib.hid (by
      rw [← HB.out]
      unfold sameD
      rw [HN1.out, HN2.out, HF1.out, HF2.out]
      simp [hw, hn, hf])
    refine FirstH.go (i := 0) (v := .pointer (some ⟨r, 0, none⟩)) rfl rfl 7 rfl (Op.move (Operand.tmp 0)) rfl (by kernel_rfl) (fun _ _ _ h => h) inv (fun W hS => by unfold bareO; go_simp) HS (fun inv => ?_)
    try simp only [Act.put, List.setIfInBounds_toArray, List.set_cons_zero, List.set_cons_succ]
    refine FirstH.go (i := 1) (v := .pointer (some ⟨r, 0, none⟩)) rfl rfl 8 rfl (Op.nilCheck (Operand.tmp 7)) rfl (by kernel_rfl) (fun _ _ _ h => h) inv (fun W hS => by unfold bareO; go_simp) HS (fun inv => ?_)
    try simp only [Act.put, List.setIfInBounds_toArray, List.set_cons_zero, List.set_cons_succ]
    refine FirstH.go (i := 2) (v := .pointer (some ⟨r, 0, none⟩)) rfl rfl 9 rfl (Op.fieldAddr 71 (Operand.tmp 8) 0) rfl (by kernel_rfl) (fun _ _ _ h => h) inv (fun W hS => by unfold bareO; go_simp) HS (fun inv => ?_)
    try simp only [Act.put, List.setIfInBounds_toArray, List.set_cons_zero, List.set_cons_succ]
    refine FirstH.go (i := 3) (v := .int .i64 t.win) rfl rfl 10 rfl (Op.load 3 (Operand.tmp 9)) rfl (by kernel_rfl) (fun _ _ _ h => h) inv (fun W hS => by have hb0 := (hS.block _ (bltA RB.out)).trans RB.out; have c0 := cell_of hb0 0 (.int .i64 t.win) rfl; unfold bareO; go_simp) HS (fun inv => ?_)
    try simp only [Act.put, List.setIfInBounds_toArray, List.set_cons_zero, List.set_cons_succ]
    refine FirstH.go (i := 4) (v := .pointer (some ⟨s, 0, none⟩)) rfl rfl 11 rfl (Op.move (Operand.tmp 1)) rfl (by kernel_rfl) (fun _ _ _ h => h) inv (fun W hS => by unfold bareO; go_simp) HS (fun inv => ?_)
    try simp only [Act.put, List.setIfInBounds_toArray, List.set_cons_zero, List.set_cons_succ]
    refine FirstH.go (i := 5) (v := .pointer (some ⟨s, 0, none⟩)) rfl rfl 12 rfl (Op.nilCheck (Operand.tmp 11)) rfl (by kernel_rfl) (fun _ _ _ h => h) inv (fun W hS => by unfold bareO; go_simp) HS (fun inv => ?_)
    try simp only [Act.put, List.setIfInBounds_toArray, List.set_cons_zero, List.set_cons_succ]
    refine FirstH.go (i := 6) (v := .pointer (some ⟨s, 0, none⟩)) rfl rfl 13 rfl (Op.fieldAddr 71 (Operand.tmp 12) 0) rfl (by kernel_rfl) (fun _ _ _ h => h) inv (fun W hS => by unfold bareO; go_simp) HS (fun inv => ?_)
    try simp only [Act.put, List.setIfInBounds_toArray, List.set_cons_zero, List.set_cons_succ]
    refine FirstH.go (i := 7) (v := .int .i64 u.win) rfl rfl 14 rfl (Op.load 3 (Operand.tmp 13)) rfl (by kernel_rfl) (fun _ _ _ h => h) inv (fun W hS => by have hb0 := (hS.block _ (bltA RC.out)).trans RC.out; have c0 := cell_of hb0 0 (.int .i64 u.win) rfl; unfold bareO; go_simp) HS (fun inv => ?_)
    try simp only [Act.put, List.setIfInBounds_toArray, List.set_cons_zero, List.set_cons_succ]
    refine FirstH.go (i := 8) (v := .bool false) rfl rfl 15 rfl (Op.binOp BinOp.neq 3 (Operand.tmp 10) (Operand.tmp 14) 3) rfl (by kernel_rfl) (fun _ _ _ h => h) inv (fun W hS => by unfold bareO; go_simp) HS (fun inv => ?_)
    try simp only [Act.put, List.setIfInBounds_toArray, List.set_cons_zero, List.set_cons_succ]
    refine FirstH.go (i := 9) (v := .bool false) rfl rfl 16 rfl (Op.move (Operand.tmp 15)) rfl (by kernel_rfl) (fun _ _ _ h => h) inv (fun W hS => by unfold bareO; go_simp) HS (fun inv => ?_)
    try simp only [Act.put, List.setIfInBounds_toArray, List.set_cons_zero, List.set_cons_succ]
    refine FirstH.goG (i := 10) (v := .pointer (some ⟨r, 0, none⟩)) rfl (by rfl) 17 rfl (Op.move (Operand.tmp 0)) rfl (by kernel_rfl) (fun _ _ _ h => h) inv (fun W hS => by unfold bareO; go_simp) HS (fun inv => ?_)
    try simp only [Act.put, List.setIfInBounds_toArray, List.set_cons_zero, List.set_cons_succ]
    refine FirstH.goG (i := 11) (v := .pointer (some ⟨r, 0, none⟩)) rfl (by rfl) 18 rfl (Op.nilCheck (Operand.tmp 17)) rfl (by kernel_rfl) (fun _ _ _ h => h) inv (fun W hS => by unfold bareO; go_simp) HS (fun inv => ?_)
    try simp only [Act.put, List.setIfInBounds_toArray, List.set_cons_zero, List.set_cons_succ]
    refine FirstH.goG (i := 12) (v := .pointer (some ⟨r, 1, none⟩)) rfl (by rfl) 19 rfl (Op.fieldAddr 71 (Operand.tmp 18) 1) rfl (by kernel_rfl) (fun _ _ _ h => h) inv (fun W hS => by unfold bareO; go_simp) HS (fun inv => ?_)
    try simp only [Act.put, List.setIfInBounds_toArray, List.set_cons_zero, List.set_cons_succ]
    refine FirstH.goG (i := 13) (v := .slice A1 n1 c1) rfl (by rfl) 20 rfl (Op.load 68 (Operand.tmp 19)) rfl (by kernel_rfl) (fun _ _ _ h => h) inv (fun W hS => by have hb0 := (hS.block _ (bltA RB.out)).trans RB.out; have c0 := cell_of hb0 1 (.slice A1 n1 c1) rfl; unfold bareO; go_simp) HS (fun inv => ?_)
    try simp only [Act.put, List.setIfInBounds_toArray, List.set_cons_zero, List.set_cons_succ]
    refine FirstH.goG (i := 14) (v := .int .i64 n1) rfl (by rfl) 21 rfl (Op.call { callee := Callee.builtin Builtin.len, args := #[Operand.tmp 20], argTypes := #[68] }) rfl (by kernel_rfl) (fun _ _ _ h => h) inv (fun W hS => by unfold bareO; go_simp) HS (fun inv => ?_)
    try simp only [Act.put, List.setIfInBounds_toArray, List.set_cons_zero, List.set_cons_succ]
    refine FirstH.goG (i := 15) (v := .pointer (some ⟨s, 0, none⟩)) rfl (by rfl) 22 rfl (Op.move (Operand.tmp 1)) rfl (by kernel_rfl) (fun _ _ _ h => h) inv (fun W hS => by unfold bareO; go_simp) HS (fun inv => ?_)
    try simp only [Act.put, List.setIfInBounds_toArray, List.set_cons_zero, List.set_cons_succ]
    refine FirstH.goG (i := 16) (v := .pointer (some ⟨s, 0, none⟩)) rfl (by rfl) 23 rfl (Op.nilCheck (Operand.tmp 22)) rfl (by kernel_rfl) (fun _ _ _ h => h) inv (fun W hS => by unfold bareO; go_simp) HS (fun inv => ?_)
    try simp only [Act.put, List.setIfInBounds_toArray, List.set_cons_zero, List.set_cons_succ]
    refine FirstH.goG (i := 17) (v := .pointer (some ⟨s, 1, none⟩)) rfl (by rfl) 24 rfl (Op.fieldAddr 71 (Operand.tmp 23) 1) rfl (by kernel_rfl) (fun _ _ _ h => h) inv (fun W hS => by unfold bareO; go_simp) HS (fun inv => ?_)
    try simp only [Act.put, List.setIfInBounds_toArray, List.set_cons_zero, List.set_cons_succ]
    refine FirstH.goG (i := 18) (v := .slice A2 n2 c2) rfl (by rfl) 25 rfl (Op.load 68 (Operand.tmp 24)) rfl (by kernel_rfl) (fun _ _ _ h => h) inv (fun W hS => by have hb0 := (hS.block _ (bltA RC.out)).trans RC.out; have c0 := cell_of hb0 1 (.slice A2 n2 c2) rfl; unfold bareO; go_simp) HS (fun inv => ?_)
    try simp only [Act.put, List.setIfInBounds_toArray, List.set_cons_zero, List.set_cons_succ]
    refine FirstH.goG (i := 19) (v := .int .i64 n2) rfl (by rfl) 26 rfl (Op.call { callee := Callee.builtin Builtin.len, args := #[Operand.tmp 25], argTypes := #[68] }) rfl (by kernel_rfl) (fun _ _ _ h => h) inv (fun W hS => by unfold bareO; go_simp) HS (fun inv => ?_)
    try simp only [Act.put, List.setIfInBounds_toArray, List.set_cons_zero, List.set_cons_succ]
    refine FirstH.goG (i := 20) (v := .bool false) rfl (by rfl) 27 rfl (Op.binOp BinOp.neq 3 (Operand.tmp 21) (Operand.tmp 26) 3) rfl (by kernel_rfl) (fun _ _ _ h => h) inv (fun W hS => by unfold bareO; go_simp) HS (fun inv => ?_)
    try simp only [Act.put, List.setIfInBounds_toArray, List.set_cons_zero, List.set_cons_succ]
    refine FirstH.go (i := 21) (v := .bool false) rfl rfl 28 rfl (Op.pick (Operand.tmp 16) (Operand.const (Value.bool true)) (Operand.tmp 27)) rfl (by kernel_rfl) (fun _ _ _ h => h) inv (fun W hS => by unfold bareO; go_simp) HS (fun inv => ?_)
    try simp only [Act.put, List.setIfInBounds_toArray, List.set_cons_zero, List.set_cons_succ]
    refine FirstH.go (i := 22) (v := .bool false) rfl rfl 29 rfl (Op.move (Operand.tmp 28)) rfl (by kernel_rfl) (fun _ _ _ h => h) inv (fun W hS => by unfold bareO; go_simp) HS (fun inv => ?_)
    try simp only [Act.put, List.setIfInBounds_toArray, List.set_cons_zero, List.set_cons_succ]
    refine FirstH.goG (i := 23) (v := .pointer (some ⟨r, 0, none⟩)) rfl (by rfl) 30 rfl (Op.move (Operand.tmp 0)) rfl (by kernel_rfl) (fun _ _ _ h => h) inv (fun W hS => by unfold bareO; go_simp) HS (fun inv => ?_)
    try simp only [Act.put, List.setIfInBounds_toArray, List.set_cons_zero, List.set_cons_succ]
    refine FirstH.goG (i := 24) (v := .pointer (some ⟨r, 0, none⟩)) rfl (by rfl) 31 rfl (Op.nilCheck (Operand.tmp 30)) rfl (by kernel_rfl) (fun _ _ _ h => h) inv (fun W hS => by unfold bareO; go_simp) HS (fun inv => ?_)
    try simp only [Act.put, List.setIfInBounds_toArray, List.set_cons_zero, List.set_cons_succ]
    refine FirstH.goG (i := 25) (v := .pointer (some ⟨r, 2, none⟩)) rfl (by rfl) 32 rfl (Op.fieldAddr 71 (Operand.tmp 31) 2) rfl (by kernel_rfl) (fun _ _ _ h => h) inv (fun W hS => by unfold bareO; go_simp) HS (fun inv => ?_)
    try simp only [Act.put, List.setIfInBounds_toArray, List.set_cons_zero, List.set_cons_succ]
    refine FirstH.goG (i := 26) (v := .slice A3 f1 c3) rfl (by rfl) 33 rfl (Op.load 69 (Operand.tmp 32)) rfl (by kernel_rfl) (fun _ _ _ h => h) inv (fun W hS => by have hb0 := (hS.block _ (bltA RB.out)).trans RB.out; have c0 := cell_of hb0 2 (.slice A3 f1 c3) rfl; unfold bareO; go_simp) HS (fun inv => ?_)
    try simp only [Act.put, List.setIfInBounds_toArray, List.set_cons_zero, List.set_cons_succ]
    refine FirstH.goG (i := 27) (v := .int .i64 f1) rfl (by rfl) 34 rfl (Op.call { callee := Callee.builtin Builtin.len, args := #[Operand.tmp 33], argTypes := #[69] }) rfl (by kernel_rfl) (fun _ _ _ h => h) inv (fun W hS => by unfold bareO; go_simp) HS (fun inv => ?_)
    try simp only [Act.put, List.setIfInBounds_toArray, List.set_cons_zero, List.set_cons_succ]
    refine FirstH.goG (i := 28) (v := .pointer (some ⟨s, 0, none⟩)) rfl (by rfl) 35 rfl (Op.move (Operand.tmp 1)) rfl (by kernel_rfl) (fun _ _ _ h => h) inv (fun W hS => by unfold bareO; go_simp) HS (fun inv => ?_)
    try simp only [Act.put, List.setIfInBounds_toArray, List.set_cons_zero, List.set_cons_succ]
    refine FirstH.goG (i := 29) (v := .pointer (some ⟨s, 0, none⟩)) rfl (by rfl) 36 rfl (Op.nilCheck (Operand.tmp 35)) rfl (by kernel_rfl) (fun _ _ _ h => h) inv (fun W hS => by unfold bareO; go_simp) HS (fun inv => ?_)
    try simp only [Act.put, List.setIfInBounds_toArray, List.set_cons_zero, List.set_cons_succ]
    refine FirstH.goG (i := 30) (v := .pointer (some ⟨s, 2, none⟩)) rfl (by rfl) 37 rfl (Op.fieldAddr 71 (Operand.tmp 36) 2) rfl (by kernel_rfl) (fun _ _ _ h => h) inv (fun W hS => by unfold bareO; go_simp) HS (fun inv => ?_)
    try simp only [Act.put, List.setIfInBounds_toArray, List.set_cons_zero, List.set_cons_succ]
    refine FirstH.goG (i := 31) (v := .slice A4 f2 c4) rfl (by rfl) 38 rfl (Op.load 69 (Operand.tmp 37)) rfl (by kernel_rfl) (fun _ _ _ h => h) inv (fun W hS => by have hb0 := (hS.block _ (bltA RC.out)).trans RC.out; have c0 := cell_of hb0 2 (.slice A4 f2 c4) rfl; unfold bareO; go_simp) HS (fun inv => ?_)
    try simp only [Act.put, List.setIfInBounds_toArray, List.set_cons_zero, List.set_cons_succ]
    refine FirstH.goG (i := 32) (v := .int .i64 f2) rfl (by rfl) 39 rfl (Op.call { callee := Callee.builtin Builtin.len, args := #[Operand.tmp 38], argTypes := #[69] }) rfl (by kernel_rfl) (fun _ _ _ h => h) inv (fun W hS => by unfold bareO; go_simp) HS (fun inv => ?_)
    try simp only [Act.put, List.setIfInBounds_toArray, List.set_cons_zero, List.set_cons_succ]
    refine FirstH.goG (i := 33) (v := .bool false) rfl (by rfl) 40 rfl (Op.binOp BinOp.neq 3 (Operand.tmp 34) (Operand.tmp 39) 3) rfl (by kernel_rfl) (fun _ _ _ h => h) inv (fun W hS => by unfold bareO; go_simp) HS (fun inv => ?_)
    try simp only [Act.put, List.setIfInBounds_toArray, List.set_cons_zero, List.set_cons_succ]
    refine ⟨by kernel_rfl, ?_⟩
    simp only [List.drop_succ_cons, List.drop_zero]
    have BZ := Lib.hid HS
    clear inv HS
    have HNN := Lib.hid hn
    have HFF := Lib.hid hf
    clear hni hfi hw hn hf
    have q1 := cell_of (((BZ.out.block _ (bltA RB.out)).trans RB.out)) 1 (.slice A1 n1 c1) rfl
    go_wp2_with fail
    clear q1
    go_loopw [5] (fun iv wr => ∃ j : Nat, j ≤ n1 ∧ iv = .int .i64 j ∧ Hid (Below W.heap.size W wr) ∧ Hid (∀ (k : Nat) (y z : Rw), k < j → t.L[k]? = some y → u.L[k]? = some z → eqRw y z = true)) (fun iv _ => n1 - (intOf iv).toNat)
    case atStart => exact ⟨0, by omega, rfl, BZ, Lib.hid (fun k y z hk => absurd hk (Nat.not_lt_zero k))⟩
    case round =>
      obtain ⟨j, hj, rfl, BX, HE⟩ := hrel
      obtain ⟨u0, hu0⟩ : ∃ z : World, z = wr := ⟨_, rfl⟩
      subst hu0
      have q1 := cell_of (((BX.out.block _ (bltA RB.out)).trans RB.out)) 1 (.slice A1 n1 c1) rfl
      by_cases hjn : j < n1
      · obtain ⟨y, hy⟩ : ∃ y, t.L[j]? = some y := ⟨_, List.getElem?_eq_getElem (by rw [HN1.out]; exact hjn)⟩
        obtain ⟨z, hz⟩ : ∃ z, u.L[j]? = some z := ⟨_, List.getElem?_eq_getElem (by rw [HN2.out]; have := HNN.out; omega)⟩
        obtain ⟨g, o, rfl⟩ : ∃ g o, A1 = some ⟨g, o, none⟩ := by
          rcases HA1.out with ⟨_, h1⟩ | h1
          · omega
          · exact h1
        obtain ⟨h, p, rfl⟩ : ∃ h p, A2 = some ⟨h, p, none⟩ := by
          rcases HA2.out with ⟨_, h1⟩ | h1
          · have := HNN.out; omega
          · exact h1
        have hd1 := HP.out.rows
        have hd2 := HQ.out.rows
        rw [HN1.out] at hd1
        rw [HN2.out] at hd2
        have CA : Hid (∀ X, Below W.heap.size W X → ∀ i v, y.cs[i]? = some v → X.cell? ⟨g, o + j * 13 + i, none⟩ = some v) := Lib.hid fun X hb i v hv => by
          have hi : i < 13 := by
            have := (Array.getElem?_eq_some_iff.1 hv).1
            rw [Rw.sz] at this
            exact this
          rw [RowO.elem Rw.sz (hd1.below hb) hy hi]
          exact hv
        have CB : Hid (∀ X, Below W.heap.size W X → ∀ i v, z.cs[i]? = some v → X.cell? ⟨h, p + j * 13 + i, none⟩ = some v) := Lib.hid fun X hb i v hv => by
          have hi : i < 13 := by
            have := (Array.getElem?_eq_some_iff.1 hv).1
            rw [Rw.sz] at this
            exact this
          rw [RowO.elem Rw.sz (hd2.below hb) hz hi]
          exact hv
        have h1j : (j : Int) < (n1 : Int) := by omega
        have h2j : (j : Int) < (n2 : Int) := by have := HNN.out; omega
        have h3j : (0 : Int) ≤ (j : Int) := by omega
        have HJN := Lib.hid hjn
        have HY := Lib.hid hy
        have HZ := Lib.hid hz
        have HNE := Lib.hid (fun (a : Act) (X : World) (u1 v1 : Operand) (t0 : TypeId) h1 h2 => neOpRwD (a := a) (W := X) y z u1 v1 t0 h1 h2)
        clear hd1 hd2 hjn hj hy hz
        go_wp2_with fail
        refine region_heldT (S := fun X : World => Below W.heap.size W X) 14 (by kernel_rfl) (by decide) (fun inv => ?_)
        have HS : Below W.heap.size W u0.drew := BX.out.drew
        change FirstH _ _ _ _ _ _ _ _ _ _ u0.drew
        generalize u0.drew = we at *
        clear q1
        refine FirstH.go (i := 0) (v := .pointer (some ⟨r, 0, none⟩)) rfl rfl 51 rfl (Op.move (Operand.tmp 0)) rfl (by kernel_rfl) (fun _ _ _ h => h) inv (fun W hS => by unfold bareO; go_simp) HS (fun inv => ?_)
        try simp only [Act.put, List.setIfInBounds_toArray, List.set_cons_zero, List.set_cons_succ]
        refine FirstH.go (i := 1) (v := .pointer (some ⟨r, 0, none⟩)) rfl rfl 52 rfl (Op.nilCheck (Operand.tmp 51)) rfl (by kernel_rfl) (fun _ _ _ h => h) inv (fun W hS => by unfold bareO; go_simp) HS (fun inv => ?_)
        try simp only [Act.put, List.setIfInBounds_toArray, List.set_cons_zero, List.set_cons_succ]
        refine FirstH.go (i := 2) (v := .pointer (some ⟨r, 1, none⟩)) rfl rfl 53 rfl (Op.fieldAddr 71 (Operand.tmp 52) 1) rfl (by kernel_rfl) (fun _ _ _ h => h) inv (fun W hS => by unfold bareO; go_simp) HS (fun inv => ?_)
        try simp only [Act.put, List.setIfInBounds_toArray, List.set_cons_zero, List.set_cons_succ]
        refine FirstH.go (i := 3) (v := .slice (some ⟨g, o, none⟩) n1 c1) rfl rfl 54 rfl (Op.load 68 (Operand.tmp 53)) rfl (by kernel_rfl) (fun _ _ _ h => h) inv (fun W hS => by have hb0 := (hS.block _ (bltA RB.out)).trans RB.out; have c0 := cell_of hb0 1 (.slice (some ⟨g, o, none⟩) n1 c1) rfl; unfold bareO; go_simp) HS (fun inv => ?_)
        try simp only [Act.put, List.setIfInBounds_toArray, List.set_cons_zero, List.set_cons_succ]
        refine FirstH.go (i := 4) (v := .int .i64 j) rfl rfl 55 rfl (Op.move (Operand.tmp 5)) rfl (by kernel_rfl) (fun _ _ _ h => h) inv (fun W hS => by unfold bareO; go_simp) HS (fun inv => ?_)
        try simp only [Act.put, List.setIfInBounds_toArray, List.set_cons_zero, List.set_cons_succ]
        refine FirstH.go (i := 5) (v := .pointer (some ⟨g, (o + j * 13), none⟩)) rfl rfl 56 rfl (Op.indexAddr 68 (Operand.tmp 54) (Operand.tmp 55)) rfl (by kernel_rfl) (fun _ _ _ h => h) inv (fun W hS => by unfold bareO; go_simp) HS (fun inv => ?_)
        try simp only [Act.put, List.setIfInBounds_toArray, List.set_cons_zero, List.set_cons_succ]
        refine FirstH.go (i := 6) (v := .agg #[.int .u8 y.id.n, .int .u16 y.id.l, .int .u32 y.id.s, .int .u8 y.id.d, .int .u8 y.id.a0, .int .u8 y.id.a1, .int .u8 y.id.b0, .int .u8 y.id.b1, .int .u8 y.id.c0, .int .u8 y.id.c1, .bool y.en, .int .u8 y.code, .string y.val]) rfl rfl 57 rfl (Op.load 93 (Operand.tmp 56)) rfl (by kernel_rfl) (fun _ _ _ h => h) inv (fun W hS => by have z0 := CA.out W hS 0 (.int .u8 y.id.n) rfl; have z1 := CA.out W hS 1 (.int .u16 y.id.l) rfl; have z2 := CA.out W hS 2 (.int .u32 y.id.s) rfl; have z3 := CA.out W hS 3 (.int .u8 y.id.d) rfl; have z4 := CA.out W hS 4 (.int .u8 y.id.a0) rfl; have z5 := CA.out W hS 5 (.int .u8 y.id.a1) rfl; have z6 := CA.out W hS 6 (.int .u8 y.id.b0) rfl; have z7 := CA.out W hS 7 (.int .u8 y.id.b1) rfl; have z8 := CA.out W hS 8 (.int .u8 y.id.c0) rfl; have z9 := CA.out W hS 9 (.int .u8 y.id.c1) rfl; have z10 := CA.out W hS 10 (.bool y.en) rfl; have z11 := CA.out W hS 11 (.int .u8 y.code) rfl; have z12 := CA.out W hS 12 (.string y.val) rfl; simp only [Nat.add_zero] at z0; unfold bareO; go_simp) HS (fun inv => ?_)
        try simp only [Act.put, List.setIfInBounds_toArray, List.set_cons_zero, List.set_cons_succ]
        refine FirstH.go (i := 7) (v := .pointer (some ⟨s, 0, none⟩)) rfl rfl 58 rfl (Op.move (Operand.tmp 1)) rfl (by kernel_rfl) (fun _ _ _ h => h) inv (fun W hS => by unfold bareO; go_simp) HS (fun inv => ?_)
        try simp only [Act.put, List.setIfInBounds_toArray, List.set_cons_zero, List.set_cons_succ]
        refine FirstH.go (i := 8) (v := .pointer (some ⟨s, 0, none⟩)) rfl rfl 59 rfl (Op.nilCheck (Operand.tmp 58)) rfl (by kernel_rfl) (fun _ _ _ h => h) inv (fun W hS => by unfold bareO; go_simp) HS (fun inv => ?_)
        try simp only [Act.put, List.setIfInBounds_toArray, List.set_cons_zero, List.set_cons_succ]
        refine FirstH.go (i := 9) (v := .pointer (some ⟨s, 1, none⟩)) rfl rfl 60 rfl (Op.fieldAddr 71 (Operand.tmp 59) 1) rfl (by kernel_rfl) (fun _ _ _ h => h) inv (fun W hS => by unfold bareO; go_simp) HS (fun inv => ?_)
        try simp only [Act.put, List.setIfInBounds_toArray, List.set_cons_zero, List.set_cons_succ]
        refine FirstH.go (i := 10) (v := .slice (some ⟨h, p, none⟩) n2 c2) rfl rfl 61 rfl (Op.load 68 (Operand.tmp 60)) rfl (by kernel_rfl) (fun _ _ _ h => h) inv (fun W hS => by have hb0 := (hS.block _ (bltA RC.out)).trans RC.out; have c0 := cell_of hb0 1 (.slice (some ⟨h, p, none⟩) n2 c2) rfl; unfold bareO; go_simp) HS (fun inv => ?_)
        try simp only [Act.put, List.setIfInBounds_toArray, List.set_cons_zero, List.set_cons_succ]
        refine FirstH.go (i := 11) (v := .int .i64 j) rfl rfl 62 rfl (Op.move (Operand.tmp 5)) rfl (by kernel_rfl) (fun _ _ _ h => h) inv (fun W hS => by unfold bareO; go_simp) HS (fun inv => ?_)
        try simp only [Act.put, List.setIfInBounds_toArray, List.set_cons_zero, List.set_cons_succ]
        refine FirstH.go (i := 12) (v := .pointer (some ⟨h, (p + j * 13), none⟩)) rfl rfl 63 rfl (Op.indexAddr 68 (Operand.tmp 61) (Operand.tmp 62)) rfl (by kernel_rfl) (fun _ _ _ h => h) inv (fun W hS => by unfold bareO; go_simp) HS (fun inv => ?_)
        try simp only [Act.put, List.setIfInBounds_toArray, List.set_cons_zero, List.set_cons_succ]
        refine FirstH.go (i := 13) (v := .agg #[.int .u8 z.id.n, .int .u16 z.id.l, .int .u32 z.id.s, .int .u8 z.id.d, .int .u8 z.id.a0, .int .u8 z.id.a1, .int .u8 z.id.b0, .int .u8 z.id.b1, .int .u8 z.id.c0, .int .u8 z.id.c1, .bool z.en, .int .u8 z.code, .string z.val]) rfl rfl 64 rfl (Op.load 93 (Operand.tmp 63)) rfl (by kernel_rfl) (fun _ _ _ h => h) inv (fun W hS => by have z0 := CB.out W hS 0 (.int .u8 z.id.n) rfl; have z1 := CB.out W hS 1 (.int .u16 z.id.l) rfl; have z2 := CB.out W hS 2 (.int .u32 z.id.s) rfl; have z3 := CB.out W hS 3 (.int .u8 z.id.d) rfl; have z4 := CB.out W hS 4 (.int .u8 z.id.a0) rfl; have z5 := CB.out W hS 5 (.int .u8 z.id.a1) rfl; have z6 := CB.out W hS 6 (.int .u8 z.id.b0) rfl; have z7 := CB.out W hS 7 (.int .u8 z.id.b1) rfl; have z8 := CB.out W hS 8 (.int .u8 z.id.c0) rfl; have z9 := CB.out W hS 9 (.int .u8 z.id.c1) rfl; have z10 := CB.out W hS 10 (.bool z.en) rfl; have z11 := CB.out W hS 11 (.int .u8 z.code) rfl; have z12 := CB.out W hS 12 (.string z.val) rfl; simp only [Nat.add_zero] at z0; unfold bareO; go_simp) HS (fun inv => ?_)
        try simp only [Act.put, List.setIfInBounds_toArray, List.set_cons_zero, List.set_cons_succ]
        refine ⟨by kernel_rfl, ?_⟩
        simp only [List.drop_succ_cons, List.drop_zero]
        have BY := Lib.hid HS
        clear inv HS
        cases heq : eqRw y z with
        | false =>
          have hr : bq = false := by rw [HD.out, zip_false HY.out HZ.out heq]; rfl
          rw [heq] at HNE
          go_wp2_with (first | (refine wpList_val rfl 65 rfl _ rfl (v := .bool true) (w' := we) (HNE.out _ _ _ _ _ rfl rfl) ?_) | fail)
          go_ret
          exact ⟨by first | rfl | (rw [hr]; rfl), BY.out⟩
        | true =>
          rw [heq] at HNE
          go_wp2_with (first | (refine wpList_val rfl 65 rfl _ rfl (v := .bool false) (w' := we) (HNE.out _ _ _ _ _ rfl rfl) ?_) | fail)
          go_roundw
          case rel =>
            refine ⟨j + 1, by have := HJN.out; omega, by go_num, BY, Lib.hid fun k y' z' hk hy' hz' => ?_⟩
            by_cases e : k < j
            · exact HE.out k y' z' e hy' hz'
            · obtain rfl : k = j := by omega
              rw [HY.out] at hy'
              rw [HZ.out] at hz'
              cases hy'
              cases hz'
              exact heq
          case measure => have := HJN.out; simp [intOf]; omega
      · have hjn' : ¬ (j : Int) < (n1 : Int) := by omega
        have HZT : Hid ((t.L.zip u.L).all (fun p => eqRw p.1 p.2) = true) := Lib.hid (zip_true fun k y z hy hz => HE.out k y z (by have := (List.getElem?_eq_some_iff.1 hy).1; have := HN1.out; omega) hy hz)
        have q2 := cell_of (((BX.out.block _ (bltA RB.out)).trans RB.out)) 2 (.slice A3 f1 c3) rfl
        go_wp2_with fail
        clear q1 q2
        go_loopw [6] (fun iv wr => ∃ j : Nat, j ≤ f1 ∧ iv = .int .i64 j ∧ Hid (Below W.heap.size W wr) ∧ Hid (∀ (k : Nat) (y : Fw), k < j → t.F[k]? = some y → floorF u.F y.n y.l = y.f)) (fun iv _ => f1 - (intOf iv).toNat)
        case atStart => exact ⟨0, by omega, rfl, BX, Lib.hid (fun k y hk => absurd hk (Nat.not_lt_zero k))⟩
        case round =>
          obtain ⟨j, hj, rfl, BX, HE2⟩ := hrel
          obtain ⟨u0, hu0⟩ : ∃ z : World, z = wr := ⟨_, rfl⟩
          subst hu0
          have q2 := cell_of (((BX.out.block _ (bltA RB.out)).trans RB.out)) 2 (.slice A3 f1 c3) rfl
          by_cases hjn : j < f1
          · obtain ⟨y, hy⟩ : ∃ y, t.F[j]? = some y := ⟨_, List.getElem?_eq_getElem (by rw [HF1.out]; exact hjn)⟩
            obtain ⟨q, e, rfl⟩ : ∃ q e, A3 = some ⟨q, e, none⟩ := by
              rcases HA3.out with ⟨_, h1⟩ | h1
              · omega
              · exact h1
            have hd1 := HP.out.flo
            rw [HF1.out] at hd1
            have RY := Lib.hid (HP.out.frng y (List.mem_of_getElem? hy))
            have CA : Hid (∀ X, Below W.heap.size W X → ∀ i v, y.cs[i]? = some v → X.cell? ⟨q, e + j * 3 + i, none⟩ = some v) := Lib.hid fun X hb i v hv => by
              have hi : i < 3 := by
                have := (Array.getElem?_eq_some_iff.1 hv).1
                rw [Fw.sz] at this
                exact this
              rw [RowO.elem Fw.sz (hd1.below hb) hy hi]
              exact hv
            have h1j : (j : Int) < (f1 : Int) := by omega
            have h3j : (0 : Int) ≤ (j : Int) := by omega
            have HJN := Lib.hid hjn
            have HY := Lib.hid hy
            clear hd1 hjn hj hy
            go_wp2_with fail
            refine region_heldT (S := fun X : World => Below W.heap.size W X) 18 (by kernel_rfl) (by decide) (fun inv => ?_)
            have HS : Below W.heap.size W u0.drew := BX.out.drew
            change FirstH _ _ _ _ _ _ _ _ _ _ u0.drew
            generalize u0.drew = wd at *
            clear q2
            refine FirstH.go (i := 0) (v := .pointer (some ⟨s, 0, none⟩)) rfl rfl 75 rfl (Op.move (Operand.tmp 1)) rfl (by kernel_rfl) (fun _ _ _ h => h) inv (fun W hS => by unfold bareO; go_simp) HS (fun inv => ?_)
            try simp only [Act.put, List.setIfInBounds_toArray, List.set_cons_zero, List.set_cons_succ]
            refine FirstH.go (i := 1) (v := .pointer (some ⟨r, 0, none⟩)) rfl rfl 76 rfl (Op.move (Operand.tmp 0)) rfl (by kernel_rfl) (fun _ _ _ h => h) inv (fun W hS => by unfold bareO; go_simp) HS (fun inv => ?_)
            try simp only [Act.put, List.setIfInBounds_toArray, List.set_cons_zero, List.set_cons_succ]
            refine FirstH.go (i := 2) (v := .pointer (some ⟨r, 0, none⟩)) rfl rfl 77 rfl (Op.nilCheck (Operand.tmp 76)) rfl (by kernel_rfl) (fun _ _ _ h => h) inv (fun W hS => by unfold bareO; go_simp) HS (fun inv => ?_)
            try simp only [Act.put, List.setIfInBounds_toArray, List.set_cons_zero, List.set_cons_succ]
            refine FirstH.go (i := 3) (v := .pointer (some ⟨r, 2, none⟩)) rfl rfl 78 rfl (Op.fieldAddr 71 (Operand.tmp 77) 2) rfl (by kernel_rfl) (fun _ _ _ h => h) inv (fun W hS => by unfold bareO; go_simp) HS (fun inv => ?_)
            try simp only [Act.put, List.setIfInBounds_toArray, List.set_cons_zero, List.set_cons_succ]
            refine FirstH.go (i := 4) (v := .slice (some ⟨q, e, none⟩) f1 c3) rfl rfl 79 rfl (Op.load 69 (Operand.tmp 78)) rfl (by kernel_rfl) (fun _ _ _ h => h) inv (fun W hS => by have hb0 := (hS.block _ (bltA RB.out)).trans RB.out; have c0 := cell_of hb0 2 (.slice (some ⟨q, e, none⟩) f1 c3) rfl; unfold bareO; go_simp) HS (fun inv => ?_)
            try simp only [Act.put, List.setIfInBounds_toArray, List.set_cons_zero, List.set_cons_succ]
            refine FirstH.go (i := 5) (v := .int .i64 j) rfl rfl 80 rfl (Op.move (Operand.tmp 6)) rfl (by kernel_rfl) (fun _ _ _ h => h) inv (fun W hS => by unfold bareO; go_simp) HS (fun inv => ?_)
            try simp only [Act.put, List.setIfInBounds_toArray, List.set_cons_zero, List.set_cons_succ]
            refine FirstH.go (i := 6) (v := .pointer (some ⟨q, (e + j * 3), none⟩)) rfl rfl 81 rfl (Op.indexAddr 69 (Operand.tmp 79) (Operand.tmp 80)) rfl (by kernel_rfl) (fun _ _ _ h => h) inv (fun W hS => by unfold bareO; go_simp) HS (fun inv => ?_)
            try simp only [Act.put, List.setIfInBounds_toArray, List.set_cons_zero, List.set_cons_succ]
            refine FirstH.go (i := 7) (v := .pointer (some ⟨q, (e + j * 3), none⟩)) rfl rfl 82 rfl (Op.fieldAddr 99 (Operand.tmp 81) 0) rfl (by kernel_rfl) (fun _ _ _ h => h) inv (fun W hS => by unfold bareO; go_simp) HS (fun inv => ?_)
            try simp only [Act.put, List.setIfInBounds_toArray, List.set_cons_zero, List.set_cons_succ]
            refine FirstH.go (i := 8) (v := .agg #[.int .u8 y.n, .int .u16 y.l]) rfl rfl 83 rfl (Op.load 39 (Operand.tmp 82)) rfl (by kernel_rfl) (fun _ _ _ h => h) inv (fun W hS => by have z0 := CA.out W hS 0 (.int .u8 y.n) rfl; have z1 := CA.out W hS 1 (.int .u16 y.l) rfl; simp only [Nat.add_zero] at z0; unfold bareO; go_simp) HS (fun inv => ?_)
            try simp only [Act.put, List.setIfInBounds_toArray, List.set_cons_zero, List.set_cons_succ]
            refine FirstH.go (i := 10) (v := .pointer (some ⟨r, 0, none⟩)) rfl rfl 85 rfl (Op.move (Operand.tmp 0)) rfl (by kernel_rfl) (fun _ _ _ h => h) inv (fun W hS => by unfold bareO; go_simp) HS (fun inv => ?_)
            try simp only [Act.put, List.setIfInBounds_toArray, List.set_cons_zero, List.set_cons_succ]
            refine FirstH.go (i := 11) (v := .pointer (some ⟨r, 0, none⟩)) rfl rfl 86 rfl (Op.nilCheck (Operand.tmp 85)) rfl (by kernel_rfl) (fun _ _ _ h => h) inv (fun W hS => by unfold bareO; go_simp) HS (fun inv => ?_)
            try simp only [Act.put, List.setIfInBounds_toArray, List.set_cons_zero, List.set_cons_succ]
            refine FirstH.go (i := 12) (v := .pointer (some ⟨r, 2, none⟩)) rfl rfl 87 rfl (Op.fieldAddr 71 (Operand.tmp 86) 2) rfl (by kernel_rfl) (fun _ _ _ h => h) inv (fun W hS => by unfold bareO; go_simp) HS (fun inv => ?_)
            try simp only [Act.put, List.setIfInBounds_toArray, List.set_cons_zero, List.set_cons_succ]
            refine FirstH.go (i := 13) (v := .slice (some ⟨q, e, none⟩) f1 c3) rfl rfl 88 rfl (Op.load 69 (Operand.tmp 87)) rfl (by kernel_rfl) (fun _ _ _ h => h) inv (fun W hS => by have hb0 := (hS.block _ (bltA RB.out)).trans RB.out; have c0 := cell_of hb0 2 (.slice (some ⟨q, e, none⟩) f1 c3) rfl; unfold bareO; go_simp) HS (fun inv => ?_)
            try simp only [Act.put, List.setIfInBounds_toArray, List.set_cons_zero, List.set_cons_succ]
            refine FirstH.go (i := 14) (v := .int .i64 j) rfl rfl 89 rfl (Op.move (Operand.tmp 6)) rfl (by kernel_rfl) (fun _ _ _ h => h) inv (fun W hS => by unfold bareO; go_simp) HS (fun inv => ?_)
            try simp only [Act.put, List.setIfInBounds_toArray, List.set_cons_zero, List.set_cons_succ]
            refine FirstH.go (i := 15) (v := .pointer (some ⟨q, (e + j * 3), none⟩)) rfl rfl 90 rfl (Op.indexAddr 69 (Operand.tmp 88) (Operand.tmp 89)) rfl (by kernel_rfl) (fun _ _ _ h => h) inv (fun W hS => by unfold bareO; go_simp) HS (fun inv => ?_)
            try simp only [Act.put, List.setIfInBounds_toArray, List.set_cons_zero, List.set_cons_succ]
            refine FirstH.go (i := 16) (v := .pointer (some ⟨q, (e + j * 3 + 2), none⟩)) rfl rfl 91 rfl (Op.fieldAddr 99 (Operand.tmp 90) 1) rfl (by kernel_rfl) (fun _ _ _ h => h) inv (fun W hS => by unfold bareO; go_simp) HS (fun inv => ?_)
            try simp only [Act.put, List.setIfInBounds_toArray, List.set_cons_zero, List.set_cons_succ]
            refine FirstH.go (i := 17) (v := .int .u32 y.f) rfl rfl 92 rfl (Op.load 32 (Operand.tmp 91)) rfl (by kernel_rfl) (fun _ _ _ h => h) inv (fun W hS => by have z2 := CA.out W hS 2 (.int .u32 y.f) rfl; unfold bareO; go_simp) HS (fun inv => ?_)
            try simp only [Act.put, List.setIfInBounds_toArray, List.set_cons_zero, List.set_cons_succ]
            refine FirstH.only (i := 9) (by kernel_rfl) (by decide) inv (fun inv => wpOp_call (i := 9) rfl rfl 84 rfl (Op.call { callee := Callee.value (.func 26), args := #[Operand.tmp 75, Operand.tmp 83], argTypes := #[27, 39] }) rfl 26 #[.pointer (some ⟨s, 0, none⟩), .agg #[.int .u8 y.n, .int .u16 y.l]] (by unfold bareO; go_simp) (floorT wd s u _ _ (HQ.out.below HS) y.n y.l RY.out.n RY.out.l) ?_)
            rintro e1 v1 ⟨rfl, b1⟩
            have HS : Below W.heap.size W v1 := HS.trans (b1.mono HS.size)
            clear b1
            refine ⟨_, rfl, HS, ?_⟩
            try simp only [Act.put, List.setIfInBounds_toArray, List.set_cons_zero, List.set_cons_succ]
            refine ⟨by kernel_rfl, ?_⟩
            simp only [List.drop_succ_cons, List.drop_zero]
            have BY := Lib.hid HS
            clear inv HS
            by_cases heq : floorF u.F y.n y.l = y.f
            · go_wp2_with fail
              go_roundw
              case rel =>
                refine ⟨j + 1, by have := HJN.out; omega, by go_num, BY, Lib.hid fun k y' hk hy' => ?_⟩
                by_cases e : k < j
                · exact HE2.out k y' e hy'
                · obtain rfl : k = j := by omega
                  rw [HY.out] at hy'
                  cases hy'
                  exact heq
              case measure => have := HJN.out; simp [intOf]; omega
            · have hr : bq = false := by rw [HD.out, flo_false (List.mem_of_getElem? HY.out) heq]; simp
              go_wp2_with fail
              go_ret
              exact ⟨by first | rfl | (rw [hr]; rfl), BY.out⟩
          · have hjn2 : ¬ (j : Int) < (f1 : Int) := by omega
            have hr : bq = true := by
              rw [HD.out, HZT.out, flo_true fun k y hy => HE2.out k y (by have := (List.getElem?_eq_some_iff.1 hy).1; have := HF1.out; omega) hy]
              rfl
            go_wp2_with fail
            go_ret
            exact ⟨by first | rfl | (rw [hr]; rfl), BX.out⟩
end

section
set_option linter.unusedSimpArgs false
set_option linter.unusedVariables false
open Go.RowKit Go.Maps Go.Sort

set_option maxRecDepth 100000 in
set_option maxHeartbeats 4000000 in
theorem playD (W : World) (r : Nat) (t : Tt) (lv fv : Value) (h : DT W r t lv fv) (a : Ac) (ha : a.ok) (hL : t.L.length < 1000) (hF : t.F.length < 1000) :
    Calls Try.prog 32 #[.pointer (some ⟨r, 0, none⟩), .agg a.cs.toArray] W fun e W' => e = .returned (.tuple #[]) ∧ ∃ lv' fv' : Value, DT W' r (t.act a).2 lv' fv' ∧ KP (fun q => q = r) W W' := by
  obtain ⟨kd, x, code, val, n⟩ := a
  obtain ⟨_, rx, rc, _, rn⟩ := ha
  dsimp only at rx rc rn
  show Calls Try.prog 32 #[.pointer (some ⟨r, 0, none⟩), .agg #[.int .i64 kd, .int .u8 x.n, .int .u16 x.l, .int .u32 x.s, .int .u8 x.d, .int .u8 x.a0, .int .u8 x.a1, .int .u8 x.b0, .int .u8 x.b1, .int .u8 x.c0, .int .u8 x.c1, .int .u8 code, .string val, .int .u32 n]] W _
  obtain ⟨W1, hW1⟩ : ∃ z, W.alloc (.cells #[.int .i64 kd, .int .u8 x.n, .int .u16 x.l, .int .u32 x.s, .int .u8 x.d, .int .u8 x.a0, .int .u8 x.a1, .int .u8 x.b0, .int .u8 x.b1, .int .u8 x.c0, .int .u8 x.c1, .int .u8 code, .string val, .int .u32 n] 47) = z := ⟨_, rfl⟩
  have b1 : Below W.heap.size W W1 := by rw [← hW1]; exact (Below.refl _ _).alloc (Nat.le_refl _) _
  obtain ⟨kx, hkx⟩ : ∃ z, W.heap.size = z := ⟨_, rfl⟩
  have R1 : W1.heap[kx]? = some (.cells #[.int .i64 kd, .int .u8 x.n, .int .u16 x.l, .int .u32 x.s, .int .u8 x.d, .int .u8 x.a0, .int .u8 x.a1, .int .u8 x.b0, .int .u8 x.b1, .int .u8 x.c0, .int .u8 x.c1, .int .u8 code, .string val, .int .u32 n] 47 (0, 0)) := by rw [← hW1, ← hkx]; exact heap_alloc_new _ _
  have D1 := Lib.hid (h.below b1)
  have K1 : Hid (KP (fun q => q = r) W W1) := Lib.hid (KP.of_below b1)
  have HW1 := Lib.hid hW1
  have HKX := Lib.hid hkx
  have HRX := Lib.hid rx
  have HRC := Lib.hid rc
  have HRN := Lib.hid rn
  have HL := Lib.hid hL
  have HF := Lib.hid hF
  have kd0 := cell_of R1 0 (.int .i64 kd) rfl
  have x0 := cell_of R1 1 (.int .u8 x.n) rfl
  have x1 := cell_of R1 2 (.int .u16 x.l) rfl
  have x2 := cell_of R1 3 (.int .u32 x.s) rfl
  have x3 := cell_of R1 4 (.int .u8 x.d) rfl
  have x4 := cell_of R1 5 (.int .u8 x.a0) rfl
  have x5 := cell_of R1 6 (.int .u8 x.a1) rfl
  have x6 := cell_of R1 7 (.int .u8 x.b0) rfl
  have x7 := cell_of R1 8 (.int .u8 x.b1) rfl
  have x8 := cell_of R1 9 (.int .u8 x.c0) rfl
  have x9 := cell_of R1 10 (.int .u8 x.c1) rfl
  have q11 := cell_of R1 11 (.int .u8 code) rfl
  have q12 := cell_of R1 12 (.string val) rfl
  have q13 := cell_of R1 13 (.int .u32 n) rfl
  clear h b1 hW1 R1 rx rc rn hL hF hkx
  go_enter Try.func32, Try.ntmps32
  by_cases k0 : kd = 0
  · subst k0
    have E1 : Hid ((t.act ⟨0, x, code, val, n⟩).2 = (t.beg x).2) := Lib.hid (by simp [Tt.act])
    go_wp2_with (first | (rw [HW1.out]; try rw [HKX.out]) | fail)
    try rw [HW1.out]
    try rw [HKX.out]
    refine (begD W1 r t lv fv D1.out x HRX.out HL.out).mono ?_
    rintro e w2 ⟨rfl, lv2, d2, k2⟩
    have DZ := Lib.hid d2
    have KZ : Hid (KP (fun q => q = r) W w2) := Lib.hid (K1.out.trans k2 (fun _ _ e => e))
    clear d2 k2
    go_wp2_with fail
    go_end0
    rw [E1.out]
    exact ⟨rfl, _, _, DZ.out, KZ.out⟩
  by_cases k1 : kd = 1
  · subst k1
    have E1 : Hid ((t.act ⟨1, x, code, val, n⟩).2 = (t.beg x).2) := Lib.hid (by simp [Tt.act])
    go_wp2_with (first | (rw [HW1.out]; try rw [HKX.out]) | fail)
    try rw [HW1.out]
    try rw [HKX.out]
    refine (begD W1 r t lv fv D1.out x HRX.out HL.out).mono ?_
    rintro e w2 ⟨rfl, lv2, d2, k2⟩
    have DZ := Lib.hid d2
    have KZ : Hid (KP (fun q => q = r) W w2) := Lib.hid (K1.out.trans k2 (fun _ _ e => e))
    clear d2 k2
    go_wp2_with fail
    go_end0
    rw [E1.out]
    exact ⟨rfl, _, _, DZ.out, KZ.out⟩
  by_cases k2 : kd = 2
  · subst k2
    have E1 : Hid ((t.act ⟨2, x, code, val, n⟩).2 = (t.beg x).2) := Lib.hid (by simp [Tt.act])
    go_wp2_with (first | (rw [HW1.out]; try rw [HKX.out]) | fail)
    try rw [HW1.out]
    try rw [HKX.out]
    refine (begD W1 r t lv fv D1.out x HRX.out HL.out).mono ?_
    rintro e w2 ⟨rfl, lv2, d2, k2⟩
    have DZ := Lib.hid d2
    have KZ : Hid (KP (fun q => q = r) W w2) := Lib.hid (K1.out.trans k2 (fun _ _ e => e))
    clear d2 k2
    go_wp2_with fail
    go_end0
    rw [E1.out]
    exact ⟨rfl, _, _, DZ.out, KZ.out⟩
  by_cases k3 : kd = 3
  · subst k3
    have E1 : Hid ((t.act ⟨3, x, code, val, n⟩).2 = (t.fin x code val).2) := Lib.hid (by simp [Tt.act])
    go_wp2_with (first | (rw [HW1.out]; try rw [HKX.out]) | fail)
    try rw [HW1.out]
    try rw [HKX.out]
    refine (finD W1 r t lv fv D1.out x HRX.out code val HRC.out).mono ?_
    rintro e w2 ⟨rfl, lv2, d2, k2⟩
    have DZ := Lib.hid d2
    have KZ : Hid (KP (fun q => q = r) W w2) := Lib.hid (K1.out.trans k2 (fun _ _ e => e))
    clear d2 k2
    go_wp2_with fail
    go_end0
    rw [E1.out]
    exact ⟨rfl, _, _, DZ.out, KZ.out⟩
  by_cases k4 : kd = 4
  · subst k4
    have E1 : Hid ((t.act ⟨4, x, code, val, n⟩).2 = (t.fin x code val).2) := Lib.hid (by simp [Tt.act])
    go_wp2_with (first | (rw [HW1.out]; try rw [HKX.out]) | fail)
    try rw [HW1.out]
    try rw [HKX.out]
    refine (finD W1 r t lv fv D1.out x HRX.out code val HRC.out).mono ?_
    rintro e w2 ⟨rfl, lv2, d2, k2⟩
    have DZ := Lib.hid d2
    have KZ : Hid (KP (fun q => q = r) W w2) := Lib.hid (K1.out.trans k2 (fun _ _ e => e))
    clear d2 k2
    go_wp2_with fail
    go_end0
    rw [E1.out]
    exact ⟨rfl, _, _, DZ.out, KZ.out⟩
  by_cases k5 : kd = 5
  · subst k5
    have E1 : Hid ((t.act ⟨5, x, code, val, n⟩).2 = t.rse x.n x.l n) := Lib.hid (by simp [Tt.act])
    go_wp2_with (first | (rw [HW1.out]; try rw [HKX.out]) | fail)
    try rw [HW1.out]
    try rw [HKX.out]
    refine (rseD W1 r t lv fv D1.out x.n x.l n HRX.out.n HRX.out.l HRN.out HF.out).mono ?_
    rintro e w2 ⟨rfl, lv2, fv2, d2, k2⟩
    have DZ := Lib.hid d2
    have KZ : Hid (KP (fun q => q = r) W w2) := Lib.hid (K1.out.trans k2 (fun _ _ e => e))
    clear d2 k2
    go_wp2_with fail
    go_end0
    rw [E1.out]
    exact ⟨rfl, _, _, DZ.out, KZ.out⟩
  · have E1 : Hid ((t.act ⟨kd, x, code, val, n⟩).2 = t) := Lib.hid (by simp [Tt.act, k0, k1, k2, k3, k4, k5])
    have d0 : decide (kd = 0) = false := by simpa using k0
    have d1 : decide (kd = 1) = false := by simpa using k1
    have d2 : decide (kd = 2) = false := by simpa using k2
    have d3 : decide (kd = 3) = false := by simpa using k3
    have d4 : decide (kd = 4) = false := by simpa using k4
    have d5 : decide (kd = 5) = false := by simpa using k5
    go_wp2_with (first | (rw [HW1.out]; try rw [HKX.out]) | fail)
    try rw [HW1.out]
    go_end0
    rw [E1.out]
    first | exact ⟨rfl, _, _, D1.out, K1.out⟩ | exact ⟨rfl, ⟨_, _, D1.out⟩, K1.out⟩
/-- floors of a table are at least one. -/
def FPos (t : Tt) : Prop := ∀ x ∈ t.F, 1 ≤ x.f
theorem Tt.beg_F (t : Tt) (x : I10) : (t.beg x).2.F = t.F := by
  unfold Tt.beg
  repeat (first | rfl | split)
theorem Tt.fin_F (t : Tt) (x : I10) (c : Int) (v : ByteArray) : (t.fin x c v).2.F = t.F := by
  unfold Tt.fin
  split
  · dsimp only
    split <;> rfl
  · rfl
theorem FPos.act {t : Tt} {a : Ac} (h : FPos t) (hk : t.Ok) : FPos (t.act a).2 := by
  unfold Tt.act
  split
  · intro x hx
    exact h x (by rw [← Tt.beg_F t a.x]; exact hx)
  · split
    · intro x hx
      exact h x (by rw [← Tt.fin_F t a.x a.code a.val]; exact hx)
    · split
      · dsimp only
        unfold Tt.rse
        split
        · exact h
        · rename_i hc
          intro x hx
          rcases nF_mem hx with rfl | ⟨hx, _⟩
          · have := floorF_rng hk.frng a.x.n a.x.l
            have : ¬ a.n ≤ floorF t.F a.x.n a.x.l := fun e => hc (.inr (.inr e))
            dsimp only
            omega
          · exact h x hx
      · exact h
/-- all floors of a table are the other one's. -/
def SubF (F G : List Fw) : Prop := ∀ x ∈ F, x ∈ G
theorem flo_mem {t u : Tt} (hu : u.Ok) (hp : FPos t) {x : Fw} (hx : x ∈ t.F) (h : floorF u.F x.n x.l = x.f) : x ∈ u.F := by
  by_cases hy : ∃ y ∈ u.F, y.n = x.n ∧ y.l = x.l
  · obtain ⟨y, hy, h1, h2⟩ := hy
    have := hu.floor_in hy
    rw [h1, h2, h] at this
    have e : y = x := by
      obtain ⟨_, _, _⟩ := x
      obtain ⟨_, _, _⟩ := y
      simp_all
    exact e ▸ hy
  · have h0 := Tt.floor_no (t := u) (n := x.n) (l := x.l) fun y hy' e => hy ⟨y, hy', e⟩
    have := hp x hx
    omega
theorem hasF_iff {F : List Fw} {n l : Int} : hasF F n l = true ↔ ∃ y ∈ F, y.n = n ∧ y.l = l := by
  unfold hasF
  simp [List.any_eq_true]
theorem inF_iff {t u : Tt} (hu : u.Ok) (hp : FPos t) {x : Fw} (hx : x ∈ t.F) : inF u x = true ↔ x ∈ u.F := by
  unfold inF
  rw [Bool.and_eq_true, hasF_iff, decide_eq_true_eq]
  constructor
  · rintro ⟨_, h⟩
    exact flo_mem hu hp hx h.symm
  · intro h
    exact ⟨⟨x, h, rfl, rfl⟩, (hu.floor_in h).symm⟩
theorem eqD_iff {t u : Tt} (hu : u.Ok) (hp : FPos t) {x : Fw} (hx : x ∈ t.F) : decide (floorF u.F x.n x.l = x.f) = true ↔ x ∈ u.F := by
  rw [decide_eq_true_eq]
  exact ⟨flo_mem hu hp hx, hu.floor_in⟩
/-- a list without doubles whose members are another's, of one length, has all of that one's. -/
theorem sub_back : ∀ (F G : List Fw), F.Nodup → SubF F G → G.length ≤ F.length → SubF G F
  | [], G, _, _, hl => by
    intro x hx
    have : G = [] := List.eq_nil_of_length_eq_zero (by simpa using hl)
    rw [this] at hx
    cases hx
  | a :: F, G, hn, hs, hl => by
    obtain ⟨ha, hn⟩ := List.nodup_cons.1 hn
    obtain ⟨A, B, rfl⟩ := List.append_of_mem (hs a (List.mem_cons_self ..))
    have hs' : SubF F (A ++ B) := fun x hx => by
      have h1 := hs x (List.mem_cons_of_mem _ hx)
      simp only [List.mem_append, List.mem_cons] at h1 ⊢
      rcases h1 with h1 | rfl | h1
      · exact .inl h1
      · exact absurd hx ha
      · exact .inr h1
    have hb := sub_back F (A ++ B) hn hs' (by simp at hl ⊢; omega)
    intro x hx
    simp only [List.mem_append, List.mem_cons] at hx
    rcases hx with hx | rfl | hx
    · exact List.mem_cons_of_mem _ (hb x (List.mem_append.2 (.inl hx)))
    · exact List.mem_cons_self ..
    · exact List.mem_cons_of_mem _ (hb x (List.mem_append.2 (.inr hx)))
theorem Tt.Ok.fnd {t : Tt} (h : t.Ok) : t.F.Nodup := h.fap.imp fun {a b} hne e => hne (by rw [e]; exact ⟨rfl, rfl⟩)
theorem Tt.Ok.lnd {t : Tt} (h : t.Ok) : t.L.Nodup := (List.Pairwise.and_mem.1 h.rise).imp fun {a b} hab e => by
  obtain ⟨ha, hb, hlt⟩ := hab
  rw [e, cmp_self (h.fit hb)] at hlt
  omega
theorem sub_backL : ∀ (F G : List Rw), F.Nodup → (∀ x ∈ F, x ∈ G) → G.length ≤ F.length → ∀ x ∈ G, x ∈ F
  | [], G, _, _, hl => by
    intro x hx
    have : G = [] := List.eq_nil_of_length_eq_zero (by simpa using hl)
    rw [this] at hx
    cases hx
  | a :: F, G, hn, hs, hl => by
    obtain ⟨ha, hn⟩ := List.nodup_cons.1 hn
    obtain ⟨A, B, rfl⟩ := List.append_of_mem (hs a (List.mem_cons_self ..))
    have hs' : ∀ x ∈ F, x ∈ A ++ B := fun x hx => by
      have h1 := hs x (List.mem_cons_of_mem _ hx)
      simp only [List.mem_append, List.mem_cons] at h1 ⊢
      rcases h1 with h1 | rfl | h1
      · exact .inl h1
      · exact absurd hx ha
      · exact .inr h1
    have hb := sub_backL F (A ++ B) hn hs' (by simp at hl ⊢; omega)
    intro x hx
    simp only [List.mem_append, List.mem_cons] at hx
    rcases hx with hx | rfl | hx
    · exact List.mem_cons_of_mem _ (hb x (List.mem_append.2 (.inl hx)))
    · exact List.mem_cons_self ..
    · exact List.mem_cons_of_mem _ (hb x (List.mem_append.2 (.inr hx)))
theorem inL_iff {t u : Tt} (hu : u.Ok) {x : Rw} : inL u x = true ↔ x ∈ u.L := by
  unfold inL
  rw [Bool.and_eq_true, eqRw_iff]
  constructor
  · rintro ⟨h1, h2⟩
    obtain ⟨y, hy, e⟩ := (hu.is_iff x.id).1 h1
    have := hu.row_in hy
    rw [e, ← h2] at this
    exact this ▸ hy
  · intro h
    exact ⟨(hu.is_iff x.id).2 ⟨x, h, rfl⟩, (hu.row_in h).symm⟩
/-- rows that rise are one list if they are one set. -/
theorem rise_eq {t u : Tt} (ht : t.Ok) (hu : u.Ok) (hp : t.L.Perm u.L) : t.L = u.L :=
  hp.eq_of_pairwise (fun a b ha hb h1 h2 => by
    have hb' := hp.symm.mem_iff.1 hb
    have h3 := cmp_lt_trans (ht.fit ha) (ht.fit hb') (ht.fit ha) h1 h2
    rw [cmp_self (ht.fit ha)] at h3
    omega) ht.rise hu.rise
theorem eqL_iff {t u : Tt} (ht : t.Ok) (hu : u.Ok) : eqL t u = true ↔ t.L = u.L := by
  unfold eqL
  rw [Bool.and_eq_true, decide_eq_true_eq, List.all_eq_true]
  constructor
  · rintro ⟨h1, h2⟩
    have hs : ∀ x ∈ t.L, x ∈ u.L := fun x hx => (inL_iff (t := t) hu).1 (h2 x hx)
    have hb := sub_backL t.L u.L ht.lnd hs (by omega)
    exact rise_eq ht hu ((List.perm_ext_iff_of_nodup ht.lnd hu.lnd).2 fun x => ⟨hs x, hb x⟩)
  · intro h
    rw [h]
    exact ⟨rfl, fun x hx => (inL_iff (t := t) hu).2 hx⟩
theorem zip_iff : ∀ {L M : List Rw}, L.length = M.length → ((L.zip M).all (fun p => eqRw p.1 p.2) = true ↔ L = M)
  | [], [], _ => by simp
  | a :: L, b :: M, h => by
    have ih := zip_iff (L := L) (M := M) (by simpa using h)
    simp only [List.zip_cons_cons, List.all_cons, Bool.and_eq_true, ih, eqRw_iff, List.cons.injEq]
/-- both ways of comparing agree, from either side. -/
theorem same_agree {t u : Tt} (ht : t.Ok) (hu : u.Ok) (pt : FPos t) (pu : FPos u) : sameP t u = sameD u t := by
  rw [Bool.eq_iff_iff]
  unfold sameP sameD eqF
  simp only [Bool.and_eq_true, decide_eq_true_eq, List.all_eq_true, eqL_iff ht hu]
  constructor
  · rintro ⟨h1, h2, h3, h4⟩
    have hs : SubF t.F u.F := fun x hx => (inF_iff hu pt hx).1 (h4 x hx)
    have hb := sub_back t.F u.F ht.fnd hs (by omega)
    exact ⟨h1.symm, by rw [h2], h3.symm, fun p hp => List.all_eq_true.1 ((zip_iff (by rw [h2])).2 h2.symm) p hp, fun x hx => of_decide_eq_true ((eqD_iff ht pu hx).2 (hb x hx))⟩
  · rintro ⟨h1, h2, h3, h4, h5⟩
    have hs : SubF u.F t.F := fun x hx => (eqD_iff ht pu hx).1 (by simpa using h5 x hx)
    have hb := sub_back u.F t.F hu.fnd hs (by omega)
    exact ⟨h1.symm, ((zip_iff h2).1 (List.all_eq_true.2 h4)).symm, h3.symm, fun x hx => (inF_iff hu pt hx).2 (hb x hx)⟩
theorem sameP_self {t : Tt} (ht : t.Ok) (pt : FPos t) : sameP t t = true := by
  unfold sameP eqF
  simp only [decide_true, Bool.true_and, Bool.and_eq_true, (eqL_iff ht ht).2 rfl, List.all_eq_true, true_and]
  exact fun x hx => (inF_iff ht pt hx).2 hx
end

section
set_option linter.unusedSimpArgs false
set_option linter.unusedVariables false
open Go.RowKit Go.Maps Go.Sort

/-- acts one behind the other. -/
def plays (t : Tt) (L : List Ac) : Tt := L.foldl (fun t a => (t.act a).2) t
theorem plays_take {t : Tt} {L : List Ac} {j : Nat} {a : Ac} (h : L[j]? = some a) : plays t (L.take (j + 1)) = ((plays t (L.take j)).act a).2 := by
  unfold plays
  rw [List.take_add_one, h]
  simp [List.foldl_append]
theorem act_len (t : Tt) (a : Ac) : (t.act a).2.L.length ≤ t.L.length + 1 ∧ (t.act a).2.F.length ≤ t.F.length + 1 := by
  unfold Tt.act
  split
  · dsimp only
    unfold Tt.beg
    split
    · (refine ⟨?_, ?_⟩ <;> (try dsimp only) <;> omega)
    · split
      · dsimp only
        rw [ins_len]
        (refine ⟨?_, ?_⟩ <;> (try dsimp only) <;> omega)
      · split
        · (refine ⟨?_, ?_⟩ <;> (try dsimp only) <;> omega)
        · split <;> (refine ⟨?_, ?_⟩ <;> (try dsimp only) <;> omega)
  · split
    · dsimp only
      unfold Tt.fin
      split
      · dsimp only
        split
        · have := (del_sub t.L (fndT t.L a.x)).length_le
          (refine ⟨?_, ?_⟩ <;> (try dsimp only) <;> omega)
        · dsimp only
          rw [setE, List.length_set]
          (refine ⟨?_, ?_⟩ <;> (try dsimp only) <;> omega)
      · (refine ⟨?_, ?_⟩ <;> (try dsimp only) <;> omega)
    · split
      · dsimp only
        unfold Tt.rse
        split
        · (refine ⟨?_, ?_⟩ <;> (try dsimp only) <;> omega)
        · dsimp only
          have h1 := List.length_filter_le (keepR { t with F := nF t.F a.x.n a.x.l a.n } a.x.n a.x.l) t.L
          have h2 := FJ_len t.F a.x.n a.x.l a.n t.F.length
          unfold nF
          unfold nF at h1
          (refine ⟨?_, ?_⟩ <;> (try dsimp only) <;> omega)
      · (refine ⟨?_, ?_⟩ <;> (try dsimp only) <;> omega)
theorem plays_len (t : Tt) : ∀ L : List Ac, (plays t L).L.length ≤ t.L.length + L.length ∧ (plays t L).F.length ≤ t.F.length + L.length
  | [] => ⟨Nat.le_refl _, Nat.le_refl _⟩
  | a :: L => by
    have h1 := act_len t a
    have h2 := plays_len (t.act a).2 L
    have e : plays t (a :: L) = plays (t.act a).2 L := rfl
    rw [e, List.length_cons]
    exact ⟨by omega, by omega⟩
theorem plays_few {z : Int} {L M : List Ac} {i j : Nat} (hL : L.length ≤ 100) (hM : M.length ≤ 100) : (plays (plays ⟨z, [], []⟩ (L.take i)) (M.take j)).L.length < 1000 ∧ (plays (plays ⟨z, [], []⟩ (L.take i)) (M.take j)).F.length < 1000 := by
  have h1 := plays_len ⟨z, [], []⟩ (L.take i)
  have h2 := plays_len (plays ⟨z, [], []⟩ (L.take i)) (M.take j)
  have h3 := List.length_take_le i L
  have h4 := List.length_take_le j M
  have h5 : (L.take i).length ≤ L.length := by simp only [List.length_take]; omega
  have h6 : (M.take j).length ≤ M.length := by simp only [List.length_take]; omega
  simp only [List.length_nil] at h1
  exact ⟨by omega, by omega⟩
/-- what is done to one table leaves another one. -/
theorem PT.apart {W W' : World} {b m k c b' m' k' c' : Nat} {t u : Tt} (p : PT W b m k c t) (q : PT W b' m' k' c' u) (hne : m' ≠ m ∧ m' ≠ k ∧ k' ≠ m ∧ k' ≠ k) (hk : KP (fun q => q = m ∨ q = k) W W') : PT W' b' m' k' c' u := by
  obtain ⟨_, _, _, ⟨_, _, hm, _⟩, _⟩ := p.rows
  obtain ⟨_, _, _, ⟨_, _, hkk, _⟩, _⟩ := p.flo
  refine q.keepK hk ?_ ?_ ?_
  · rintro (rfl | rfl)
    · have := q.blk
      rw [hm] at this
      cases this
    · have := q.blk
      rw [hkk] at this
      cases this
  · exact fun e => e.elim hne.1 hne.2.1
  · exact fun e => e.elim hne.2.2.1 hne.2.2.2
theorem DT.apart {W W' : World} {r s : Nat} {t u : Tt} {lv fv lv' fv' : Value} (p : DT W r t lv fv) (q : DT W s u lv' fv') (hne : s ≠ r) (hk : KP (fun q => q = r) W W') : DT W' s u lv' fv' :=
  { q with
    blk := (hk.block s (bltA q.blk) hne).trans q.blk
    rows := q.rows.keepK hk fun g hg e => by
      obtain ⟨cur, hc⟩ := q.rows.block g hg
      exact apart_of hc p.blk (by decide) e
    flo := q.flo.keepK hk fun g hg e => by
      obtain ⟨cur, hc⟩ := q.flo.block g hg
      exact apart_of hc p.blk (by decide) e }
set_option maxRecDepth 100000 in
set_option maxHeartbeats 40000000 in
theorem walkMA (z : Int) (A1 : Option Addr) (L : List Ac) (c1 : Nat) (A2 : Option Addr) (M : List Ac) (c2 : Nat) (W : World) (hlc : L.length ≤ c1) (hcm : c1 ≤ maxLen) (hx : arg_actsR W A1 L) (hlc2 : M.length ≤ c2) (hcm2 : c2 ≤ maxLen) (hx2 : arg_actsR W A2 M) :
    Calls Try.prog 5 #[.int .i64 z, .slice A1 L.length c1, .slice A2 M.length c2] W fun e W' => e = .returned (.bool true) ∧ Below W.heap.size W W' := by
  have KLB : ∀ (A : Option Addr) (L : List Ac) (c : Nat) (w : World), L.length ≤ c → c ≤ maxLen → arg_actsR w A L → Calls Try.prog 6 #[.slice A L.length c] w fun e W' => e = .returned (.bool (lightB L)) ∧ w = W' := fun A L c w hlc hcm hx => by
    rcases rowsB_of hx with rfl | ⟨b, o, rfl, hr⟩
    · exact lightIs0 A c w
    · exact lightIs b o c L w hr hcm hlc
  have KL := Lib.hid (KLB A1 L c1 W hlc hcm hx)
  have KM := Lib.hid (KLB A2 M c2 W hlc2 hcm2 hx2)
  have KRW : ∀ (A : Option Addr) (L : List Ac), arg_actsR W A L → ∀ (i : Nat) (a : Ac), L[i]? = some a → ∃ rb ro, A = some ⟨rb, ro, none⟩ ∧ RowsB W rb ro L := fun A L hx i a ha => by
    rcases rowsB_of hx with e0 | ⟨b, o, e, hr⟩
    · rw [e0] at ha
      exact absurd ha (by rw [List.getElem?_nil]; exact fun h => nomatch h)
    · exact ⟨b, o, e, hr⟩
  have HRL := Lib.hid (KRW A1 L hx)
  have HRM := Lib.hid (KRW A2 M hx2)
  obtain ⟨n, hn⟩ : ∃ q, L.length = q := ⟨_, rfl⟩
  obtain ⟨n2, hn2⟩ : ∃ q, M.length = q := ⟨_, rfl⟩
  have HN := Lib.hid hn
  have HN2 := Lib.hid hn2
  rw [hn] at KL ⊢
  rw [hn2] at KM ⊢
  rw [hn] at hlc
  rw [hn2] at hlc2
  have hnci : (n : Int) ≤ (c1 : Int) := by omega
  have hnci2 : (n2 : Int) ≤ (c2 : Int) := by omega
  have hcap : n ≤ 9223372036854775807 := by unfold maxLen at hcm; omega
  have hcap2 : n2 ≤ 9223372036854775807 := by unfold maxLen at hcm2; omega
  clear hx hx2 hlc hlc2 hn hn2 hcm hcm2 KLB KRW
  cases hlb : lightB L with
  | false =>
    rw [hlb] at KL
    go_enter Try.func5, Try.ntmps5
    go_wp2_with fail
    refine KL.out.mono ?_
    rintro e w1 ⟨rfl, rfl⟩
    go_wp2_with fail
    refine (knowsA _).mono ?_
    rintro e w2 ⟨rfl, b2⟩
    go_wp2_with fail
    go_ret
    exact ⟨rfl, b2⟩
  | true =>
  cases hmb : lightB M with
  | false =>
    rw [hlb] at KL
    rw [hmb] at KM
    go_enter Try.func5, Try.ntmps5
    go_wp2_with fail
    refine KL.out.mono ?_
    rintro e w1 ⟨rfl, rfl⟩
    go_wp2_with fail
    refine KM.out.mono ?_
    rintro e w1 ⟨rfl, rfl⟩
    go_wp2_with fail
    refine (knowsA _).mono ?_
    rintro e w2 ⟨rfl, b2⟩
    go_wp2_with fail
    go_ret
    exact ⟨rfl, b2⟩
  | true =>
    rw [hlb] at KL
    rw [hmb] at KM
    have HL100 : Hid (n ≤ 100) := Lib.hid (HN.out ▸ (lightB_each hlb).1)
    have HM100 : Hid (n2 ≤ 100) := Lib.hid (HN2.out ▸ (lightB_each hmb).1)
    clear hlb hmb
    go_enter Try.func5, Try.ntmps5
    go_wp2_with fail
    refine KL.out.mono ?_
    rintro e w1 ⟨rfl, rfl⟩
    go_wp2_with fail
    refine KM.out.mono ?_
    rintro e w1 ⟨rfl, rfl⟩
    go_wp2_with fail
    refine (knowsA _).mono ?_
    rintro e w1 ⟨rfl, b1⟩
    have B1 := Lib.hid b1
    clear b1 KL KM
    go_wp2_with fail
    refine (aNew z w1).mono ?_
    rintro e w2 ⟨rfl, P2, b2, hs2⟩
    obtain ⟨ti, hti⟩ : ∃ q, min (max z 1) 16 = q := ⟨_, rfl⟩
    obtain ⟨b, hb⟩ : ∃ q, w1.heap.size + 2 = q := ⟨_, rfl⟩
    obtain ⟨m, hm⟩ : ∃ q, w1.heap.size = q := ⟨_, rfl⟩
    obtain ⟨k, hk⟩ : ∃ q, w1.heap.size + 1 = q := ⟨_, rfl⟩
    have P2 : Hid (PT w2 b m k 0 ⟨ti, [], []⟩) := Lib.hid (by rw [← hb, ← hk, ← hm, ← hti]; exact P2)
    have B2 := Lib.hid b2
    have GA : Hid (w1.heap.size ≤ b ∧ w1.heap.size ≤ m ∧ w1.heap.size ≤ k) := Lib.hid (by omega)
    rw [hb]
    go_wp2_with fail
    refine (aNew z w2).mono ?_
    rintro e w3 ⟨rfl, P3, b3, hs3⟩
    obtain ⟨b', hb'⟩ : ∃ q, w2.heap.size + 2 = q := ⟨_, rfl⟩
    obtain ⟨m', hm'⟩ : ∃ q, w2.heap.size = q := ⟨_, rfl⟩
    obtain ⟨k', hk'⟩ : ∃ q, w2.heap.size + 1 = q := ⟨_, rfl⟩
    have P3 : Hid (PT w3 b' m' k' 0 ⟨ti, [], []⟩) := Lib.hid (by rw [← hb', ← hk', ← hm', ← hti]; exact P3)
    have P2 := Lib.hid (P2.out.below b3)
    have BW := Lib.hid (B2.out.trans (b3.mono B2.out.size))
    have GB : Hid (w1.heap.size ≤ b' ∧ w1.heap.size ≤ m' ∧ w1.heap.size ≤ k') := Lib.hid (by omega)
    have NE : Hid ((m' ≠ m ∧ m' ≠ k ∧ k' ≠ m ∧ k' ≠ k) ∧ (m ≠ m' ∧ m ≠ k' ∧ k ≠ m' ∧ k ≠ k')) := Lib.hid (by omega)
    have HTI := Lib.hid hti
    rw [hb']
    clear hs2 b2 hb hm hk hs3 b3 hb' hm' hk' hti
    go_wp2_with fail
    go_loopw [9] (fun iv wr => ∃ (i : Nat), i ≤ n ∧ iv = .int .i64 i ∧ Hid (PT wr b m k i (plays ⟨ti, [], []⟩ (L.take i))) ∧ Hid (PT wr b' m' k' i (plays ⟨ti, [], []⟩ (L.take i))) ∧ Hid (FPos (plays ⟨ti, [], []⟩ (L.take i))) ∧ Hid (Below w1.heap.size w1 wr)) (fun iv _ => n - (intOf iv).toNat)
    case atStart => exact ⟨0, by omega, rfl, P2, P3, Lib.hid (fun x h => by cases h), BW⟩
    case round =>
      obtain ⟨i, hi, rfl, PA, PB, FP, BB⟩ := hrel
      obtain ⟨u0, hu0⟩ : ∃ z : World, z = wr := ⟨_, rfl⟩
      subst hu0
      by_cases hin : i < n
      · as_aux_lemma =>
        skip
        obtain ⟨a, ha0⟩ : ∃ a, L[i]? = some a := ⟨_, List.getElem?_eq_getElem (by rw [HN.out]; exact hin)⟩
        obtain ⟨rb, ro, rfl, hrw⟩ := HRL.out i a ha0
        have hr1 : RowsB u0 rb ro L := (hrw.below B1.out).below BB.out
        have hok := (hr1.2 i a ha0).2
        have HROW : Hid (∀ w, KP (fun q => w1.heap.size ≤ q) u0 w → ∀ j u, (#[.int .i64 a.kd, .int .u8 a.x.n, .int .u16 a.x.l, .int .u32 a.x.s, .int .u8 a.x.d, .int .u8 a.x.a0, .int .u8 a.x.a1, .int .u8 a.x.b0, .int .u8 a.x.b1, .int .u8 a.x.c0, .int .u8 a.x.c1, .int .u8 a.code, .string a.val, .int .u32 a.n] : Array Value)[j]? = some u → w.cell? ⟨rb, ro + i * 14 + j, none⟩ = some u) := Lib.hid fun w hk j u hu => by
          have hlt : rb < w1.heap.size := Nat.lt_of_lt_of_le hrw.1 B1.out.size
          have h1 := (hr1.2 i a ha0).1 j u (by simpa [Ac.cs] using hu)
          have e : w.heap[rb]? = u0.heap[rb]? := hk.block rb hr1.1 (by have := hr1.1; omega)
          exact (World.cell?_of_block (w := u0) (a := ⟨rb, ro + i * 14 + j, none⟩) e).trans h1
        have HOK := Lib.hid hok
        have HA0 := Lib.hid ha0
        have HIN := Lib.hid hin
        have h1 : (i : Int) < (n : Int) := by omega
        have h3 : (0 : Int) ≤ (i : Int) := by omega
        clear hrw hr1 hok ha0 hin hi
        obtain ⟨tt, htt⟩ : ∃ q, plays ⟨ti, [], []⟩ (L.take i) = q := ⟨_, rfl⟩
        have HNX : Hid (plays ⟨ti, [], []⟩ (L.take (i + 1)) = (tt.act a).2) := Lib.hid (by rw [plays_take HA0.out, htt])
        rw [htt] at PA PB FP
        clear htt
        have q0 := HROW.out u0 (KP.refl _ _) 0 (.int .i64 a.kd) rfl; have q1 := HROW.out u0 (KP.refl _ _) 1 (.int .u8 a.x.n) rfl; have q2 := HROW.out u0 (KP.refl _ _) 2 (.int .u16 a.x.l) rfl; have q3 := HROW.out u0 (KP.refl _ _) 3 (.int .u32 a.x.s) rfl; have q4 := HROW.out u0 (KP.refl _ _) 4 (.int .u8 a.x.d) rfl; have q5 := HROW.out u0 (KP.refl _ _) 5 (.int .u8 a.x.a0) rfl; have q6 := HROW.out u0 (KP.refl _ _) 6 (.int .u8 a.x.a1) rfl; have q7 := HROW.out u0 (KP.refl _ _) 7 (.int .u8 a.x.b0) rfl; have q8 := HROW.out u0 (KP.refl _ _) 8 (.int .u8 a.x.b1) rfl; have q9 := HROW.out u0 (KP.refl _ _) 9 (.int .u8 a.x.c0) rfl; have q10 := HROW.out u0 (KP.refl _ _) 10 (.int .u8 a.x.c1) rfl; have q11 := HROW.out u0 (KP.refl _ _) 11 (.int .u8 a.code) rfl; have q12 := HROW.out u0 (KP.refl _ _) 12 (.string a.val) rfl; have q13 := HROW.out u0 (KP.refl _ _) 13 (.int .u32 a.n) rfl
        simp only [Nat.add_zero] at q0
        have KD : Hid (Calls Try.prog 30 #[.pointer (some ⟨b, 0, none⟩), .agg #[.int .i64 a.kd, .int .u8 a.x.n, .int .u16 a.x.l, .int .u32 a.x.s, .int .u8 a.x.d, .int .u8 a.x.a0, .int .u8 a.x.a1, .int .u8 a.x.b0, .int .u8 a.x.b1, .int .u8 a.x.c0, .int .u8 a.x.c1, .int .u8 a.code, .string a.val, .int .u32 a.n]] u0 fun e W' => e = .returned (.bool (tt.act a).1) ∧ PT W' b m k (i + 1) (tt.act a).2 ∧ KP (fun q => q = m ∨ q = k) u0 W') := Lib.hid (doA u0 b m k (i) tt PA.out a HOK.out (by have := HL100.out; have := HM100.out; have := HIN.out; omega))
        go_wp2_with fail
        refine KD.out.mono ?_
        rintro e u1 ⟨rfl, p1, k1⟩
        have PB := Lib.hid (PA.out.apart PB.out NE.out.1 k1)
        have FPN : Hid (FPos (tt.act a).2) := Lib.hid (FP.out.act PA.out.ok)
        have K1 : Hid (KP (fun q => w1.heap.size ≤ q) u0 u1) := Lib.hid (k1.mono (fun q e => by have := GA.out; rcases e with rfl | rfl <;> omega))
        have PA := Lib.hid p1
        clear p1 k1 KD q0 q1 q2 q3 q4 q5 q6 q7 q8 q9 q10 q11 q12 q13
        have q0 := HROW.out u1 K1.out 0 (.int .i64 a.kd) rfl; have q1 := HROW.out u1 K1.out 1 (.int .u8 a.x.n) rfl; have q2 := HROW.out u1 K1.out 2 (.int .u16 a.x.l) rfl; have q3 := HROW.out u1 K1.out 3 (.int .u32 a.x.s) rfl; have q4 := HROW.out u1 K1.out 4 (.int .u8 a.x.d) rfl; have q5 := HROW.out u1 K1.out 5 (.int .u8 a.x.a0) rfl; have q6 := HROW.out u1 K1.out 6 (.int .u8 a.x.a1) rfl; have q7 := HROW.out u1 K1.out 7 (.int .u8 a.x.b0) rfl; have q8 := HROW.out u1 K1.out 8 (.int .u8 a.x.b1) rfl; have q9 := HROW.out u1 K1.out 9 (.int .u8 a.x.c0) rfl; have q10 := HROW.out u1 K1.out 10 (.int .u8 a.x.c1) rfl; have q11 := HROW.out u1 K1.out 11 (.int .u8 a.code) rfl; have q12 := HROW.out u1 K1.out 12 (.string a.val) rfl; have q13 := HROW.out u1 K1.out 13 (.int .u32 a.n) rfl
        simp only [Nat.add_zero] at q0
        have KD : Hid (Calls Try.prog 30 #[.pointer (some ⟨b', 0, none⟩), .agg #[.int .i64 a.kd, .int .u8 a.x.n, .int .u16 a.x.l, .int .u32 a.x.s, .int .u8 a.x.d, .int .u8 a.x.a0, .int .u8 a.x.a1, .int .u8 a.x.b0, .int .u8 a.x.b1, .int .u8 a.x.c0, .int .u8 a.x.c1, .int .u8 a.code, .string a.val, .int .u32 a.n]] u1 fun e W' => e = .returned (.bool (tt.act a).1) ∧ PT W' b' m' k' (i + 1) (tt.act a).2 ∧ KP (fun q => q = m' ∨ q = k') u1 W') := Lib.hid (doA u1 b' m' k' (i) tt PB.out a HOK.out (by have := HL100.out; have := HM100.out; have := HIN.out; omega))
        go_wp2_with fail
        refine KD.out.mono ?_
        rintro e u2 ⟨rfl, p1, k1⟩
        have PA := Lib.hid (PB.out.apart PA.out NE.out.2 k1)
        have K2 : Hid (KP (fun q => w1.heap.size ≤ q) u0 u2) := Lib.hid (K1.out.trans (k1.mono (fun q e => by have := GB.out; rcases e with rfl | rfl <;> omega) : KP (fun q => w1.heap.size ≤ q) u1 u2) (fun _ _ e => e))
        have BZ : Hid (Below w1.heap.size w1 u2) := Lib.hid (BB.out.trans (K2.out.below BB.out.size (fun q e => e)))
        have PB := Lib.hid p1
        clear p1 k1 KD q0 q1 q2 q3 q4 q5 q6 q7 q8 q9 q10 q11 q12 q13
        go_wp2_with fail
        go_roundw
        case rel => exact ⟨i + 1, by have := HIN.out; omega, by go_num, by rw [HNX.out]; exact PA, by rw [HNX.out]; exact PB, by rw [HNX.out]; exact FPN, BZ⟩
        case measure => have := HIN.out; simp [intOf]; omega
      · obtain rfl : i = n := by omega
        obtain ⟨t0, ht0⟩ : ∃ q, plays ⟨ti, [], []⟩ (L.take i) = q := ⟨_, rfl⟩
        have HT0 : Hid (plays ⟨ti, [], []⟩ L = t0) := Lib.hid (by rw [← ht0, ← HN.out, List.take_length])
        rw [ht0] at PA PB FP
        have hnn : ¬ (i : Int) < (i : Int) := by omega
        clear ht0 hi hin
        go_wp2_with fail
        refine (aClone u0 b m k i t0 PA.out).mono ?_
        rintro e w4 ⟨bc, mc, kc, rfl, pc, g1, g2, g3, bb⟩
        have PC := Lib.hid pc
        have PAX := Lib.hid (PA.out.below bb)
        have PBX := Lib.hid (PB.out.below bb)
        have NC : Hid ((mc ≠ m ∧ mc ≠ k ∧ kc ≠ m ∧ kc ≠ k)) := Lib.hid (by have := PA.out.ml; have := PA.out.kl; omega)
        have BB4 : Hid (Below w1.heap.size w1 w4) := Lib.hid (BB.out.trans (bb.mono BB.out.size))
        have HS0 := Lib.hid (sameP_self PA.out.ok FP.out)
        clear pc g1 g2 g3 bb PA PB BB
        go_wp2_with fail
        refine (aSame w4 bc mc kc i b m k i t0 t0 PC.out PAX.out).mono ?_
        rw [HS0.out]
        rintro e w5 ⟨rfl, b5⟩
        have PC := Lib.hid (PC.out.below b5)
        have PAX := Lib.hid (PAX.out.below b5)
        have PBX := Lib.hid (PBX.out.below b5)
        have BB5 : Hid (Below w1.heap.size w1 w5) := Lib.hid (BB4.out.trans (b5.mono BB4.out.size))
        clear b5 BB4
        go_wp2_with fail
        refine (aSame w5 b m k i b' m' k' i t0 t0 PAX.out PBX.out).mono ?_
        rw [HS0.out]
        rintro e w6 ⟨rfl, b5⟩
        have PC := Lib.hid (PC.out.below b5)
        have PAX := Lib.hid (PAX.out.below b5)
        have PBX := Lib.hid (PBX.out.below b5)
        have BB6 : Hid (Below w1.heap.size w1 w6) := Lib.hid (BB5.out.trans (b5.mono BB5.out.size))
        clear b5 BB5
        go_wp2_with fail
        refine (aSame w6 b' m' k' i bc mc kc i t0 t0 PBX.out PC.out).mono ?_
        rw [HS0.out]
        rintro e w7 ⟨rfl, b5⟩
        have PC := Lib.hid (PC.out.below b5)
        have PAX := Lib.hid (PAX.out.below b5)
        have PBX := Lib.hid (PBX.out.below b5)
        have BB7 : Hid (Below w1.heap.size w1 w7) := Lib.hid (BB6.out.trans (b5.mono BB6.out.size))
        clear b5 BB6
        obtain ⟨nL, hnL⟩ : ∃ q, i = q := ⟨_, rfl⟩
        rw [hnL] at HN HL100 hnci hcap PC PAX PBX ⊢
        clear hnn hnL
        go_wp2_with fail
        go_loopw [11] (fun iv wr => ∃ (i : Nat), i ≤ n2 ∧ iv = .int .i64 i ∧ Hid (PT wr b m k (nL + i) (plays t0 (M.take i))) ∧ Hid (PT wr b' m' k' nL t0) ∧ Hid (PT wr bc mc kc nL t0) ∧ Hid (FPos (plays t0 (M.take i))) ∧ Hid (Below w1.heap.size w1 wr)) (fun iv _ => n2 - (intOf iv).toNat)
        case atStart => exact ⟨0, by omega, rfl, PAX, PBX, PC, FP, BB7⟩
        case round =>
          obtain ⟨i, hi, rfl, PA, PB, PC, FP1, BB⟩ := hrel
          obtain ⟨u0, hu0⟩ : ∃ z : World, z = wr := ⟨_, rfl⟩
          subst hu0
          by_cases hin : i < n2
          · as_aux_lemma =>
            skip
            obtain ⟨a, ha0⟩ : ∃ a, M[i]? = some a := ⟨_, List.getElem?_eq_getElem (by rw [HN2.out]; exact hin)⟩
            obtain ⟨rb, ro, rfl, hrw⟩ := HRM.out i a ha0
            have hr1 : RowsB u0 rb ro M := (hrw.below B1.out).below BB.out
            have hok := (hr1.2 i a ha0).2
            have HROW : Hid (∀ w, KP (fun q => w1.heap.size ≤ q) u0 w → ∀ j u, (#[.int .i64 a.kd, .int .u8 a.x.n, .int .u16 a.x.l, .int .u32 a.x.s, .int .u8 a.x.d, .int .u8 a.x.a0, .int .u8 a.x.a1, .int .u8 a.x.b0, .int .u8 a.x.b1, .int .u8 a.x.c0, .int .u8 a.x.c1, .int .u8 a.code, .string a.val, .int .u32 a.n] : Array Value)[j]? = some u → w.cell? ⟨rb, ro + i * 14 + j, none⟩ = some u) := Lib.hid fun w hk j u hu => by
              have hlt : rb < w1.heap.size := Nat.lt_of_lt_of_le hrw.1 B1.out.size
              have h1 := (hr1.2 i a ha0).1 j u (by simpa [Ac.cs] using hu)
              have e : w.heap[rb]? = u0.heap[rb]? := hk.block rb hr1.1 (by have := hr1.1; omega)
              exact (World.cell?_of_block (w := u0) (a := ⟨rb, ro + i * 14 + j, none⟩) e).trans h1
            have HOK := Lib.hid hok
            have HA0 := Lib.hid ha0
            have HIN := Lib.hid hin
            have h1 : (i : Int) < (n2 : Int) := by omega
            have h3 : (0 : Int) ≤ (i : Int) := by omega
            clear hrw hr1 hok ha0 hin hi
            obtain ⟨tt, htt⟩ : ∃ q, plays t0 (M.take i) = q := ⟨_, rfl⟩
            have HNX : Hid (plays t0 (M.take (i + 1)) = (tt.act a).2) := Lib.hid (by rw [plays_take HA0.out, htt])
            rw [htt] at PA FP1
            clear htt
            have q0 := HROW.out u0 (KP.refl _ _) 0 (.int .i64 a.kd) rfl; have q1 := HROW.out u0 (KP.refl _ _) 1 (.int .u8 a.x.n) rfl; have q2 := HROW.out u0 (KP.refl _ _) 2 (.int .u16 a.x.l) rfl; have q3 := HROW.out u0 (KP.refl _ _) 3 (.int .u32 a.x.s) rfl; have q4 := HROW.out u0 (KP.refl _ _) 4 (.int .u8 a.x.d) rfl; have q5 := HROW.out u0 (KP.refl _ _) 5 (.int .u8 a.x.a0) rfl; have q6 := HROW.out u0 (KP.refl _ _) 6 (.int .u8 a.x.a1) rfl; have q7 := HROW.out u0 (KP.refl _ _) 7 (.int .u8 a.x.b0) rfl; have q8 := HROW.out u0 (KP.refl _ _) 8 (.int .u8 a.x.b1) rfl; have q9 := HROW.out u0 (KP.refl _ _) 9 (.int .u8 a.x.c0) rfl; have q10 := HROW.out u0 (KP.refl _ _) 10 (.int .u8 a.x.c1) rfl; have q11 := HROW.out u0 (KP.refl _ _) 11 (.int .u8 a.code) rfl; have q12 := HROW.out u0 (KP.refl _ _) 12 (.string a.val) rfl; have q13 := HROW.out u0 (KP.refl _ _) 13 (.int .u32 a.n) rfl
            simp only [Nat.add_zero] at q0
            have KD : Hid (Calls Try.prog 30 #[.pointer (some ⟨b, 0, none⟩), .agg #[.int .i64 a.kd, .int .u8 a.x.n, .int .u16 a.x.l, .int .u32 a.x.s, .int .u8 a.x.d, .int .u8 a.x.a0, .int .u8 a.x.a1, .int .u8 a.x.b0, .int .u8 a.x.b1, .int .u8 a.x.c0, .int .u8 a.x.c1, .int .u8 a.code, .string a.val, .int .u32 a.n]] u0 fun e W' => e = .returned (.bool (tt.act a).1) ∧ PT W' b m k (nL + i + 1) (tt.act a).2 ∧ KP (fun q => q = m ∨ q = k) u0 W') := Lib.hid (doA u0 b m k (nL + i) tt PA.out a HOK.out (by have := HL100.out; have := HM100.out; have := HIN.out; omega))
            go_wp2_with fail
            refine KD.out.mono ?_
            rintro e u1 ⟨rfl, p1, k1⟩
            have PB := Lib.hid (PA.out.apart PB.out NE.out.1 k1)
            have PC := Lib.hid (PA.out.apart PC.out NC.out k1)
            have FPN : Hid (FPos (tt.act a).2) := Lib.hid (FP1.out.act PA.out.ok)
            have K1 : Hid (KP (fun q => w1.heap.size ≤ q) u0 u1) := Lib.hid (k1.mono (fun q e => by have := GA.out; rcases e with rfl | rfl <;> omega))
            have BZ : Hid (Below w1.heap.size w1 u1) := Lib.hid (BB.out.trans (K1.out.below BB.out.size (fun q e => e)))
            have PA := Lib.hid p1
            clear p1 k1 KD q0 q1 q2 q3 q4 q5 q6 q7 q8 q9 q10 q11 q12 q13
            go_wp2_with fail
            go_roundw
            case rel => exact ⟨i + 1, by have := HIN.out; omega, by go_num, by rw [HNX.out]; exact PA, PB, PC, by rw [HNX.out]; exact FPN, BZ⟩
            case measure => have := HIN.out; simp [intOf]; omega
          · obtain rfl : i = n2 := by omega
            obtain ⟨t1, ht1⟩ : ∃ q, plays t0 (M.take i) = q := ⟨_, rfl⟩
            have HT1 : Hid (plays t0 M = t1) := Lib.hid (by rw [← ht1, ← HN2.out, List.take_length])
            rw [ht1] at PA FP1
            have hnn : ¬ (i : Int) < (i : Int) := by omega
            clear ht1 hi hin
            go_wp2_with fail
            refine (newT u0 z).mono ?_
            rintro e w8 ⟨rfl, d8, b8⟩
            obtain ⟨r, hr⟩ : ∃ q, u0.heap.size = q := ⟨_, rfl⟩
            rw [hr] at d8 ⊢
            rw [HTI.out] at d8
            have D8 := Lib.hid d8
            have PA := Lib.hid (PA.out.below b8)
            have PB := Lib.hid (PB.out.below b8)
            have PC := Lib.hid (PC.out.below b8)
            have BB8 : Hid (Below w1.heap.size w1 w8) := Lib.hid (BB.out.trans (b8.mono BB.out.size))
            have GR : Hid (w1.heap.size ≤ r) := Lib.hid (hr ▸ BB.out.size)
            clear d8 b8 hr BB
            go_wp2_with fail
            refine (newT w8 z).mono ?_
            rintro e w9 ⟨rfl, d9, b9⟩
            obtain ⟨s, hs⟩ : ∃ q, w8.heap.size = q := ⟨_, rfl⟩
            rw [hs] at d9 ⊢
            rw [HTI.out] at d9
            have D9 := Lib.hid d9
            have NRS : Hid (s ≠ r ∧ r ≠ s) := Lib.hid (by have := bltA D8.out.blk; omega)
            have D8 := Lib.hid (D8.out.below b9)
            have PA := Lib.hid (PA.out.below b9)
            have PB := Lib.hid (PB.out.below b9)
            have PC := Lib.hid (PC.out.below b9)
            have BB9 : Hid (Below w1.heap.size w1 w9) := Lib.hid (BB8.out.trans (b9.mono BB8.out.size))
            have GS : Hid (w1.heap.size ≤ s) := Lib.hid (hs ▸ BB8.out.size)
            clear d9 b9 hs BB8
            obtain ⟨nM, hnM⟩ : ∃ q, i = q := ⟨_, rfl⟩
            rw [hnM] at HN2 HM100 hnci2 hcap2 PA ⊢
            clear hnn hnM
            have LEN : Hid (L.length ≤ 100 ∧ M.length ≤ 100) := Lib.hid ⟨by have := HN.out; have := HL100.out; omega, by have := HN2.out; have := HM100.out; omega⟩
            go_wp2_with fail
            go_loopw [14] (fun iv wr => ∃ (i : Nat) (lv fv lv' fv' : Value), i ≤ nL ∧ iv = .int .i64 i ∧ Hid (DT wr r (plays ⟨ti, [], []⟩ (L.take i)) lv fv) ∧ Hid (DT wr s (plays ⟨ti, [], []⟩ (L.take i)) lv' fv') ∧ Hid (PT wr b m k (nL + nM) t1) ∧ Hid (PT wr b' m' k' nL t0) ∧ Hid (PT wr bc mc kc nL t0) ∧ Hid (Below w1.heap.size w1 wr)) (fun iv _ => nL - (intOf iv).toNat)
            case atStart => exact ⟨0, _, _, _, _, by omega, rfl, D8, D9, PA, PB, PC, BB9⟩
            case round =>
              obtain ⟨i, lv, fv, lv', fv', hi, rfl, DR, DS, PA, PB, PC, BB⟩ := hrel
              obtain ⟨u0, hu0⟩ : ∃ z : World, z = wr := ⟨_, rfl⟩
              subst hu0
              by_cases hin : i < nL
              · as_aux_lemma =>
                skip
                obtain ⟨a, ha0⟩ : ∃ a, L[i]? = some a := ⟨_, List.getElem?_eq_getElem (by rw [HN.out]; exact hin)⟩
                obtain ⟨rb, ro, rfl, hrw⟩ := HRL.out i a ha0
                have hr1 : RowsB u0 rb ro L := (hrw.below B1.out).below BB.out
                have hok := (hr1.2 i a ha0).2
                have HROW : Hid (∀ w, KP (fun q => w1.heap.size ≤ q) u0 w → ∀ j u, (#[.int .i64 a.kd, .int .u8 a.x.n, .int .u16 a.x.l, .int .u32 a.x.s, .int .u8 a.x.d, .int .u8 a.x.a0, .int .u8 a.x.a1, .int .u8 a.x.b0, .int .u8 a.x.b1, .int .u8 a.x.c0, .int .u8 a.x.c1, .int .u8 a.code, .string a.val, .int .u32 a.n] : Array Value)[j]? = some u → w.cell? ⟨rb, ro + i * 14 + j, none⟩ = some u) := Lib.hid fun w hk j u hu => by
                  have hlt : rb < w1.heap.size := Nat.lt_of_lt_of_le hrw.1 B1.out.size
                  have h1 := (hr1.2 i a ha0).1 j u (by simpa [Ac.cs] using hu)
                  have e : w.heap[rb]? = u0.heap[rb]? := hk.block rb hr1.1 (by have := hr1.1; omega)
                  exact (World.cell?_of_block (w := u0) (a := ⟨rb, ro + i * 14 + j, none⟩) e).trans h1
                have HOK := Lib.hid hok
                have HA0 := Lib.hid ha0
                have HIN := Lib.hid hin
                have h1 : (i : Int) < (nL : Int) := by omega
                have h3 : (0 : Int) ≤ (i : Int) := by omega
                clear hrw hr1 hok ha0 hin hi
                have hfew := plays_few (z := ti) (i := i) (j := 0) LEN.out.1 LEN.out.2
                simp only [List.take_zero] at hfew
                have hfew : (plays ⟨ti, [], []⟩ (L.take i)).L.length < 1000 ∧ (plays ⟨ti, [], []⟩ (L.take i)).F.length < 1000 := hfew
                obtain ⟨tt, htt⟩ : ∃ q, plays ⟨ti, [], []⟩ (L.take i) = q := ⟨_, rfl⟩
                have HNX : Hid (plays ⟨ti, [], []⟩ (L.take (i + 1)) = (tt.act a).2) := Lib.hid (by rw [plays_take HA0.out, htt])
                rw [htt] at DR DS hfew
                have HFEW := Lib.hid hfew
                clear htt hfew
                have q0 := HROW.out u0 (KP.refl _ _) 0 (.int .i64 a.kd) rfl; have q1 := HROW.out u0 (KP.refl _ _) 1 (.int .u8 a.x.n) rfl; have q2 := HROW.out u0 (KP.refl _ _) 2 (.int .u16 a.x.l) rfl; have q3 := HROW.out u0 (KP.refl _ _) 3 (.int .u32 a.x.s) rfl; have q4 := HROW.out u0 (KP.refl _ _) 4 (.int .u8 a.x.d) rfl; have q5 := HROW.out u0 (KP.refl _ _) 5 (.int .u8 a.x.a0) rfl; have q6 := HROW.out u0 (KP.refl _ _) 6 (.int .u8 a.x.a1) rfl; have q7 := HROW.out u0 (KP.refl _ _) 7 (.int .u8 a.x.b0) rfl; have q8 := HROW.out u0 (KP.refl _ _) 8 (.int .u8 a.x.b1) rfl; have q9 := HROW.out u0 (KP.refl _ _) 9 (.int .u8 a.x.c0) rfl; have q10 := HROW.out u0 (KP.refl _ _) 10 (.int .u8 a.x.c1) rfl; have q11 := HROW.out u0 (KP.refl _ _) 11 (.int .u8 a.code) rfl; have q12 := HROW.out u0 (KP.refl _ _) 12 (.string a.val) rfl; have q13 := HROW.out u0 (KP.refl _ _) 13 (.int .u32 a.n) rfl
                simp only [Nat.add_zero] at q0
                have KD : Hid (Calls Try.prog 32 #[.pointer (some ⟨r, 0, none⟩), .agg #[.int .i64 a.kd, .int .u8 a.x.n, .int .u16 a.x.l, .int .u32 a.x.s, .int .u8 a.x.d, .int .u8 a.x.a0, .int .u8 a.x.a1, .int .u8 a.x.b0, .int .u8 a.x.b1, .int .u8 a.x.c0, .int .u8 a.x.c1, .int .u8 a.code, .string a.val, .int .u32 a.n]] u0 fun e W' => e = .returned (.tuple #[]) ∧ ∃ lv' fv' : Value, DT W' r (tt.act a).2 lv' fv' ∧ KP (fun q => q = r) u0 W') := Lib.hid (playD u0 r tt lv fv DR.out a HOK.out HFEW.out.1 HFEW.out.2)
                go_wp2_with fail
                refine KD.out.mono ?_
                rintro e u1 ⟨rfl, lv1, fv1, d1, k1⟩
                have DS := Lib.hid (DR.out.apart DS.out NRS.out.1 k1)
                have PA := Lib.hid (PA.out.docK DR.out k1)
                have PB := Lib.hid (PB.out.docK DR.out k1)
                have PC := Lib.hid (PC.out.docK DR.out k1)
                have K1 : Hid (KP (fun q => w1.heap.size ≤ q) u0 u1) := Lib.hid (k1.mono (fun q e => by have := GR.out; rw [e]; exact this))
                have DR := Lib.hid d1
                clear d1 k1 KD q0 q1 q2 q3 q4 q5 q6 q7 q8 q9 q10 q11 q12 q13
                have q0 := HROW.out u1 K1.out 0 (.int .i64 a.kd) rfl; have q1 := HROW.out u1 K1.out 1 (.int .u8 a.x.n) rfl; have q2 := HROW.out u1 K1.out 2 (.int .u16 a.x.l) rfl; have q3 := HROW.out u1 K1.out 3 (.int .u32 a.x.s) rfl; have q4 := HROW.out u1 K1.out 4 (.int .u8 a.x.d) rfl; have q5 := HROW.out u1 K1.out 5 (.int .u8 a.x.a0) rfl; have q6 := HROW.out u1 K1.out 6 (.int .u8 a.x.a1) rfl; have q7 := HROW.out u1 K1.out 7 (.int .u8 a.x.b0) rfl; have q8 := HROW.out u1 K1.out 8 (.int .u8 a.x.b1) rfl; have q9 := HROW.out u1 K1.out 9 (.int .u8 a.x.c0) rfl; have q10 := HROW.out u1 K1.out 10 (.int .u8 a.x.c1) rfl; have q11 := HROW.out u1 K1.out 11 (.int .u8 a.code) rfl; have q12 := HROW.out u1 K1.out 12 (.string a.val) rfl; have q13 := HROW.out u1 K1.out 13 (.int .u32 a.n) rfl
                simp only [Nat.add_zero] at q0
                have KD : Hid (Calls Try.prog 32 #[.pointer (some ⟨s, 0, none⟩), .agg #[.int .i64 a.kd, .int .u8 a.x.n, .int .u16 a.x.l, .int .u32 a.x.s, .int .u8 a.x.d, .int .u8 a.x.a0, .int .u8 a.x.a1, .int .u8 a.x.b0, .int .u8 a.x.b1, .int .u8 a.x.c0, .int .u8 a.x.c1, .int .u8 a.code, .string a.val, .int .u32 a.n]] u1 fun e W' => e = .returned (.tuple #[]) ∧ ∃ lv' fv' : Value, DT W' s (tt.act a).2 lv' fv' ∧ KP (fun q => q = s) u1 W') := Lib.hid (playD u1 s tt lv' fv' DS.out a HOK.out HFEW.out.1 HFEW.out.2)
                go_wp2_with fail
                refine KD.out.mono ?_
                rintro e u2 ⟨rfl, lv2, fv2, d2, k2⟩
                have DR := Lib.hid (DS.out.apart DR.out NRS.out.2 k2)
                have PA := Lib.hid (PA.out.docK DS.out k2)
                have PB := Lib.hid (PB.out.docK DS.out k2)
                have PC := Lib.hid (PC.out.docK DS.out k2)
                have K2 : Hid (KP (fun q => w1.heap.size ≤ q) u0 u2) := Lib.hid (K1.out.trans (k2.mono (fun q e => by have := GS.out; rw [e]; exact this) : KP (fun q => w1.heap.size ≤ q) u1 u2) (fun _ _ e => e))
                have BZ : Hid (Below w1.heap.size w1 u2) := Lib.hid (BB.out.trans (K2.out.below BB.out.size (fun q e => e)))
                have DS := Lib.hid d2
                clear d2 k2 KD q0 q1 q2 q3 q4 q5 q6 q7 q8 q9 q10 q11 q12 q13
                go_wp2_with fail
                go_roundw
                case rel => exact ⟨i + 1, _, _, _, _, by have := HIN.out; omega, by go_num, by rw [HNX.out]; exact DR, by rw [HNX.out]; exact DS, PA, PB, PC, BZ⟩
                case measure => have := HIN.out; simp [intOf]; omega
              · obtain rfl : i = nL := by omega
                have ht : plays ⟨ti, [], []⟩ (L.take i) = t0 := by rw [← HN.out, List.take_length]; exact HT0.out
                rw [ht] at DR DS
                have hnn : ¬ (i : Int) < (i : Int) := by omega
                clear ht hi hin
                go_wp2_with fail
                obtain ⟨nQ, hnQ⟩ : ∃ q, i = q := ⟨_, rfl⟩
                rw [hnQ] at HN HL100 hnci hcap PA PB PC ⊢
                clear hnn hnQ
                go_loopw [15] (fun iv wr => ∃ (i : Nat) (lv' fv' : Value), i ≤ nM ∧ iv = .int .i64 i ∧ Hid (DT wr r t0 lv fv) ∧ Hid (DT wr s (plays t0 (M.take i)) lv' fv') ∧ Hid (PT wr b m k (nQ + nM) t1) ∧ Hid (PT wr b' m' k' nQ t0) ∧ Hid (PT wr bc mc kc nQ t0) ∧ Hid (Below w1.heap.size w1 wr)) (fun iv _ => nM - (intOf iv).toNat)
                case atStart => exact ⟨0, _, _, by omega, rfl, DR, DS, PA, PB, PC, BB⟩
                case round =>
                  obtain ⟨i, lv', fv', hi, rfl, DR, DS, PA, PB, PC, BB⟩ := hrel
                  obtain ⟨u0, hu0⟩ : ∃ z : World, z = wr := ⟨_, rfl⟩
                  subst hu0
                  by_cases hin : i < nM
                  · as_aux_lemma =>
                    skip
                    obtain ⟨a, ha0⟩ : ∃ a, M[i]? = some a := ⟨_, List.getElem?_eq_getElem (by rw [HN2.out]; exact hin)⟩
                    obtain ⟨rb, ro, rfl, hrw⟩ := HRM.out i a ha0
                    have hr1 : RowsB u0 rb ro M := (hrw.below B1.out).below BB.out
                    have hok := (hr1.2 i a ha0).2
                    have HROW : Hid (∀ w, KP (fun q => w1.heap.size ≤ q) u0 w → ∀ j u, (#[.int .i64 a.kd, .int .u8 a.x.n, .int .u16 a.x.l, .int .u32 a.x.s, .int .u8 a.x.d, .int .u8 a.x.a0, .int .u8 a.x.a1, .int .u8 a.x.b0, .int .u8 a.x.b1, .int .u8 a.x.c0, .int .u8 a.x.c1, .int .u8 a.code, .string a.val, .int .u32 a.n] : Array Value)[j]? = some u → w.cell? ⟨rb, ro + i * 14 + j, none⟩ = some u) := Lib.hid fun w hk j u hu => by
                      have hlt : rb < w1.heap.size := Nat.lt_of_lt_of_le hrw.1 B1.out.size
                      have h1 := (hr1.2 i a ha0).1 j u (by simpa [Ac.cs] using hu)
                      have e : w.heap[rb]? = u0.heap[rb]? := hk.block rb hr1.1 (by have := hr1.1; omega)
                      exact (World.cell?_of_block (w := u0) (a := ⟨rb, ro + i * 14 + j, none⟩) e).trans h1
                    have HOK := Lib.hid hok
                    have HA0 := Lib.hid ha0
                    have HIN := Lib.hid hin
                    have h1 : (i : Int) < (nM : Int) := by omega
                    have h3 : (0 : Int) ≤ (i : Int) := by omega
                    clear hrw hr1 hok ha0 hin hi
                    have hfew := plays_few (z := ti) (L := L) (M := M) (i := L.length) (j := i) LEN.out.1 LEN.out.2
                    rw [List.take_length, HT0.out] at hfew
                    obtain ⟨tt, htt⟩ : ∃ q, plays t0 (M.take i) = q := ⟨_, rfl⟩
                    have HNX : Hid (plays t0 (M.take (i + 1)) = (tt.act a).2) := Lib.hid (by rw [plays_take HA0.out, htt])
                    rw [htt] at DS hfew
                    have HFEW := Lib.hid hfew
                    clear htt hfew
                    have q0 := HROW.out u0 (KP.refl _ _) 0 (.int .i64 a.kd) rfl; have q1 := HROW.out u0 (KP.refl _ _) 1 (.int .u8 a.x.n) rfl; have q2 := HROW.out u0 (KP.refl _ _) 2 (.int .u16 a.x.l) rfl; have q3 := HROW.out u0 (KP.refl _ _) 3 (.int .u32 a.x.s) rfl; have q4 := HROW.out u0 (KP.refl _ _) 4 (.int .u8 a.x.d) rfl; have q5 := HROW.out u0 (KP.refl _ _) 5 (.int .u8 a.x.a0) rfl; have q6 := HROW.out u0 (KP.refl _ _) 6 (.int .u8 a.x.a1) rfl; have q7 := HROW.out u0 (KP.refl _ _) 7 (.int .u8 a.x.b0) rfl; have q8 := HROW.out u0 (KP.refl _ _) 8 (.int .u8 a.x.b1) rfl; have q9 := HROW.out u0 (KP.refl _ _) 9 (.int .u8 a.x.c0) rfl; have q10 := HROW.out u0 (KP.refl _ _) 10 (.int .u8 a.x.c1) rfl; have q11 := HROW.out u0 (KP.refl _ _) 11 (.int .u8 a.code) rfl; have q12 := HROW.out u0 (KP.refl _ _) 12 (.string a.val) rfl; have q13 := HROW.out u0 (KP.refl _ _) 13 (.int .u32 a.n) rfl
                    simp only [Nat.add_zero] at q0
                    have KD : Hid (Calls Try.prog 32 #[.pointer (some ⟨s, 0, none⟩), .agg #[.int .i64 a.kd, .int .u8 a.x.n, .int .u16 a.x.l, .int .u32 a.x.s, .int .u8 a.x.d, .int .u8 a.x.a0, .int .u8 a.x.a1, .int .u8 a.x.b0, .int .u8 a.x.b1, .int .u8 a.x.c0, .int .u8 a.x.c1, .int .u8 a.code, .string a.val, .int .u32 a.n]] u0 fun e W' => e = .returned (.tuple #[]) ∧ ∃ lv' fv' : Value, DT W' s (tt.act a).2 lv' fv' ∧ KP (fun q => q = s) u0 W') := Lib.hid (playD u0 s tt lv' fv' DS.out a HOK.out HFEW.out.1 HFEW.out.2)
                    go_wp2_with fail
                    refine KD.out.mono ?_
                    rintro e u2 ⟨rfl, lv2, fv2, d2, k2⟩
                    have DR := Lib.hid (DS.out.apart DR.out NRS.out.2 k2)
                    have PA := Lib.hid (PA.out.docK DS.out k2)
                    have PB := Lib.hid (PB.out.docK DS.out k2)
                    have PC := Lib.hid (PC.out.docK DS.out k2)
                    have K2 : Hid (KP (fun q => w1.heap.size ≤ q) u0 u2) := Lib.hid (k2.mono (fun q e => by have := GS.out; rw [e]; exact this))
                    have BZ : Hid (Below w1.heap.size w1 u2) := Lib.hid (BB.out.trans (K2.out.below BB.out.size (fun q e => e)))
                    have DS := Lib.hid d2
                    clear d2 k2 KD q0 q1 q2 q3 q4 q5 q6 q7 q8 q9 q10 q11 q12 q13
                    go_wp2_with fail
                    go_roundw
                    case rel => exact ⟨i + 1, _, _, by have := HIN.out; omega, by go_num, DR, by rw [HNX.out]; exact DS, PA, PB, PC, BZ⟩
                    case measure => have := HIN.out; simp [intOf]; omega
                  · obtain rfl : i = nM := by omega
                    have ht : plays t0 (M.take i) = t1 := by rw [← HN2.out, List.take_length]; exact HT1.out
                    rw [ht] at DS
                    have hnn : ¬ (i : Int) < (i : Int) := by omega
                    have AG := Lib.hid (same_agree PA.out.ok PB.out.ok FP1.out FP.out)
                    clear ht hi hin
                    go_wp2_with fail
                    refine (aSame u0 bc mc kc nQ b' m' k' nQ t0 t0 PC.out PB.out).mono ?_
                    rw [HS0.out]
                    rintro e w10 ⟨rfl, b5⟩
                    have PA := Lib.hid (PA.out.below b5)
                    have PB := Lib.hid (PB.out.below b5)
                    have DR := Lib.hid (DR.out.below b5)
                    have DS := Lib.hid (DS.out.below b5)
                    have BB5 : Hid (Below w1.heap.size w1 w10) := Lib.hid (BB.out.trans (b5.mono BB.out.size))
                    clear b5
                    go_wp2_with fail
                    refine (aSame w10 b m k (nQ + i) b' m' k' nQ t1 t0 PA.out PB.out).mono ?_
                    rw [AG.out]
                    obtain ⟨ans, hans⟩ : ∃ q, sameD t0 t1 = q := ⟨_, rfl⟩
                    have KF : Hid (∀ X, DT X r t0 lv fv → DT X s t1 lv' fv' → Calls Try.prog 33 #[.pointer (some ⟨r, 0, none⟩), .pointer (some ⟨s, 0, none⟩)] X fun e W' => e = .returned (.bool ans) ∧ Below X.heap.size X W') := Lib.hid fun X h1 h2 => hans ▸ sameT X r s t0 t1 lv fv lv' fv' h1 h2
                    rw [hans]
                    rintro e w11 ⟨rfl, b6⟩
                    have DR := Lib.hid (DR.out.below b6)
                    have DS := Lib.hid (DS.out.below b6)
                    have BB6 : Hid (Below w1.heap.size w1 w11) := Lib.hid (BB5.out.trans (b6.mono BB5.out.size))
                    clear b6 hans AG
                    go_wp2_with fail
                    refine (KF.out w11 DR.out DS.out).mono ?_
                    rintro e w12 ⟨rfl, b7⟩
                    have BZ : Hid (Below W.heap.size W w12) := Lib.hid (B1.out.trans ((BB6.out.trans (b7.mono BB6.out.size)).mono B1.out.size))
                    clear b7
                    go_wp2_with fail
                    go_ret
                    exact ⟨by simp, BZ.out⟩
end
end Go.Proofs.Ytldbmmganicliaa
