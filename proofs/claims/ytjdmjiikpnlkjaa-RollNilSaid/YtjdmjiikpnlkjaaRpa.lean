/-
  An act of the law, with its entries, as an argument. No condition.
-/
import Derived.Test.YtjdmjiikpnlkjaaGop
import Derived.Test.YtjdmjiikpnlkjaaRoar
namespace Go.Proofs.Ytjdmjiikpnlkjaa
set_option linter.unusedSimpArgs false
set_option linter.unusedVariables false
open Go.RowKit Go.ChangeShapes Go.WideShapes Go.Joins Go.Deep
open V (P2)

section
variable {H : Type} {enc : TypeId × Value → H} {w : World} {base : Nat} {spare : Nat → Bool} {held : Bool}
set_option maxRecDepth 100000 in
theorem open_entryG {fuel : Nat} {cs : List Value} {x0' : DataW H × List MemPlace} (h : DataW.trod enc Try.prog w base spare held fuel 103 cs = some x0') (hw : ∀ n ∈ x0'.1.weights Try.prog 103, n ≤ 140737488355328) :
    ∃ e : Le, cs = e.cs.toList ∧ e.At w w.heap.size := by
  obtain ⟨hl, n, y0, y1, y2, y3, y4, y5, y6, h0, h1, h2, h3, h4, h5, h6, hx⟩ := trod_seven Try.underlying103 h
  have hu := Try.underlying103
  have hd : x0'.1 = .agg [y0.1, y1.1, y2.1, y3.1, y4.1, y5.1, y6.1] := hx
  have hw3 : ∀ n ∈ y3.1.weights Try.prog 99, n ≤ 140737488355328 := fun n hn => hw n (by rw [hd]; simp only [DataW.weights, hu]; exact DataW.weights_mem_each (j := 3) rfl rfl n hn)
  have hw5 : ∀ n ∈ y5.1.weights Try.prog 101, n ≤ 140737488355328 := fun n hn => hw n (by rw [hd]; simp only [DataW.weights, hu]; exact DataW.weights_mem_each (j := 5) rfl rfl n hn)
  have hC : Try.prog.cellsOf 103 = 18 := by kernel_rfl
  have k0 : Try.prog.cellsOf 5 = 1 := by kernel_rfl
  have k1 : Try.prog.cellsOf 98 = 10 := by kernel_rfl
  have k2 : Try.prog.cellsOf 42 = 1 := by kernel_rfl
  have k3 : Try.prog.cellsOf 99 = 1 := by kernel_rfl
  have k4 : Try.prog.cellsOf 100 = 2 := by kernel_rfl
  have k5 : Try.prog.cellsOf 101 = 1 := by kernel_rfl
  have k6 : Try.prog.cellsOf 68 = 2 := by kernel_rfl
  match cs, hl.trans hC with
  | [x0, x1, x2, x3, x4, x5, x6, x7, x8, x9, x10, x11, x12, x13, x14, x15, x16, x17], _ =>
    simp only [k0, k1, k2, k3, k4, k5, k6, List.drop_zero, List.take_succ_cons, List.take_zero, List.drop_succ_cons] at h0 h1 h2 h3 h4 h5 h6
    obtain ⟨kk, e0, _, _⟩ := DataW.trod_int Try.underlying5 h0
    obtain ⟨n', l', s', d', a0, a1, b0', b1, c0, c1, e1, _⟩ := I.open_cells h1
    obtain ⟨fl, e2, _, _⟩ := DataW.trod_int Try.underlying42 h2
    obtain ⟨A, X, c, e3, lc, cm, RX, bx, sx⟩ := open_parts5 h3 hw3
    obtain ⟨rc, rv, e4⟩ := open_res5 h4
    obtain ⟨B, Y, dd, e5, ld, dm, RY, bY, sy⟩ := open_writes5 h5 hw5
    obtain ⟨vn, vl, e6⟩ := open_proc5 h6
    simp only [List.cons.injEq, and_true] at e0 e1 e2 e3 e4 e5 e6
    obtain ⟨rfl, rfl, rfl, rfl, rfl, rfl, rfl, rfl, rfl, rfl⟩ := e1
    obtain ⟨rfl, rfl⟩ := e4
    obtain ⟨rfl, rfl⟩ := e6
    subst e0 e2 e3 e5
    exact ⟨⟨⟨kk, n', l', s', d', a0, a1, b0', b1, c0, c1, fl, rc, rv, vn, vl⟩, A, X, c, B, Y, dd⟩, rfl, RX, RY, bx, bY, lc, cm, ld, dm⟩
set_option maxRecDepth 100000 in
theorem open_entriesG {fuel : Nat} {cs : List Value} {y : DataW H × List MemPlace} (h : DataW.trod enc Try.prog w base spare held fuel 69 cs = some y) (hw : ∀ n ∈ y.1.weights Try.prog 69, n ≤ 140737488355328) :
    ∃ (A : Option Addr) (X : List Le) (c : Nat), cs = [.slice A X.length c] ∧ X.length ≤ c ∧ c ≤ maxLen ∧ RowsE w w.heap.size A X := by
  rcases open_slice Try.underlying69 h with ⟨rfl, h2⟩ | ⟨a, len, cap, m, n', D, Pl, rfl, hb, hl, hm, hmm, hx, hi⟩
  · exact ⟨none, [], 0, rfl, Nat.le_refl _, by unfold maxLen; omega, fun e => absurd rfl e⟩
  · have hC : Try.prog.cellsOf 103 = 18 := by kernel_rfl
    have hu := Try.underlying69
    have hlm : len ≤ m := by rw [hmm]; split <;> omega
    have each : ∀ i, ∃ q : Le, i < len → q.At w w.heap.size ∧ ∀ j u, q.cs[j]? = some u → w.cell? ((a.add (i * 18)).add j) = some u := by
      intro i
      by_cases hin : i < len
      · obtain ⟨cs', hc, ht⟩ := hi i (by omega)
        rw [hC] at hc
        obtain ⟨q, hq, hat'⟩ := open_entryG ht (fun n hn => hw n (by
          rw [hx]
          simp only [DataW.weights, hu, List.mem_cons, List.mem_append]
          exact .inr (.inl (weights_all (d := D i) (List.mem_map.2 ⟨i, List.mem_range.2 hin, rfl⟩) hn))))
        obtain ⟨_, hlen, hat⟩ := World.cells?_some hc
        refine ⟨q, fun _ => ⟨hat', fun j u hu => ?_⟩⟩
        have hj : j < 18 := (Array.getElem?_eq_some_iff.1 hu).1
        rw [hat j hj, hq, Array.getElem?_toList, hu]
      · exact ⟨⟨E0, none, [], 0, none, [], 0⟩, fun h => absurd h hin⟩
    obtain ⟨f, hf'⟩ := Classical.axiomOfChoice each
    have hlen : ((List.range len).map f).length = len := by simp
    have hget : ∀ i x, ((List.range len).map f)[i]? = some x → i < len ∧ x = f i := by
      intro i x hx
      have hi' : i < len := by
        have := (List.getElem?_eq_some_iff.1 hx).1
        simpa using this
      refine ⟨hi', ?_⟩
      simp [hi'] at hx
      exact hx.symm
    refine ⟨some a, (List.range len).map f, cap, by rw [hlen], by rw [hlen]; exact hl, hm, ?_⟩
    intro hne
    have hn : 0 < len := by
      rcases Nat.eq_zero_or_pos len with h | h
      · subst h; exact absurd rfl hne
      · exact h
    have h00 := (hf' 0 hn).2 0 _ rfl
    simp [Addr.add] at h00
    obtain ⟨b, o, rfl, hbl⟩ := cell_plain h00
    refine ⟨b, o, rfl, hbl, fun i x hx => ?_⟩
    obtain ⟨hi', rfl⟩ := hget i x hx
    refine ⟨fun j u hu => ?_, (hf' i hi').1⟩
    have hc := (hf' i hi').2 j u hu
    rwa [add_plain5, add_plain5] at hc
set_option maxRecDepth 100000 in
theorem open_procB {fuel : Nat} {cs : List Value} {x : DataW H × List MemPlace} (h : DataW.trod enc Try.prog w base spare held fuel 68 cs = some x) :
    ∃ p : P2, cs = (V.P2.cells p) ∧ Rg2 p := by
  obtain ⟨y0, y1, n, _, hl, h0, h1⟩ := trod_struct2 Try.underlying68 h
  have hC : Try.prog.cellsOf 68 = 2 := by kernel_rfl
  have hC5 : Try.prog.cellsOf 5 = 1 := by kernel_rfl
  have hC9 : Try.prog.cellsOf 47 = 1 := by kernel_rfl
  match cs, hl.trans hC with
  | [c0, c1], _ =>
      skip
      simp only [hC5, hC9, List.drop_zero, List.take_succ_cons, List.take_zero, List.drop_succ_cons, List.getElem?_cons_zero, List.getElem?_cons_succ] at h0 h1
      obtain ⟨g, e0, _, w0⟩ := DataW.trod_int Try.underlying5 h0
      obtain ⟨l, e2, _, w2⟩ := DataW.trod_int Try.underlying47 h1
      simp at e0 e2
      subst e0 e2
      exact ⟨⟨g, l⟩, rfl, bounds_u8 w0, bounds_u16 w2⟩
theorem trod_fiveR {P : Program} {fuel : Nat} {cs : List Value} {x : DataW H × List MemPlace} {t : TypeId} {f0 f1 f2 f3 f4 : Field} (hs : P.underlying t = some (.struct #[f0, f1, f2, f3, f4])) (h : DataW.trod enc P w base spare held fuel t cs = some x) :
    cs.length = P.cellsOf t ∧ ∃ (n : Nat) (y0 y1 y2 y3 y4 : DataW H × List MemPlace),
      DataW.trod enc P w base spare held n f0.type ((cs.drop f0.offset).take (P.cellsOf f0.type)) = some y0 ∧
      DataW.trod enc P w base spare held n f1.type ((cs.drop f1.offset).take (P.cellsOf f1.type)) = some y1 ∧
      DataW.trod enc P w base spare held n f2.type ((cs.drop f2.offset).take (P.cellsOf f2.type)) = some y2 ∧
      DataW.trod enc P w base spare held n f3.type ((cs.drop f3.offset).take (P.cellsOf f3.type)) = some y3 ∧
      DataW.trod enc P w base spare held n f4.type ((cs.drop f4.offset).take (P.cellsOf f4.type)) = some y4 ∧ x.1 = .agg [y0.1, y1.1, y2.1, y3.1, y4.1] := by
  obtain ⟨xs, n, _, hx, hl, hxs, hg⟩ := DataW.trod_struct hs h
  refine ⟨hl, n, ?_⟩
  match xs, hxs with
  | [y0, y1, y2, y3, y4], _ => exact ⟨y0, y1, y2, y3, y4, hg 0 f0 rfl, hg 1 f1 rfl, hg 2 f2 rfl, hg 3 f3 rfl, hg 4 f4 rfl, by rw [hx]; rfl⟩
/-- an act. -/
structure Aq where
  kd : Int
  fr : Int
  co : Int
  p : P2
  A : Option Addr
  L : List Le
  c : Nat
def Aq.cs (a : Aq) : Array Value := #[.int .i64 a.kd, .int .i64 a.fr, .int .i64 a.co, .int .u8 a.p.n, .int .u16 a.p.l, .slice a.A a.L.length a.c]
structure Aq.In (a : Aq) (W : World) (B : Nat) : Prop where
  t : RowsE W B a.A a.L
  tl : a.L.length ≤ a.c
  tm : a.c ≤ maxLen
theorem Aq.In.below {a : Aq} {W W' : World} {B B' C : Nat} (h : a.In W B) (hb : Below C W W') (hC : B ≤ C) (hB : B ≤ B') : a.In W' B' :=
  ⟨h.t.below hb hC hB, h.tl, h.tm⟩
set_option maxRecDepth 100000 in
theorem open_actR {fuel : Nat} {cs : List Value} {x : DataW H × List MemPlace} (h : DataW.trod enc Try.prog w base spare held fuel 71 cs = some x) (hw : ∀ n ∈ x.1.weights Try.prog 71, n ≤ 140737488355328) :
    ∃ a : Aq, cs = a.cs.toList ∧ a.In w w.heap.size := by
  obtain ⟨hl, n, y0, y1, y2, y3, y4, h0, h1, h2, h3, h4, hx⟩ := trod_fiveR Try.underlying71 h
  have hu := Try.underlying71
  have hw4 : ∀ n ∈ y4.1.weights Try.prog 69, n ≤ 140737488355328 := fun n hn => hw n (by rw [hx]; simp only [DataW.weights, hu]; exact DataW.weights_mem_each (j := 4) rfl rfl n hn)
  have hC : Try.prog.cellsOf 71 = 6 := by kernel_rfl
  have k0 : Try.prog.cellsOf 3 = 1 := by kernel_rfl
  have k2 : Try.prog.cellsOf 68 = 2 := by kernel_rfl
  have k3 : Try.prog.cellsOf 69 = 1 := by kernel_rfl
  match cs, hl.trans hC with
  | [x0, x1, x2, x3, x4, x5], _ =>
    simp only [k0, k2, k3, List.drop_zero, List.take_succ_cons, List.take_zero, List.drop_succ_cons] at h0 h1 h2 h3 h4
    obtain ⟨kd, e0, _⟩ := DataW.trod_int Try.underlying3 h0
    obtain ⟨fr, e1, _⟩ := DataW.trod_int Try.underlying3 h1
    obtain ⟨co, e2, _⟩ := DataW.trod_int Try.underlying3 h2
    obtain ⟨p, e3, rp⟩ := open_procB h3
    obtain ⟨TA, T, tc, e4, t1, t2, t3⟩ := open_entriesG h4 hw4
    simp only [V.P2.cells, List.cons.injEq, and_true] at e0 e1 e2 e3 e4
    obtain ⟨rfl, rfl⟩ := e3
    subst e0 e1 e2 e4
    exact ⟨⟨kd, fr, co, p, TA, T, tc⟩, rfl, t3, t1, t2⟩
set_option maxRecDepth 100000 in
/-- an act, as an argument. -/
theorem arg_actR {r : Reach} {b0 : Nat} {v : Value} {d : DataW H} {p : List MemPlace} (hv : Value.okWide Try.prog w r b0 71 v) (h : DataW.Trod enc Try.prog w base spare held 71 v d p) (hw : ∀ n ∈ d.weights Try.prog 71, n ≤ 140737488355328) :
    ∃ a : Aq, v = .agg a.cs ∧ a.In w w.heap.size := by
  obtain ⟨cs, rfl, _⟩ := okWide_struct Try.underlying71 hv
  obtain ⟨fuel, hf⟩ := h
  obtain ⟨a, e, ha⟩ := open_actR hf hw
  refine ⟨a, ?_, ha⟩
  have : cs = a.cs := by
    obtain ⟨l⟩ := cs
    exact congrArg Array.mk e
  rw [this]
end

end Go.Proofs.Ytjdmjiikpnlkjaa
