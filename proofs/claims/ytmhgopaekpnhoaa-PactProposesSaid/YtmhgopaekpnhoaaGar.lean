/-
  Acts of an acceptor and of a proposer, lists of these, a view: as arguments. No condition.
-/
import Derived.Test.YtmhgopaekpnhoaaGop
import Derived.Test.YtmhgopaekpnhoaaGpd
namespace Go.Proofs.Ytmhgopaekpnhoaa
set_option linter.unusedSimpArgs false
set_option linter.unusedVariables false
open Go.RowKit Go.ChangeShapes Go.WideShapes Go.Joins Go.Deep
open V (P2)

section
variable {H : Type} {enc : TypeId × Value → H} {w : World} {base : Nat} {spare : Nat → Bool} {held : Bool}
set_option maxRecDepth 100000 in
theorem open_entryG {fuel : Nat} {cs : List Value} {x0' : DataW H × List MemPlace} (h : DataW.trod enc Try.prog w base spare held fuel 138 cs = some x0') (hw : ∀ n ∈ x0'.1.weights Try.prog 138, n ≤ 140737488355328) :
    ∃ e : Le, cs = e.cs.toList ∧ e.At w w.heap.size := by
  obtain ⟨hl, n, y0, y1, y2, y3, y4, y5, y6, h0, h1, h2, h3, h4, h5, h6, hx⟩ := trod_seven Try.underlying138 h
  have hu := Try.underlying138
  have hd : x0'.1 = .agg [y0.1, y1.1, y2.1, y3.1, y4.1, y5.1, y6.1] := hx
  have hw3 : ∀ n ∈ y3.1.weights Try.prog 134, n ≤ 140737488355328 := fun n hn => hw n (by rw [hd]; simp only [DataW.weights, hu]; exact DataW.weights_mem_each (j := 3) rfl rfl n hn)
  have hw5 : ∀ n ∈ y5.1.weights Try.prog 136, n ≤ 140737488355328 := fun n hn => hw n (by rw [hd]; simp only [DataW.weights, hu]; exact DataW.weights_mem_each (j := 5) rfl rfl n hn)
  have hC : Try.prog.cellsOf 138 = 18 := by kernel_rfl
  have k0 : Try.prog.cellsOf 5 = 1 := by kernel_rfl
  have k1 : Try.prog.cellsOf 133 = 10 := by kernel_rfl
  have k2 : Try.prog.cellsOf 23 = 1 := by kernel_rfl
  have k3 : Try.prog.cellsOf 134 = 1 := by kernel_rfl
  have k4 : Try.prog.cellsOf 135 = 2 := by kernel_rfl
  have k5 : Try.prog.cellsOf 136 = 1 := by kernel_rfl
  have k6 : Try.prog.cellsOf 38 = 2 := by kernel_rfl
  match cs, hl.trans hC with
  | [x0, x1, x2, x3, x4, x5, x6, x7, x8, x9, x10, x11, x12, x13, x14, x15, x16, x17], _ =>
    simp only [k0, k1, k2, k3, k4, k5, k6, List.drop_zero, List.take_succ_cons, List.take_zero, List.drop_succ_cons] at h0 h1 h2 h3 h4 h5 h6
    obtain ⟨kk, e0, _, _⟩ := DataW.trod_int Try.underlying5 h0
    obtain ⟨n', l', s', d', a0, a1, b0', b1, c0, c1, e1, _⟩ := I.open_cells h1
    obtain ⟨fl, e2, _, _⟩ := DataW.trod_int Try.underlying23 h2
    obtain ⟨A, X, c, e3, lc, cm, RX, bx, sx⟩ := open_parts5 h3 hw3
    obtain ⟨rc, rv, e4⟩ := open_res5 h4
    obtain ⟨B, Y, dd, e5, ld, dm, RY, bY, sy⟩ := open_writes5 h5 hw5
    obtain ⟨vn, vl, e6⟩ := open_proc5 h6
    simp only [List.cons.injEq, and_true] at e0 e1 e2 e3 e4 e5 e6
    obtain ⟨rfl, rfl, rfl, rfl, rfl, rfl, rfl, rfl, rfl, rfl⟩ := e1
    obtain ⟨rfl, rfl⟩ := e4
    obtain ⟨rfl, rfl⟩ := e6
    subst e0 e2 e3 e5
    exact ⟨⟨⟨kk, n', l', s', d', a0, a1, b0', b1, c0, c1, fl, rc, rv, vn, vl⟩, A, X, c, B, Y, dd⟩, rfl, RX, RY, bx, bY, lc, cm, ld, dm⟩
set_option maxRecDepth 100000 in
theorem open_entriesG {fuel : Nat} {cs : List Value} {y : DataW H × List MemPlace} (h : DataW.trod enc Try.prog w base spare held fuel 31 cs = some y) (hw : ∀ n ∈ y.1.weights Try.prog 31, n ≤ 140737488355328) :
    ∃ (A : Option Addr) (X : List Le) (c : Nat), cs = [.slice A X.length c] ∧ X.length ≤ c ∧ c ≤ maxLen ∧ RowsE w w.heap.size A X := by
  rcases open_slice Try.underlying31 h with ⟨rfl, h2⟩ | ⟨a, len, cap, m, n', D, Pl, rfl, hb, hl, hm, hmm, hx, hi⟩
  · exact ⟨none, [], 0, rfl, Nat.le_refl _, by unfold maxLen; omega, fun e => absurd rfl e⟩
  · have hC : Try.prog.cellsOf 138 = 18 := by kernel_rfl
    have hu := Try.underlying31
    have hlm : len ≤ m := by rw [hmm]; split <;> omega
    have each : ∀ i, ∃ q : Le, i < len → q.At w w.heap.size ∧ ∀ j u, q.cs[j]? = some u → w.cell? ((a.add (i * 18)).add j) = some u := by
      intro i
      by_cases hin : i < len
      · obtain ⟨cs', hc, ht⟩ := hi i (by omega)
        rw [hC] at hc
        obtain ⟨q, hq, hat'⟩ := open_entryG ht (fun n hn => hw n (by
          rw [hx]
          simp only [DataW.weights, hu, List.mem_cons, List.mem_append]
          exact .inr (.inl (weights_all (d := D i) (List.mem_map.2 ⟨i, List.mem_range.2 hin, rfl⟩) hn))))
        obtain ⟨_, hlen, hat⟩ := World.cells?_some hc
        refine ⟨q, fun _ => ⟨hat', fun j u hu => ?_⟩⟩
        have hj : j < 18 := (Array.getElem?_eq_some_iff.1 hu).1
        rw [hat j hj, hq, Array.getElem?_toList, hu]
      · exact ⟨⟨E0, none, [], 0, none, [], 0⟩, fun h => absurd h hin⟩
    obtain ⟨f, hf'⟩ := Classical.axiomOfChoice each
    have hlen : ((List.range len).map f).length = len := by simp
    have hget : ∀ i x, ((List.range len).map f)[i]? = some x → i < len ∧ x = f i := by
      intro i x hx
      have hi' : i < len := by
        have := (List.getElem?_eq_some_iff.1 hx).1
        simpa using this
      refine ⟨hi', ?_⟩
      simp [hi'] at hx
      exact hx.symm
    refine ⟨some a, (List.range len).map f, cap, by rw [hlen], by rw [hlen]; exact hl, hm, ?_⟩
    intro hne
    have hn : 0 < len := by
      rcases Nat.eq_zero_or_pos len with h | h
      · subst h; exact absurd rfl hne
      · exact h
    have h00 := (hf' 0 hn).2 0 _ rfl
    simp [Addr.add] at h00
    obtain ⟨b, o, rfl, hbl⟩ := cell_plain h00
    refine ⟨b, o, rfl, hbl, fun i x hx => ?_⟩
    obtain ⟨hi', rfl⟩ := hget i x hx
    refine ⟨fun j u hu => ?_, (hf' i hi').1⟩
    have hc := (hf' i hi').2 j u hu
    rwa [add_plain5, add_plain5] at hc
set_option maxRecDepth 100000 in
theorem open_procB {fuel : Nat} {cs : List Value} {x : DataW H × List MemPlace} (h : DataW.trod enc Try.prog w base spare held fuel 38 cs = some x) :
    ∃ p : P2, cs = (V.P2.cells p) ∧ Rg2 p := by
  obtain ⟨y0, y1, n, _, hl, h0, h1⟩ := trod_struct2 Try.underlying38 h
  have hC : Try.prog.cellsOf 38 = 2 := by kernel_rfl
  have hC5 : Try.prog.cellsOf 5 = 1 := by kernel_rfl
  have hC9 : Try.prog.cellsOf 36 = 1 := by kernel_rfl
  match cs, hl.trans hC with
  | [c0, c1], _ =>
      skip
      simp only [hC5, hC9, List.drop_zero, List.take_succ_cons, List.take_zero, List.drop_succ_cons, List.getElem?_cons_zero, List.getElem?_cons_succ] at h0 h1
      obtain ⟨g, e0, _, w0⟩ := DataW.trod_int Try.underlying5 h0
      obtain ⟨l, e2, _, w2⟩ := DataW.trod_int Try.underlying36 h1
      simp at e0 e2
      subst e0 e2
      exact ⟨⟨g, l⟩, rfl, bounds_u8 w0, bounds_u16 w2⟩
set_option maxRecDepth 100000 in
theorem open_procsB {fuel : Nat} {cs : List Value} {y : DataW H × List MemPlace} (h : DataW.trod enc Try.prog w base spare held fuel 30 cs = some y) (hw : ∀ n ∈ y.1.weights Try.prog 30, n ≤ 140737488355328) :
    ∃ (A : Option Addr) (X : List P2) (c : Nat), cs = [.slice A X.length c] ∧ X.length ≤ c ∧ c ≤ maxLen ∧ V.RowsV w w.heap.size A X ∧ X.length * 4 ≤ 140737488355328 ∧ ∀ x ∈ X, Rg2 x := by
  rcases open_slice Try.underlying30 h with ⟨rfl, h2⟩ | ⟨a, len, cap, m, n', D, Pl, rfl, hb, hl, hm, hmm, hx, hi⟩
  · exact ⟨none, [], 0, rfl, Nat.le_refl _, by unfold maxLen; omega, fun e => absurd rfl e, by simp, fun x hx => by cases hx⟩
  · have hC : Try.prog.cellsOf 38 = 2 := by kernel_rfl
    have hB : Try.prog.bytesOf 38 = 4 := by kernel_rfl
    have hu := Try.underlying30
    have he := Try.underlying38
    have hlm : len ≤ m := by rw [hmm]; split <;> omega
    have each : ∀ i, ∃ q : P2, i < len → Rg2 q ∧ ∀ j u, (V.P2.cells q)[j]? = some u → w.cell? ((a.add (i * 2)).add j) = some u := by
      intro i
      by_cases hin : i < len
      · obtain ⟨cs', hc, ht⟩ := hi i (by omega)
        rw [hC] at hc
        obtain ⟨q, hq, nb⟩ := open_procB ht
        obtain ⟨_, hlen, hat⟩ := World.cells?_some hc
        refine ⟨q, fun _ => ⟨nb, fun j u hu => ?_⟩⟩
        have hj : j < 2 := by
          have := (List.getElem?_eq_some_iff.1 hu).1
          simpa [V.P2.cells] using this
        rw [hat j hj, hq, hu]
      · exact ⟨⟨0, 0⟩, fun h => absurd h hin⟩
    obtain ⟨f, hf'⟩ := Classical.axiomOfChoice each
    have hlen : ((List.range len).map f).length = len := by simp
    have hget : ∀ i x, ((List.range len).map f)[i]? = some x → i < len ∧ x = f i := by
      intro i x hx
      have hi' : i < len := by
        have := (List.getElem?_eq_some_iff.1 hx).1
        simpa using this
      refine ⟨hi', ?_⟩
      simp [hi'] at hx
      exact hx.symm
    subst hx
    refine ⟨some a, (List.range len).map f, cap, by rw [hlen], by rw [hlen]; exact hl, hm, ?_, ?_, ?_⟩
    · intro hne
      have hn : 0 < len := by
        rcases Nat.eq_zero_or_pos len with h | h
        · subst h; exact absurd rfl hne
        · exact h
      have h00 := (hf' 0 hn).2 0 _ rfl
      simp [Addr.add] at h00
      obtain ⟨b, o, rfl, hbl⟩ := cell_plain h00
      refine ⟨b, o, rfl, hbl, fun i x hx => ?_⟩
      obtain ⟨hi', rfl⟩ := hget i x hx
      have hc := (hf' i hi').2
      have e : ∀ j, ((⟨b, o, none⟩ : Addr).add (i * 2)).add j = ⟨b, o + i * 2 + j, none⟩ := fun j => by rw [add_plain5, add_plain5]
      exact ⟨by have := hc 0 _ rfl; rw [e] at this; exact this, by have := hc 1 _ rfl; rw [e] at this; exact this⟩
    · rw [hlen]
      have := hw ((len + (m - len)) * 4) (by simp [DataW.weights, hu, hB])
      exact Nat.le_trans (Nat.mul_le_mul_right _ (Nat.le_add_right _ _)) this
    · intro x hx
      obtain ⟨i, hi', rfl⟩ := List.mem_map.1 hx
      have hil : i < len := by simpa using hi'
      exact (hf' i hil).1

/-- an act. -/
structure Ax where
  kd : Int
  b : Int
  p : P2
  TA : Option Addr
  T : List Le
  tc : Nat
  x : Vl
  has : Bool
def Ax.cs (a : Ax) : Array Value := #[.int .i64 a.kd, .int .u64 a.b, .int .u8 a.p.n, .int .u16 a.p.l, .slice a.TA a.T.length a.tc, a.x.m, a.x.t, .bool a.has]
/-- a value of an argument: where it lies. -/
structure Vl.In (x : Vl) (W : World) (B : Nat) : Prop where
  m : ∃ A c, x.m = .slice A x.X.length c ∧ V.RowsV W B A x.X ∧ x.X.length ≤ c ∧ c ≤ maxLen
  t : ∃ A c, x.t = .slice A x.L.length c ∧ RowsE W B A x.L ∧ x.L.length ≤ c ∧ c ≤ maxLen
theorem Vl.In.at_ {x : Vl} {W : World} {B : Nat} (h : x.In W B) (h1 : x.X.length ≤ 1000) (h2 : x.L.length ≤ 1000) : x.At W B := ⟨h.m, h.t, h1, h2⟩
theorem Vl.In.below {x : Vl} {W W' : World} {B B' C : Nat} (h : x.In W B) (hb : Below C W W') (hC : B ≤ C) (hB : B ≤ B') : x.In W' B' := by
  obtain ⟨A, c, e, h1, h2, h3⟩ := h.m
  obtain ⟨A', c', e', k1, k2, k3⟩ := h.t
  exact ⟨⟨A, c, e, h1.below hb hC hB, h2, h3⟩, ⟨A', c', e', k1.below hb hC hB, k2, k3⟩⟩
structure Ax.In (a : Ax) (W : World) (B : Nat) : Prop where
  kb : -9223372036854775808 ≤ a.kd ∧ a.kd ≤ 9223372036854775807
  bb : 0 ≤ a.b ∧ a.b ≤ 18446744073709551615
  rg : Rg2 a.p
  t : RowsE W B a.TA a.T
  tl : a.T.length ≤ a.tc
  tm : a.tc ≤ maxLen
  v : a.x.In W B
theorem Ax.In.below {a : Ax} {W W' : World} {B B' C : Nat} (h : a.In W B) (hb : Below C W W') (hC : B ≤ C) (hB : B ≤ B') : a.In W' B' :=
  ⟨h.kb, h.bb, h.rg, h.t.below hb hC hB, h.tl, h.tm, h.v.below hb hC hB⟩
theorem trod_two {P : Program} {fuel : Nat} {cs : List Value} {x : DataW H × List MemPlace} {t : TypeId} {f0 f1 : Field} (hs : P.underlying t = some (.struct #[f0, f1])) (h : DataW.trod enc P w base spare held fuel t cs = some x) :
    cs.length = P.cellsOf t ∧ ∃ (n : Nat) (y0 y1 : DataW H × List MemPlace),
      DataW.trod enc P w base spare held n f0.type ((cs.drop f0.offset).take (P.cellsOf f0.type)) = some y0 ∧
      DataW.trod enc P w base spare held n f1.type ((cs.drop f1.offset).take (P.cellsOf f1.type)) = some y1 ∧ x.1 = .agg [y0.1, y1.1] := by
  obtain ⟨xs, n, _, hx, hl, hxs, hg⟩ := DataW.trod_struct hs h
  refine ⟨hl, n, ?_⟩
  match xs, hxs with
  | [y0, y1], _ => exact ⟨y0, y1, hg 0 f0 rfl, hg 1 f1 rfl, by rw [hx]; rfl⟩
theorem trod_sixG {P : Program} {fuel : Nat} {cs : List Value} {x : DataW H × List MemPlace} {t : TypeId} {f0 f1 f2 f3 f4 f5 : Field} (hs : P.underlying t = some (.struct #[f0, f1, f2, f3, f4, f5])) (h : DataW.trod enc P w base spare held fuel t cs = some x) :
    cs.length = P.cellsOf t ∧ ∃ (n : Nat) (y0 y1 y2 y3 y4 y5 : DataW H × List MemPlace),
      DataW.trod enc P w base spare held n f0.type ((cs.drop f0.offset).take (P.cellsOf f0.type)) = some y0 ∧
      DataW.trod enc P w base spare held n f1.type ((cs.drop f1.offset).take (P.cellsOf f1.type)) = some y1 ∧
      DataW.trod enc P w base spare held n f2.type ((cs.drop f2.offset).take (P.cellsOf f2.type)) = some y2 ∧
      DataW.trod enc P w base spare held n f3.type ((cs.drop f3.offset).take (P.cellsOf f3.type)) = some y3 ∧
      DataW.trod enc P w base spare held n f4.type ((cs.drop f4.offset).take (P.cellsOf f4.type)) = some y4 ∧
      DataW.trod enc P w base spare held n f5.type ((cs.drop f5.offset).take (P.cellsOf f5.type)) = some y5 ∧ x.1 = .agg [y0.1, y1.1, y2.1, y3.1, y4.1, y5.1] := by
  obtain ⟨xs, n, _, hx, hl, hxs, hg⟩ := DataW.trod_struct hs h
  refine ⟨hl, n, ?_⟩
  match xs, hxs with
  | [y0, y1, y2, y3, y4, y5], _ => exact ⟨y0, y1, y2, y3, y4, y5, hg 0 f0 rfl, hg 1 f1 rfl, hg 2 f2 rfl, hg 3 f3 rfl, hg 4 f4 rfl, hg 5 f5 rfl, by rw [hx]; rfl⟩
set_option maxRecDepth 100000 in
theorem open_valG {fuel : Nat} {cs : List Value} {x : DataW H × List MemPlace} (h : DataW.trod enc Try.prog w base spare held fuel 33 cs = some x) (hw : ∀ n ∈ x.1.weights Try.prog 33, n ≤ 140737488355328) :
    ∃ v : Vl, cs = v.cs.toList ∧ v.In w w.heap.size := by
  obtain ⟨hl, n, y0, y1, h0, h1, hx⟩ := trod_two Try.underlying33 h
  have hu := Try.underlying33
  have hw0 : ∀ n ∈ y0.1.weights Try.prog 30, n ≤ 140737488355328 := fun n hn => hw n (by rw [hx]; simp only [DataW.weights, hu]; exact DataW.weights_mem_each (j := 0) rfl rfl n hn)
  have hw1 : ∀ n ∈ y1.1.weights Try.prog 31, n ≤ 140737488355328 := fun n hn => hw n (by rw [hx]; simp only [DataW.weights, hu]; exact DataW.weights_mem_each (j := 1) rfl rfl n hn)
  have hC : Try.prog.cellsOf 33 = 2 := by kernel_rfl
  have k0 : Try.prog.cellsOf 30 = 1 := by kernel_rfl
  have k1 : Try.prog.cellsOf 31 = 1 := by kernel_rfl
  match cs, hl.trans hC with
  | [x0, x1], _ =>
    simp only [k0, k1, List.drop_zero, List.take_succ_cons, List.take_zero, List.drop_succ_cons] at h0 h1
    obtain ⟨A, X, c, e0, a1, a2, a3, a4, a5⟩ := open_procsB h0 hw0
    obtain ⟨B, L, d, e1, b1, b2, b3⟩ := open_entriesG h1 hw1
    simp only [List.cons.injEq, and_true] at e0 e1
    subst e0 e1
    exact ⟨⟨.slice A X.length c, X, .slice B L.length d, L⟩, rfl, ⟨A, c, rfl, a3, a1, a2⟩, ⟨B, d, rfl, b3, b1, b2⟩⟩
set_option maxRecDepth 100000 in
theorem open_actG {fuel : Nat} {cs : List Value} {x : DataW H × List MemPlace} (h : DataW.trod enc Try.prog w base spare held fuel 40 cs = some x) (hw : ∀ n ∈ x.1.weights Try.prog 40, n ≤ 140737488355328) :
    ∃ a : Ax, cs = a.cs.toList ∧ a.In w w.heap.size := by
  obtain ⟨hl, n, y0, y1, y2, y3, y4, y5, h0, h1, h2, h3, h4, h5, hx⟩ := trod_sixG Try.underlying40 h
  have hu := Try.underlying40
  have hw3 : ∀ n ∈ y3.1.weights Try.prog 31, n ≤ 140737488355328 := fun n hn => hw n (by rw [hx]; simp only [DataW.weights, hu]; exact DataW.weights_mem_each (j := 3) rfl rfl n hn)
  have hw4 : ∀ n ∈ y4.1.weights Try.prog 33, n ≤ 140737488355328 := fun n hn => hw n (by rw [hx]; simp only [DataW.weights, hu]; exact DataW.weights_mem_each (j := 4) rfl rfl n hn)
  have hC : Try.prog.cellsOf 40 = 8 := by kernel_rfl
  have k0 : Try.prog.cellsOf 3 = 1 := by kernel_rfl
  have k1 : Try.prog.cellsOf 29 = 1 := by kernel_rfl
  have k2 : Try.prog.cellsOf 38 = 2 := by kernel_rfl
  have k3 : Try.prog.cellsOf 31 = 1 := by kernel_rfl
  have k4 : Try.prog.cellsOf 33 = 2 := by kernel_rfl
  have k5 : Try.prog.cellsOf 4 = 1 := by kernel_rfl
  match cs, hl.trans hC with
  | [x0, x1, x2, x3, x4, x5, x6, x7], _ =>
    simp only [k0, k1, k2, k3, k4, k5, List.drop_zero, List.take_succ_cons, List.take_zero, List.drop_succ_cons] at h0 h1 h2 h3 h4 h5
    obtain ⟨kd, e0, _, w0⟩ := DataW.trod_int Try.underlying3 h0
    obtain ⟨bb, e1, _, w1⟩ := DataW.trod_int Try.underlying29 h1
    obtain ⟨p, e2, rp⟩ := open_procB h2
    obtain ⟨TA, T, tc, e3, t1, t2, t3⟩ := open_entriesG h3 hw3
    obtain ⟨⟨vm, X, vt, L⟩, e4, hv⟩ := open_valG h4 hw4
    obtain ⟨hs, e5, _⟩ := DataW.trod_bool Try.underlying4 h5
    simp only [V.P2.cells, Vl.cs, List.cons.injEq, and_true] at e0 e1 e2 e3 e4 e5
    obtain ⟨rfl, rfl⟩ := e2
    obtain ⟨rfl, rfl⟩ := e4
    subst e0 e1 e3 e5
    exact ⟨⟨kd, bb, p, TA, T, tc, ⟨x5, X, x6, L⟩, hs⟩, rfl, bounds_i64 w0, bounds_u64 w1, rp, t3, t1, t2, hv⟩
set_option maxRecDepth 100000 in
/-- an act, as an argument. -/
theorem arg_actG {r : Reach} {b0 : Nat} {v : Value} {d : DataW H} {p : List MemPlace} (hv : Value.okWide Try.prog w r b0 40 v) (h : DataW.Trod enc Try.prog w base spare held 40 v d p) (hw : ∀ n ∈ d.weights Try.prog 40, n ≤ 140737488355328) :
    ∃ a : Ax, v = .agg a.cs ∧ a.In w w.heap.size := by
  obtain ⟨cs, rfl, _⟩ := okWide_struct Try.underlying40 hv
  obtain ⟨fuel, hf⟩ := h
  obtain ⟨a, e, ha⟩ := open_actG hf hw
  refine ⟨a, ?_, ha⟩
  have : cs = a.cs := by
    obtain ⟨l⟩ := cs
    exact congrArg Array.mk e
  rw [this]
end

end Go.Proofs.Ytmhgopaekpnhoaa
