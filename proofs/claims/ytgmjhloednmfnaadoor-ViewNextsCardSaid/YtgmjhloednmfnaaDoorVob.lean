/-
  A view of the document and a list of processes as arguments, with the bounds of their numbers. No condition.
-/
import Derived.Test.YtgmjhloednmfnaaDoorVprg
import Derived.Deep.Slices
import Derived.Deep.Fields
import Derived.Lib.SmallJoins
import Derived.OpenShut
namespace Go.Proofs.YtgmjhloednmfnaaDoor
set_option linter.unusedSimpArgs false
set_option linter.unusedVariables false
open Go.RowKit Go.ChangeShapes Go.WideShapes Go.Joins Go.Deep

theorem cell_plain {W : World} {a : Addr} {u : Value} (h : W.cell? a = some u) : ∃ b o, a = ⟨b, o, none⟩ ∧ b < W.heap.size := by
  have hl := World.block_lt_of_cell? W a h
  obtain ⟨b, o, s⟩ := a
  cases s with
  | none => exact ⟨b, o, rfl, hl⟩
  | some s =>
    exfalso
    simp only [World.cell?] at h
    split at h <;> simp at h
theorem add_plainV (b o n : Nat) : (⟨b, o, none⟩ : Addr).add n = ⟨b, o + n, none⟩ := by simp [Addr.add]
section
variable {H : Type} {enc : TypeId × Value → H} {w : World} {base : Nat} {spare : Nat → Bool} {held : Bool}
theorem trod_three {P : Program} {fuel : Nat} {cs : List Value} {x : DataW H × List MemPlace} {t : TypeId} {f0 f1 f2 : Field} (hs : P.underlying t = some (.struct #[f0, f1, f2])) (h : DataW.trod enc P w base spare held fuel t cs = some x) :
    cs.length = P.cellsOf t ∧ ∃ (n : Nat) (y0 y1 y2 : DataW H × List MemPlace),
      DataW.trod enc P w base spare held n f0.type ((cs.drop f0.offset).take (P.cellsOf f0.type)) = some y0 ∧
      DataW.trod enc P w base spare held n f1.type ((cs.drop f1.offset).take (P.cellsOf f1.type)) = some y1 ∧
      DataW.trod enc P w base spare held n f2.type ((cs.drop f2.offset).take (P.cellsOf f2.type)) = some y2 ∧ x.1 = .agg [y0.1, y1.1, y2.1] := by
  obtain ⟨xs, n, _, hx, hl, hxs, hg⟩ := DataW.trod_struct hs h
  refine ⟨hl, n, ?_⟩
  match xs, hxs with
  | [y0, y1, y2], _ => exact ⟨y0, y1, y2, hg 0 f0 rfl, hg 1 f1 rfl, hg 2 f2 rfl, by rw [hx]; rfl⟩
set_option maxRecDepth 100000 in
theorem open_procB {fuel : Nat} {cs : List Value} {x : DataW H × List MemPlace} (h : DataW.trod enc Tryd.prog w base spare held fuel 46 cs = some x) :
    ∃ p : P2, cs = p.cells ∧ p.Rng := by
  obtain ⟨y0, y1, n, _, hl, h0, h1⟩ := trod_struct2 Tryd.underlying46 h
  have hC : Tryd.prog.cellsOf 46 = 2 := by kernel_rfl
  have hC5 : Tryd.prog.cellsOf 5 = 1 := by kernel_rfl
  have hC9 : Tryd.prog.cellsOf 44 = 1 := by kernel_rfl
  match cs, hl.trans hC with
  | [c0, c1], _ =>
      skip
      simp only [hC5, hC9, List.drop_zero, List.take_succ_cons, List.take_zero, List.drop_succ_cons, List.getElem?_cons_zero, List.getElem?_cons_succ] at h0 h1
      obtain ⟨g, e0, _, w0⟩ := DataW.trod_int Tryd.underlying5 h0
      obtain ⟨l, e2, _, w2⟩ := DataW.trod_int Tryd.underlying44 h1
      simp at e0 e2
      subst e0 e2
      exact ⟨⟨g, l⟩, rfl, bounds_u8 w0, bounds_u16 w2⟩
set_option maxRecDepth 100000 in
theorem open_procsB {fuel : Nat} {cs : List Value} {y : DataW H × List MemPlace} (h : DataW.trod enc Tryd.prog w base spare held fuel 23 cs = some y) (hw : ∀ n ∈ y.1.weights Tryd.prog 23, n ≤ 140737488355328) :
    ∃ (A : Option Addr) (X : List P2) (c : Nat), cs = [.slice A X.length c] ∧ X.length ≤ c ∧ c ≤ maxLen ∧ RowsV w w.heap.size A X ∧ X.length * 4 ≤ 140737488355328 ∧ ∀ x ∈ X, x.Rng := by
  rcases open_slice Tryd.underlying23 h with ⟨rfl, h2⟩ | ⟨a, len, cap, m, n', D, Pl, rfl, hb, hl, hm, hmm, hx, hi⟩
  · exact ⟨none, [], 0, rfl, Nat.le_refl _, by unfold maxLen; omega, fun e => absurd rfl e, by simp, fun x hx => by cases hx⟩
  · have hC : Tryd.prog.cellsOf 46 = 2 := by kernel_rfl
    have hB : Tryd.prog.bytesOf 46 = 4 := by kernel_rfl
    have hu := Tryd.underlying23
    have he := Tryd.underlying46
    have hlm : len ≤ m := by rw [hmm]; split <;> omega
    have each : ∀ i, ∃ q : P2, i < len → q.Rng ∧ ∀ j u, q.cells[j]? = some u → w.cell? ((a.add (i * 2)).add j) = some u := by
      intro i
      by_cases hin : i < len
      · obtain ⟨cs', hc, ht⟩ := hi i (by omega)
        rw [hC] at hc
        obtain ⟨q, hq, nb⟩ := open_procB ht
        obtain ⟨_, hlen, hat⟩ := World.cells?_some hc
        refine ⟨q, fun _ => ⟨nb, fun j u hu => ?_⟩⟩
        have hj : j < 2 := by
          have := (List.getElem?_eq_some_iff.1 hu).1
          simpa [P2.cells] using this
        rw [hat j hj, hq, hu]
      · exact ⟨⟨0, 0⟩, fun h => absurd h hin⟩
    obtain ⟨f, hf'⟩ := Classical.axiomOfChoice each
    have hlen : ((List.range len).map f).length = len := by simp
    have hget : ∀ i x, ((List.range len).map f)[i]? = some x → i < len ∧ x = f i := by
      intro i x hx
      have hi' : i < len := by
        have := (List.getElem?_eq_some_iff.1 hx).1
        simpa using this
      refine ⟨hi', ?_⟩
      simp [hi'] at hx
      exact hx.symm
    subst hx
    refine ⟨some a, (List.range len).map f, cap, by rw [hlen], by rw [hlen]; exact hl, hm, ?_, ?_, ?_⟩
    · intro hne
      have hn : 0 < len := by
        rcases Nat.eq_zero_or_pos len with h | h
        · subst h; exact absurd rfl hne
        · exact h
      have h00 := (hf' 0 hn).2 0 _ rfl
      simp [Addr.add] at h00
      obtain ⟨b, o, rfl, hbl⟩ := cell_plain h00
      refine ⟨b, o, rfl, hbl, fun i x hx => ?_⟩
      obtain ⟨hi', rfl⟩ := hget i x hx
      have hc := (hf' i hi').2
      have e : ∀ j, ((⟨b, o, none⟩ : Addr).add (i * 2)).add j = ⟨b, o + i * 2 + j, none⟩ := fun j => by rw [add_plainV, add_plainV]
      exact ⟨by have := hc 0 _ rfl; rw [e] at this; exact this, by have := hc 1 _ rfl; rw [e] at this; exact this⟩
    · rw [hlen]
      have := hw ((len + (m - len)) * 4) (by simp [DataW.weights, hu, hB])
      exact Nat.le_trans (Nat.mul_le_mul_right _ (Nat.le_add_right _ _)) this
    · intro x hx
      obtain ⟨i, hi', rfl⟩ := List.mem_map.1 hx
      have hil : i < len := by simpa using hi'
      exact (hf' i hil).1

set_option maxRecDepth 100000 in
/-- a list of processes, as an argument. -/
theorem arg_procsB {r : Reach} {b0 : Nat} {v : Value} {d : DataW H} {p : List MemPlace} (hv : Value.okWide Tryd.prog w r b0 23 v) (h : DataW.Trod enc Tryd.prog w base spare held 23 v d p) (hw : ∀ n ∈ d.weights Tryd.prog 23, n ≤ 140737488355328) :
    ∃ (A : Option Addr) (X : List P2) (c : Nat), v = .slice A X.length c ∧ X.length ≤ c ∧ c ≤ maxLen ∧ RowsV w w.heap.size A X ∧ X.length * 4 ≤ 140737488355328 ∧ ∀ x ∈ X, x.Rng := by
  obtain ⟨A, n, c, rfl⟩ := okWide_slice Tryd.underlying23 hv
  obtain ⟨fuel, hf⟩ := h
  obtain ⟨A', X, c', e, h1⟩ := open_procsB hf hw
  simp [Value.cells] at e
  obtain ⟨rfl, rfl, rfl⟩ := e
  exact ⟨A, X, c, rfl, h1⟩
set_option maxRecDepth 100000 in
/-- a view of the document, as an argument. -/
theorem arg_viewB {r : Reach} {b0 : Nat} {v : Value} {d : DataW H} {p : List MemPlace} (hv : Value.okWide Tryd.prog w r b0 25 v) (h : DataW.Trod enc Tryd.prog w base spare held 25 v d p) (hw : ∀ n ∈ d.weights Tryd.prog 25, n ≤ 140737488355328) :
    ∃ (g N : Int) (A : Option Addr) (X : List P2) (c : Nat), v = .agg #[.int .u8 g, .int .u32 N, .slice A X.length c] ∧ (0 ≤ g ∧ g ≤ 255) ∧ (0 ≤ N ∧ N ≤ 4294967295) ∧ X.length ≤ c ∧ c ≤ maxLen ∧ RowsV w w.heap.size A X ∧ X.length * 4 ≤ 140737488355328 ∧ ∀ x ∈ X, x.Rng := by
  obtain ⟨cs, rfl, _⟩ := okWide_struct Tryd.underlying25 hv
  obtain ⟨fuel, hf⟩ := h
  obtain ⟨hl, n, y0, y1, y2, h0, h1, h2, hx⟩ := trod_three Tryd.underlying25 hf
  have hu := Tryd.underlying25
  have hd : d = .agg [y0.1, y1.1, y2.1] := hx
  have hw2 : ∀ n ∈ y2.1.weights Tryd.prog 23, n ≤ 140737488355328 := fun n hn => hw n (by rw [hd]; simp only [DataW.weights, hu]; exact DataW.weights_mem_each (j := 2) rfl rfl n hn)
  have hC : Tryd.prog.cellsOf 25 = 3 := by kernel_rfl
  have k0 : Tryd.prog.cellsOf 5 = 1 := by kernel_rfl
  have k1 : Tryd.prog.cellsOf 22 = 1 := by kernel_rfl
  have k2 : Tryd.prog.cellsOf 23 = 1 := by kernel_rfl
  obtain ⟨l⟩ := cs
  match l, hl.trans hC with
  | [x0, x1, x2], _ =>
    simp only [k0, k1, k2, Value.cells, List.drop_zero, List.take_succ_cons, List.take_zero, List.drop_succ_cons] at h0 h1 h2
    obtain ⟨g, e0, _, w0⟩ := DataW.trod_int Tryd.underlying5 h0
    obtain ⟨N, e1, _, w1⟩ := DataW.trod_int Tryd.underlying22 h1
    obtain ⟨A, X, c, e2, h9⟩ := open_procsB h2 hw2
    simp only [List.cons.injEq, and_true] at e0 e1 e2
    subst e0 e1 e2
    exact ⟨g, N, A, X, c, rfl, bounds_u8 w0, bounds_u32 w1, h9⟩
end
end Go.Proofs.YtgmjhloednmfnaaDoor
