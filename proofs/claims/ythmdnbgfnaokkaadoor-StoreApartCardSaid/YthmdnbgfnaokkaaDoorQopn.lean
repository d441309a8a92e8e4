/-
  The arguments of StoreApart: what they hold. No condition.
-/
import Derived.Test.YthmdnbgfnaokkaaDoorQenv
namespace Go.Proofs.YthmdnbgfnaokkaaDoor
set_option linter.unusedSimpArgs false
set_option linter.unusedVariables false
open Go.RowKit Go.ChangeShapes Go.WideShapes Go.Joins Go.Deep


section
variable {H : Type} {enc : TypeId × Value → H} {w : World} {base : Nat} {spare : Nat → Bool} {held : Bool}
theorem trod_five {P : Program} {fuel : Nat} {cs : List Value} {x : DataW H × List MemPlace} {t : TypeId} {f0 f1 f2 f3 f4 : Field} (hs : P.underlying t = some (.struct #[f0, f1, f2, f3, f4])) (h : DataW.trod enc P w base spare held fuel t cs = some x) :
    cs.length = P.cellsOf t ∧ ∃ (n : Nat) (y0 y1 y2 y3 y4 : DataW H × List MemPlace),
      DataW.trod enc P w base spare held n f0.type ((cs.drop f0.offset).take (P.cellsOf f0.type)) = some y0 ∧ DataW.trod enc P w base spare held n f1.type ((cs.drop f1.offset).take (P.cellsOf f1.type)) = some y1 ∧
      DataW.trod enc P w base spare held n f2.type ((cs.drop f2.offset).take (P.cellsOf f2.type)) = some y2 ∧ DataW.trod enc P w base spare held n f3.type ((cs.drop f3.offset).take (P.cellsOf f3.type)) = some y3 ∧
      DataW.trod enc P w base spare held n f4.type ((cs.drop f4.offset).take (P.cellsOf f4.type)) = some y4 ∧ x.1 = .agg [y0.1, y1.1, y2.1, y3.1, y4.1] := by
  obtain ⟨xs, n, _, hx, hl, hxs, hg⟩ := DataW.trod_struct hs h
  refine ⟨hl, n, ?_⟩
  match xs, hxs with
  | [y0, y1, y2, y3, y4], _ => exact ⟨y0, y1, y2, y3, y4, hg 0 f0 rfl, hg 1 f1 rfl, hg 2 f2 rfl, hg 3 f3 rfl, hg 4 f4 rfl, by rw [hx]; rfl⟩

structure P5 where
  g : Int
  k : Int
  key : ByteArray
  val : ByteArray
  n : Int
def P5.cells (p : P5) : List Value := [.int .u8 p.g, .int .u8 p.k, .string p.key, .string p.val, .int .i64 p.n]
def P5.dat {H : Type} (p : P5) : DataW H := .agg [.lit (.int .u8 p.g), .lit (.int .u8 p.k), .lit (.string p.key.data.toList), .lit (.string p.val.data.toList), .lit (.int .i64 p.n)]
set_option maxRecDepth 100000 in
theorem open_part {fuel : Nat} {cs : List Value} {x : DataW H × List MemPlace} (h : DataW.trod enc Tryd.prog w base spare held fuel 24 cs = some x) :
    ∃ p : P5, cs = p.cells ∧ 0 ≤ p.k ∧ p.n ≤ 9223372036854775807 ∧ x.1 = p.dat := by
  obtain ⟨hl, n, y0, y1, y2, y3, y4, h0, h1, h2, h3, h4, hx⟩ := trod_five Tryd.underlying24 h
  have hC : Tryd.prog.cellsOf 24 = 5 := by kernel_rfl
  have hC5 : Tryd.prog.cellsOf 5 = 1 := by kernel_rfl
  have hC9 : Tryd.prog.cellsOf 9 = 1 := by kernel_rfl
  have hC2 : Tryd.prog.cellsOf 2 = 1 := by kernel_rfl
  match cs, hl.trans hC with
  | [c0, c1, c2, c3, c4], _ =>
      skip
      simp only [hC5, hC9, hC2, List.drop_zero, List.take_succ_cons, List.take_zero, List.drop_succ_cons, List.getElem?_cons_zero, List.getElem?_cons_succ] at h0 h1 h2 h3 h4
      obtain ⟨g, e0, z0, w0⟩ := DataW.trod_int Tryd.underlying5 h0
      obtain ⟨k, e1, z1, w1⟩ := DataW.trod_int Tryd.underlying5 h1
      obtain ⟨key, e2, z2, w2⟩ := DataW.trod_string Tryd.underlying9 h2
      obtain ⟨val, e3, z3, w3⟩ := DataW.trod_string Tryd.underlying9 h3
      obtain ⟨m, e4, z4, w4⟩ := DataW.trod_int Tryd.underlying2 h4
      simp at e0 e1 e2 e3 e4
      subst e0 e1 e2 e3 e4
      exact ⟨⟨g, k, key, val, m⟩, rfl, (bounds_u8 w1).1, (bounds_i64 w4).2, by rw [hx]; simp [P5.dat, z0, z1, z2, z3, z4]⟩
set_option maxRecDepth 100000 in
theorem arg_part {r : Reach} {b0 : Nat} {v : Value} {d : DataW H} {p : List MemPlace} (hv : Value.okWide Tryd.prog w r b0 24 v) (h : DataW.Trod enc Tryd.prog w base spare held 24 v d p) :
    ∃ x : P5, v = .agg #[.int .u8 x.g, .int .u8 x.k, .string x.key, .string x.val, .int .i64 x.n] ∧ 0 ≤ x.k ∧ x.n ≤ 9223372036854775807 ∧ d = x.dat := by
  obtain ⟨cs, rfl, _⟩ := okWide_struct Tryd.underlying24 hv
  obtain ⟨fuel, hf⟩ := h
  obtain ⟨x, hx, R1, R2, hd⟩ := open_part hf
  refine ⟨x, ?_, R1, R2, hd⟩
  obtain ⟨l⟩ := cs
  have : l = x.cells := by simpa [Value.cells] using hx
  rw [this]
  rfl
theorem part_size {ts : List TypeId} {ds : List (DataW H)} (h : (DataW.weightsEach Tryd.prog ts ds).all (· ≤ reachBytes) = true) {j : Nat} {x : P5} (ht : ts[j]? = some 24) (hd : ds[j]? = some x.dat) : x.key.size ≤ 140737488355328 ∧ x.val.size ≤ 140737488355328 := by
  have hu := Tryd.underlying24
  have e : reachBytes = 140737488355328 - 4096 := by decide
  constructor
  · have := List.all_eq_true.1 h _ (DataW.weights_mem_each ht hd x.key.size (by simp [P5.dat, DataW.weights, hu, DataW.weightsEach]))
    rw [e] at this
    simp at this
    omega
  · have := List.all_eq_true.1 h _ (DataW.weights_mem_each ht hd x.val.size (by simp [P5.dat, DataW.weights, hu, DataW.weightsEach]))
    rw [e] at this
    simp at this
    omega

theorem cell_plain {W : World} {a : Addr} {u : Value} (h : W.cell? a = some u) : ∃ b o, a = ⟨b, o, none⟩ ∧ b < W.heap.size := by
  have hl := World.block_lt_of_cell? W a h
  obtain ⟨b, o, s⟩ := a
  cases s with
  | none => exact ⟨b, o, rfl, hl⟩
  | some s =>
    exfalso
    simp only [World.cell?] at h
    split at h <;> simp at h
theorem add_plain3 (b o n : Nat) : (⟨b, o, none⟩ : Addr).add n = ⟨b, o + n, none⟩ := by
  unfold Addr.add
  by_cases h : n = 0 <;> simp [h]
theorem trod_three {P : Program} {fuel : Nat} {cs : List Value} {x : DataW H × List MemPlace} {t : TypeId} {f0 f1 f2 : Field} (hs : P.underlying t = some (.struct #[f0, f1, f2])) (h : DataW.trod enc P w base spare held fuel t cs = some x) :
    cs.length = P.cellsOf t ∧ ∃ (n : Nat) (y0 y1 y2 : DataW H × List MemPlace),
      DataW.trod enc P w base spare held n f0.type ((cs.drop f0.offset).take (P.cellsOf f0.type)) = some y0 ∧ DataW.trod enc P w base spare held n f1.type ((cs.drop f1.offset).take (P.cellsOf f1.type)) = some y1 ∧
      DataW.trod enc P w base spare held n f2.type ((cs.drop f2.offset).take (P.cellsOf f2.type)) = some y2 := by
  obtain ⟨xs, n, _, _, hl, hxs, hg⟩ := DataW.trod_struct hs h
  refine ⟨hl, n, ?_⟩
  match xs, hxs with
  | [y0, y1, y2], _ => exact ⟨y0, y1, y2, hg 0 f0 rfl, hg 1 f1 rfl, hg 2 f2 rfl⟩
instance : Inhabited W3 := ⟨⟨ByteArray.empty, ByteArray.empty, false⟩⟩
set_option maxRecDepth 100000 in
theorem open_write {fuel : Nat} {cs : List Value} {x : DataW H × List MemPlace} (h : DataW.trod enc Tryd.prog w base spare held fuel 79 cs = some x) :
    ∃ p : W3, cs = p.cells := by
  obtain ⟨hl, n, y0, y1, y2, h0, h1, h2⟩ := trod_three Tryd.underlying79 h
  have hC : Tryd.prog.cellsOf 79 = 3 := by kernel_rfl
  have hC9 : Tryd.prog.cellsOf 9 = 1 := by kernel_rfl
  have hC4 : Tryd.prog.cellsOf 4 = 1 := by kernel_rfl
  match cs, hl.trans hC with
  | [c0, c1, c2], _ =>
      skip
      simp only [hC9, hC4, List.drop_zero, List.take_succ_cons, List.take_zero, List.drop_succ_cons, List.getElem?_cons_zero, List.getElem?_cons_succ] at h0 h1 h2
      obtain ⟨key, e0, _, w2⟩ := DataW.trod_string Tryd.underlying9 h0
      obtain ⟨val, e1, _, w3⟩ := DataW.trod_string Tryd.underlying9 h1
      obtain ⟨m, e2, _⟩ := DataW.trod_bool Tryd.underlying4 h2
      simp at e0 e1 e2
      subst e0 e1 e2
      exact ⟨⟨key, val, m⟩, rfl⟩
set_option maxRecDepth 100000 in
/-- a list of writes as an argument. -/
theorem arg_writes {v : Value} {d : DataW H} {p : List MemPlace} {r : Reach} {b0 : Nat} (hv : Value.okWide Tryd.prog w r b0 22 v) (h : DataW.Trod enc Tryd.prog w base spare held 22 v d p) :
    ∃ (A : Option Addr) (X : List W3) (c : Nat), v = .slice A X.length c ∧ X.length ≤ c ∧ c ≤ maxLen ∧ RowsW w w.heap.size A X := by
  obtain ⟨A, n, c, rfl⟩ := okWide_slice Tryd.underlying22 hv
  obtain ⟨fuel, hf⟩ := h
  rcases open_slice Tryd.underlying22 hf with ⟨h1, h2⟩ | ⟨a, len, cap, m, n', D, Pl, hcs, hb, hl, hm, hmm, hx, hi⟩
  · simp [Value.cells] at h1
    obtain ⟨rfl, rfl, rfl⟩ := h1
    exact ⟨none, [], 0, rfl, Nat.le_refl _, by unfold maxLen; omega, fun e => absurd rfl e⟩
  · simp [Value.cells] at hcs
    obtain ⟨rfl, rfl, rfl⟩ := hcs
    have hC : Tryd.prog.cellsOf 79 = 3 := by kernel_rfl
    have hlm : n ≤ m := by rw [hmm]; split <;> omega
    have each : ∀ i, ∃ q : W3, i < n → ∀ j u, q.cells[j]? = some u → w.cell? ((a.add (i * 3)).add j) = some u := by
      intro i
      by_cases hin : i < n
      · obtain ⟨cs', hc, ht⟩ := hi i (by omega)
        rw [hC] at hc
        obtain ⟨q, hq⟩ := open_write ht
        obtain ⟨_, hlen, hat⟩ := World.cells?_some hc
        refine ⟨q, fun _ j u hu => ?_⟩
        have hj : j < 3 := by
          have := (List.getElem?_eq_some_iff.1 hu).1
          simpa [W3.cells] using this
        rw [hat j hj, hq, hu]
      · exact ⟨default, fun h => absurd h hin⟩
    obtain ⟨f, hf'⟩ := Classical.axiomOfChoice each
    have hlen : ((List.range n).map f).length = n := by simp
    have hget : ∀ i x, ((List.range n).map f)[i]? = some x → i < n ∧ x = f i := by
      intro i x hx
      have hi' : i < n := by
        have := (List.getElem?_eq_some_iff.1 hx).1
        simpa using this
      refine ⟨hi', ?_⟩
      simp [hi'] at hx
      exact hx.symm
    refine ⟨some a, (List.range n).map f, c, by rw [hlen], by rw [hlen]; exact hl, hm, ?_⟩
    intro hne
    have hn : 0 < n := by
      rcases Nat.eq_zero_or_pos n with h | h
      · subst h; exact absurd rfl hne
      · exact h
    have h00 := (hf' 0 hn) 0 _ rfl
    simp [Addr.add] at h00
    obtain ⟨b, o, rfl, hbl⟩ := cell_plain h00
    refine ⟨b, o, rfl, hbl, fun i x hx => ?_⟩
    obtain ⟨hi', rfl⟩ := hget i x hx
    have hc := (hf' i hi')
    have e : ∀ j, ((⟨b, o, none⟩ : Addr).add (i * 3)).add j = ⟨b, o + i * 3 + j, none⟩ := fun j => by rw [add_plain3, add_plain3]
    exact ⟨by have := hc 0 _ rfl; rw [e] at this; exact this, by have := hc 1 _ rfl; rw [e] at this; exact this, by have := hc 2 _ rfl; rw [e] at this; exact this⟩
end
end Go.Proofs.YthmdnbgfnaokkaaDoor
