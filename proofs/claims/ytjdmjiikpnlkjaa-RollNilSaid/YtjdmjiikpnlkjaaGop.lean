/-
  An entry of the document as an argument: what it holds, how long its lists and texts are. The table of the powers of ten out of what the row lists. No condition.
-/
import Derived.Test.YtjdmjiikpnlkjaaEbas
import Derived.Deep.Slices
import Derived.Deep.Fields
import Derived.Lib.SmallJoins
import Derived.OpenShut
import Derived.MakeChecks
import Derived.SizedLaws
namespace Go.Proofs.Ytjdmjiikpnlkjaa
set_option linter.unusedSimpArgs false
set_option linter.unusedVariables false
open Go.RowKit Go.ChangeShapes Go.WideShapes Go.Joins Go.Deep

section
variable {H : Type} {enc : TypeId × Value → H} {w : World} {base : Nat} {spare : Nat → Bool} {held : Bool}
theorem trod_five {P : Program} {fuel : Nat} {cs : List Value} {x : DataW H × List MemPlace} {t : TypeId} {f0 f1 f2 f3 f4 : Field} (hs : P.underlying t = some (.struct #[f0, f1, f2, f3, f4])) (h : DataW.trod enc P w base spare held fuel t cs = some x) :
    cs.length = P.cellsOf t ∧ ∃ (n : Nat) (y0 y1 y2 y3 y4 : DataW H × List MemPlace),
      DataW.trod enc P w base spare held n f0.type ((cs.drop f0.offset).take (P.cellsOf f0.type)) = some y0 ∧ DataW.trod enc P w base spare held n f1.type ((cs.drop f1.offset).take (P.cellsOf f1.type)) = some y1 ∧
      DataW.trod enc P w base spare held n f2.type ((cs.drop f2.offset).take (P.cellsOf f2.type)) = some y2 ∧ DataW.trod enc P w base spare held n f3.type ((cs.drop f3.offset).take (P.cellsOf f3.type)) = some y3 ∧
      DataW.trod enc P w base spare held n f4.type ((cs.drop f4.offset).take (P.cellsOf f4.type)) = some y4 ∧ x.1 = .agg [y0.1, y1.1, y2.1, y3.1, y4.1] := by
  obtain ⟨xs, n, _, hx, hl, hxs, hg⟩ := DataW.trod_struct hs h
  refine ⟨hl, n, ?_⟩
  match xs, hxs with
  | [y0, y1, y2, y3, y4], _ => exact ⟨y0, y1, y2, y3, y4, hg 0 f0 rfl, hg 1 f1 rfl, hg 2 f2 rfl, hg 3 f3 rfl, hg 4 f4 rfl, by rw [hx]; rfl⟩

theorem trod_three {P : Program} {fuel : Nat} {cs : List Value} {x : DataW H × List MemPlace} {t : TypeId} {f0 f1 f2 : Field} (hs : P.underlying t = some (.struct #[f0, f1, f2])) (h : DataW.trod enc P w base spare held fuel t cs = some x) :
    cs.length = P.cellsOf t ∧ ∃ (n : Nat) (y0 y1 y2 : DataW H × List MemPlace),
      DataW.trod enc P w base spare held n f0.type ((cs.drop f0.offset).take (P.cellsOf f0.type)) = some y0 ∧
      DataW.trod enc P w base spare held n f1.type ((cs.drop f1.offset).take (P.cellsOf f1.type)) = some y1 ∧
      DataW.trod enc P w base spare held n f2.type ((cs.drop f2.offset).take (P.cellsOf f2.type)) = some y2 ∧ x.1 = .agg [y0.1, y1.1, y2.1] := by
  obtain ⟨xs, n, _, hx, hl, hxs, hg⟩ := DataW.trod_struct hs h
  refine ⟨hl, n, ?_⟩
  match xs, hxs with
  | [y0, y1, y2], _ => exact ⟨y0, y1, y2, hg 0 f0 rfl, hg 1 f1 rfl, hg 2 f2 rfl, by rw [hx]; rfl⟩
theorem trod_seven {P : Program} {fuel : Nat} {cs : List Value} {x : DataW H × List MemPlace} {t : TypeId} {f0 f1 f2 f3 f4 f5 f6 : Field} (hs : P.underlying t = some (.struct #[f0, f1, f2, f3, f4, f5, f6])) (h : DataW.trod enc P w base spare held fuel t cs = some x) :
    cs.length = P.cellsOf t ∧ ∃ (n : Nat) (y0 y1 y2 y3 y4 y5 y6 : DataW H × List MemPlace),
      DataW.trod enc P w base spare held n f0.type ((cs.drop f0.offset).take (P.cellsOf f0.type)) = some y0 ∧
      DataW.trod enc P w base spare held n f1.type ((cs.drop f1.offset).take (P.cellsOf f1.type)) = some y1 ∧
      DataW.trod enc P w base spare held n f2.type ((cs.drop f2.offset).take (P.cellsOf f2.type)) = some y2 ∧
      DataW.trod enc P w base spare held n f3.type ((cs.drop f3.offset).take (P.cellsOf f3.type)) = some y3 ∧
      DataW.trod enc P w base spare held n f4.type ((cs.drop f4.offset).take (P.cellsOf f4.type)) = some y4 ∧
      DataW.trod enc P w base spare held n f5.type ((cs.drop f5.offset).take (P.cellsOf f5.type)) = some y5 ∧
      DataW.trod enc P w base spare held n f6.type ((cs.drop f6.offset).take (P.cellsOf f6.type)) = some y6 ∧
 x.1 = .agg [y0.1, y1.1, y2.1, y3.1, y4.1, y5.1, y6.1] := by
  obtain ⟨xs, n, _, hx, hl, hxs, hg⟩ := DataW.trod_struct hs h
  refine ⟨hl, n, ?_⟩
  match xs, hxs with
  | [y0, y1, y2, y3, y4, y5, y6], _ => exact ⟨y0, y1, y2, y3, y4, y5, y6, hg 0 f0 rfl, hg 1 f1 rfl, hg 2 f2 rfl, hg 3 f3 rfl, hg 4 f4 rfl, hg 5 f5 rfl, hg 6 f6 rfl, by rw [hx]; rfl⟩
def P5.dat (p : P5) : DataW H := .agg [.lit (.int .u8 p.g), .lit (.int .u8 p.k), .lit (.string p.key.data.toList), .lit (.string p.val.data.toList), .lit (.int .i64 p.n)]
def W3.dat (p : W3) : DataW H := .agg [.lit (.string p.key.data.toList), .lit (.string p.val.data.toList), .lit (.bool p.has)]
set_option maxRecDepth 100000 in
theorem open_part {fuel : Nat} {cs : List Value} {x : DataW H × List MemPlace} (h : DataW.trod enc Try.prog w base spare held fuel 134 cs = some x) :
    ∃ p : P5, cs = p.cells ∧ 0 ≤ p.k ∧ p.n ≤ 9223372036854775807 ∧ x.1 = p.dat := by
  obtain ⟨hl, n, y0, y1, y2, y3, y4, h0, h1, h2, h3, h4, hx⟩ := trod_five Try.underlying134 h
  have hC : Try.prog.cellsOf 134 = 5 := by kernel_rfl
  have hC5 : Try.prog.cellsOf 5 = 1 := by kernel_rfl
  have hC9 : Try.prog.cellsOf 9 = 1 := by kernel_rfl
  have hC2 : Try.prog.cellsOf 2 = 1 := by kernel_rfl
  match cs, hl.trans hC with
  | [c0, c1, c2, c3, c4], _ =>
      skip
      simp only [hC5, hC9, hC2, List.drop_zero, List.take_succ_cons, List.take_zero, List.drop_succ_cons, List.getElem?_cons_zero, List.getElem?_cons_succ] at h0 h1 h2 h3 h4
      obtain ⟨g, e0, z0, w0⟩ := DataW.trod_int Try.underlying5 h0
      obtain ⟨k, e1, z1, w1⟩ := DataW.trod_int Try.underlying5 h1
      obtain ⟨key, e2, z2, w2⟩ := DataW.trod_string Try.underlying9 h2
      obtain ⟨val, e3, z3, w3⟩ := DataW.trod_string Try.underlying9 h3
      obtain ⟨m, e4, z4, w4⟩ := DataW.trod_int Try.underlying2 h4
      simp at e0 e1 e2 e3 e4
      subst e0 e1 e2 e3 e4
      exact ⟨⟨g, k, key, val, m⟩, rfl, (bounds_u8 w1).1, (bounds_i64 w4).2, by rw [hx]; simp [P5.dat, z0, z1, z2, z3, z4]⟩
set_option maxRecDepth 100000 in
theorem open_write {fuel : Nat} {cs : List Value} {x : DataW H × List MemPlace} (h : DataW.trod enc Try.prog w base spare held fuel 120 cs = some x) :
    ∃ p : W3, cs = p.cells ∧ x.1 = p.dat := by
  obtain ⟨hl, n, y0, y1, y2, h0, h1, h2, hx⟩ := trod_three Try.underlying120 h
  have hC : Try.prog.cellsOf 120 = 3 := by kernel_rfl
  have hC9 : Try.prog.cellsOf 9 = 1 := by kernel_rfl
  have hC4 : Try.prog.cellsOf 4 = 1 := by kernel_rfl
  match cs, hl.trans hC with
  | [c0, c1, c2], _ =>
      skip
      simp only [hC9, hC4, List.drop_zero, List.take_succ_cons, List.take_zero, List.drop_succ_cons, List.getElem?_cons_zero, List.getElem?_cons_succ] at h0 h1 h2
      obtain ⟨key, e0, z0, w2⟩ := DataW.trod_string Try.underlying9 h0
      obtain ⟨val, e1, z1, w3⟩ := DataW.trod_string Try.underlying9 h1
      obtain ⟨m, e2, z2⟩ := DataW.trod_bool Try.underlying4 h2
      simp at e0 e1 e2
      subst e0 e1 e2
      exact ⟨⟨key, val, m⟩, rfl, by rw [hx]; simp [W3.dat, z0, z1, z2]⟩
theorem cell_plain {W : World} {a : Addr} {u : Value} (h : W.cell? a = some u) : ∃ b o, a = ⟨b, o, none⟩ ∧ b < W.heap.size := by
  have hl := World.block_lt_of_cell? W a h
  obtain ⟨b, o, s⟩ := a
  cases s with
  | none => exact ⟨b, o, rfl, hl⟩
  | some s =>
    exfalso
    simp only [World.cell?] at h
    split at h <;> simp at h
theorem add_plain5 (b o n : Nat) : (⟨b, o, none⟩ : Addr).add n = ⟨b, o + n, none⟩ := by
  unfold Addr.add
  by_cases h : n = 0 <;> simp [h]

set_option maxRecDepth 100000 in
theorem weights_all {P : Program} {e : TypeId} : ∀ {l : List (DataW H)} {d : DataW H} {n : Nat}, d ∈ l → n ∈ d.weights P e → n ∈ DataW.weightsAll P e l
  | d0 :: l, d, n, hd, hn => by
    simp only [DataW.weightsAll, List.mem_append]
    rcases List.mem_cons.1 hd with rfl | h
    · exact .inl hn
    · exact .inr (weights_all h hn)

set_option maxRecDepth 100000 in
theorem open_parts5 {fuel : Nat} {cs : List Value} {y : DataW H × List MemPlace} (h : DataW.trod enc Try.prog w base spare held fuel 99 cs = some y) (hw : ∀ n ∈ y.1.weights Try.prog 99, n ≤ 140737488355328) :
    ∃ (A : Option Addr) (X : List P5) (c : Nat), cs = [.slice A X.length c] ∧ X.length ≤ c ∧ c ≤ maxLen ∧ RowsP w w.heap.size A X ∧ X.length * 48 ≤ 140737488355328 ∧ ∀ x ∈ X, x.key.size ≤ 140737488355328 := by
  rcases open_slice Try.underlying99 h with ⟨rfl, h2⟩ | ⟨a, len, cap, m, n', D, Pl, rfl, hb, hl, hm, hmm, hx, hi⟩
  · exact ⟨none, [], 0, rfl, Nat.le_refl _, by unfold maxLen; omega, fun e => absurd rfl e, by simp, fun x hx => by cases hx⟩
  · have hC : Try.prog.cellsOf 134 = 5 := by kernel_rfl
    have hB : Try.prog.bytesOf 134 = 48 := by kernel_rfl
    have hu := Try.underlying99
    have he := Try.underlying134
    have hlm : len ≤ m := by rw [hmm]; split <;> omega
    have each : ∀ i, ∃ q : P5, i < len → D i = q.dat ∧ ∀ j u, q.cells[j]? = some u → w.cell? ((a.add (i * 5)).add j) = some u := by
      intro i
      by_cases hin : i < len
      · obtain ⟨cs', hc, ht⟩ := hi i (by omega)
        rw [hC] at hc
        obtain ⟨q, hq, _, _, hd⟩ := open_part ht
        obtain ⟨_, hlen, hat⟩ := World.cells?_some hc
        refine ⟨q, fun _ => ⟨hd, fun j u hu => ?_⟩⟩
        have hj : j < 5 := by
          have := (List.getElem?_eq_some_iff.1 hu).1
          simpa [P5.cells] using this
        rw [hat j hj, hq, hu]
      · exact ⟨⟨0, 0, ByteArray.empty, ByteArray.empty, 0⟩, fun h => absurd h hin⟩
    obtain ⟨f, hf'⟩ := Classical.axiomOfChoice each
    have hlen : ((List.range len).map f).length = len := by simp
    have hget : ∀ i x, ((List.range len).map f)[i]? = some x → i < len ∧ x = f i := by
      intro i x hx
      have hi' : i < len := by
        have := (List.getElem?_eq_some_iff.1 hx).1
        simpa using this
      refine ⟨hi', ?_⟩
      simp [hi'] at hx
      exact hx.symm
    subst hx
    refine ⟨some a, (List.range len).map f, cap, by rw [hlen], by rw [hlen]; exact hl, hm, ?_, ?_, ?_⟩
    · intro hne
      have hn : 0 < len := by
        rcases Nat.eq_zero_or_pos len with h | h
        · subst h; exact absurd rfl hne
        · exact h
      have h00 := (hf' 0 hn).2 0 _ rfl
      simp [Addr.add] at h00
      obtain ⟨b, o, rfl, hbl⟩ := cell_plain h00
      refine ⟨b, o, rfl, hbl, fun i x hx => ?_⟩
      obtain ⟨hi', rfl⟩ := hget i x hx
      have hc := (hf' i hi').2
      have e : ∀ j, ((⟨b, o, none⟩ : Addr).add (i * 5)).add j = ⟨b, o + i * 5 + j, none⟩ := fun j => by rw [add_plain5, add_plain5]
      exact ⟨by have := hc 0 _ rfl; rw [e] at this; exact this, by have := hc 1 _ rfl; rw [e] at this; exact this, by have := hc 2 _ rfl; rw [e] at this; exact this, by have := hc 3 _ rfl; rw [e] at this; exact this, by have := hc 4 _ rfl; rw [e] at this; exact this⟩
    · rw [hlen]
      have := hw ((len + (m - len)) * 48) (by simp [DataW.weights, hu, hB])
      exact Nat.le_trans (Nat.mul_le_mul_right _ (Nat.le_add_right _ _)) this
    · intro x hx
      obtain ⟨i, hi', rfl⟩ := List.mem_map.1 hx
      have hil : i < len := by simpa using hi'
      refine hw _ ?_
      simp only [DataW.weights, hu, List.mem_cons, List.mem_append]
      refine .inr (.inl (weights_all (d := (f i).dat) (List.mem_map.2 ⟨i, hi', (hf' i hil).1⟩) ?_))
      clear hf' hget hlen hi hmm hw hlm
      generalize f i = q
      simp [P5.dat, DataW.weights, he, DataW.weightsEach]

set_option maxRecDepth 100000 in
theorem open_writes5 {fuel : Nat} {cs : List Value} {y : DataW H × List MemPlace} (h : DataW.trod enc Try.prog w base spare held fuel 101 cs = some y) (hw : ∀ n ∈ y.1.weights Try.prog 101, n ≤ 140737488355328) :
    ∃ (A : Option Addr) (X : List W3) (c : Nat), cs = [.slice A X.length c] ∧ X.length ≤ c ∧ c ≤ maxLen ∧ RowsW w w.heap.size A X ∧ X.length * 40 ≤ 140737488355328 ∧ ∀ x ∈ X, x.val.size ≤ 140737488355328 := by
  rcases open_slice Try.underlying101 h with ⟨rfl, h2⟩ | ⟨a, len, cap, m, n', D, Pl, rfl, hb, hl, hm, hmm, hx, hi⟩
  · exact ⟨none, [], 0, rfl, Nat.le_refl _, by unfold maxLen; omega, fun e => absurd rfl e, by simp, fun x hx => by cases hx⟩
  · have hC : Try.prog.cellsOf 120 = 3 := by kernel_rfl
    have hB : Try.prog.bytesOf 120 = 40 := by kernel_rfl
    have hu := Try.underlying101
    have he := Try.underlying120
    have hlm : len ≤ m := by rw [hmm]; split <;> omega
    have each : ∀ i, ∃ q : W3, i < len → D i = q.dat ∧ ∀ j u, q.cells[j]? = some u → w.cell? ((a.add (i * 3)).add j) = some u := by
      intro i
      by_cases hin : i < len
      · obtain ⟨cs', hc, ht⟩ := hi i (by omega)
        rw [hC] at hc
        obtain ⟨q, hq, hd⟩ := open_write ht
        obtain ⟨_, hlen, hat⟩ := World.cells?_some hc
        refine ⟨q, fun _ => ⟨hd, fun j u hu => ?_⟩⟩
        have hj : j < 3 := by
          have := (List.getElem?_eq_some_iff.1 hu).1
          simpa [W3.cells] using this
        rw [hat j hj, hq, hu]
      · exact ⟨⟨ByteArray.empty, ByteArray.empty, false⟩, fun h => absurd h hin⟩
    obtain ⟨f, hf'⟩ := Classical.axiomOfChoice each
    have hlen : ((List.range len).map f).length = len := by simp
    have hget : ∀ i x, ((List.range len).map f)[i]? = some x → i < len ∧ x = f i := by
      intro i x hx
      have hi' : i < len := by
        have := (List.getElem?_eq_some_iff.1 hx).1
        simpa using this
      refine ⟨hi', ?_⟩
      simp [hi'] at hx
      exact hx.symm
    subst hx
    refine ⟨some a, (List.range len).map f, cap, by rw [hlen], by rw [hlen]; exact hl, hm, ?_, ?_, ?_⟩
    · intro hne
      have hn : 0 < len := by
        rcases Nat.eq_zero_or_pos len with h | h
        · subst h; exact absurd rfl hne
        · exact h
      have h00 := (hf' 0 hn).2 0 _ rfl
      simp [Addr.add] at h00
      obtain ⟨b, o, rfl, hbl⟩ := cell_plain h00
      refine ⟨b, o, rfl, hbl, fun i x hx => ?_⟩
      obtain ⟨hi', rfl⟩ := hget i x hx
      have hc := (hf' i hi').2
      have e : ∀ j, ((⟨b, o, none⟩ : Addr).add (i * 3)).add j = ⟨b, o + i * 3 + j, none⟩ := fun j => by rw [add_plain5, add_plain5]
      exact ⟨by have := hc 0 _ rfl; rw [e] at this; exact this, by have := hc 1 _ rfl; rw [e] at this; exact this, by have := hc 2 _ rfl; rw [e] at this; exact this⟩
    · rw [hlen]
      have := hw ((len + (m - len)) * 40) (by simp [DataW.weights, hu, hB])
      exact Nat.le_trans (Nat.mul_le_mul_right _ (Nat.le_add_right _ _)) this
    · intro x hx
      obtain ⟨i, hi', rfl⟩ := List.mem_map.1 hx
      have hil : i < len := by simpa using hi'
      refine hw _ ?_
      simp only [DataW.weights, hu, List.mem_cons, List.mem_append]
      refine .inr (.inl (weights_all (d := (f i).dat) (List.mem_map.2 ⟨i, hi', (hf' i hil).1⟩) ?_))
      clear hf' hget hlen hi hmm hw hlm
      generalize f i = q
      simp [W3.dat, DataW.weights, he, DataW.weightsEach]

set_option maxRecDepth 100000 in
theorem open_res5 {fuel : Nat} {cs : List Value} {x : DataW H × List MemPlace} (h : DataW.trod enc Try.prog w base spare held fuel 100 cs = some x) :
    ∃ (c : Int) (v : ByteArray), cs = [.int .u8 c, .string v] := by
  obtain ⟨y0, y1, n, _, hl, h0, h1⟩ := trod_struct2 Try.underlying100 h
  have hC : Try.prog.cellsOf 100 = 2 := by kernel_rfl
  have hC5 : Try.prog.cellsOf 5 = 1 := by kernel_rfl
  have hC9 : Try.prog.cellsOf 9 = 1 := by kernel_rfl
  match cs, hl.trans hC with
  | [c0, c1], _ =>
      skip
      simp only [hC5, hC9, List.drop_zero, List.take_succ_cons, List.take_zero, List.drop_succ_cons, List.getElem?_cons_zero, List.getElem?_cons_succ] at h0 h1
      obtain ⟨g, e0, _, w0⟩ := DataW.trod_int Try.underlying5 h0
      obtain ⟨key, e2, _, w2⟩ := DataW.trod_string Try.underlying9 h1
      simp at e0 e2
      subst e0 e2
      exact ⟨g, key, rfl⟩
set_option maxRecDepth 100000 in
theorem open_proc5 {fuel : Nat} {cs : List Value} {x : DataW H × List MemPlace} (h : DataW.trod enc Try.prog w base spare held fuel 68 cs = some x) :
    ∃ (a b : Int), cs = [.int .u8 a, .int .u16 b] := by
  obtain ⟨y0, y1, n, _, hl, h0, h1⟩ := trod_struct2 Try.underlying68 h
  have hC : Try.prog.cellsOf 68 = 2 := by kernel_rfl
  have hC5 : Try.prog.cellsOf 5 = 1 := by kernel_rfl
  have hC9 : Try.prog.cellsOf 47 = 1 := by kernel_rfl
  match cs, hl.trans hC with
  | [c0, c1], _ =>
      skip
      simp only [hC5, hC9, List.drop_zero, List.take_succ_cons, List.take_zero, List.drop_succ_cons, List.getElem?_cons_zero, List.getElem?_cons_succ] at h0 h1
      obtain ⟨g, e0, _, w0⟩ := DataW.trod_int Try.underlying5 h0
      obtain ⟨l, e2, _, w2⟩ := DataW.trod_int Try.underlying47 h1
      simp at e0 e2
      subst e0 e2
      exact ⟨g, l, rfl⟩
set_option maxRecDepth 100000 in
/-- an entry of the document, as an argument. -/
theorem arg_entry {r : Reach} {b0 : Nat} {v : Value} {d : DataW H} {p : List MemPlace} (hv : Value.okWide Try.prog w r b0 103 v) (h : DataW.Trod enc Try.prog w base spare held 103 v d p) (hw : ∀ n ∈ d.weights Try.prog 103, n ≤ 140737488355328) :
    ∃ (x : E18) (A B : Option Addr) (X : List P5) (Y : List W3) (c dd : Nat), v = .agg #[.int .u8 x.k, .int .u8 x.n, .int .u16 x.l, .int .u32 x.s, .int .u8 x.d, .int .u8 x.a0, .int .u8 x.a1, .int .u8 x.b0, .int .u8 x.b1, .int .u8 x.c0, .int .u8 x.c1, .int .u32 x.fl, .slice A X.length c, .int .u8 x.rc, .string x.rv, .slice B Y.length dd, .int .u8 x.vn, .int .u16 x.vl] ∧ X.length ≤ c ∧ c ≤ maxLen ∧ RowsP w w.heap.size A X ∧ X.length * 48 ≤ 140737488355328 ∧ (∀ x ∈ X, x.key.size ≤ 140737488355328) ∧ Y.length ≤ dd ∧ dd ≤ maxLen ∧ RowsW w w.heap.size B Y ∧ Y.length * 40 ≤ 140737488355328 ∧ (∀ y ∈ Y, y.val.size ≤ 140737488355328) := by
  obtain ⟨cs, rfl, _⟩ := okWide_struct Try.underlying103 hv
  obtain ⟨fuel, hf⟩ := h
  obtain ⟨hl, n, y0, y1, y2, y3, y4, y5, y6, h0, h1, h2, h3, h4, h5, h6, hx⟩ := trod_seven Try.underlying103 hf
  have hu := Try.underlying103
  have hd : d = .agg [y0.1, y1.1, y2.1, y3.1, y4.1, y5.1, y6.1] := hx
  have hw3 : ∀ n ∈ y3.1.weights Try.prog 99, n ≤ 140737488355328 := fun n hn => hw n (by rw [hd]; simp only [DataW.weights, hu]; exact DataW.weights_mem_each (j := 3) rfl rfl n hn)
  have hw5 : ∀ n ∈ y5.1.weights Try.prog 101, n ≤ 140737488355328 := fun n hn => hw n (by rw [hd]; simp only [DataW.weights, hu]; exact DataW.weights_mem_each (j := 5) rfl rfl n hn)
  have hC : Try.prog.cellsOf 103 = 18 := by kernel_rfl
  have k0 : Try.prog.cellsOf 5 = 1 := by kernel_rfl
  have k1 : Try.prog.cellsOf 98 = 10 := by kernel_rfl
  have k2 : Try.prog.cellsOf 42 = 1 := by kernel_rfl
  have k3 : Try.prog.cellsOf 99 = 1 := by kernel_rfl
  have k4 : Try.prog.cellsOf 100 = 2 := by kernel_rfl
  have k5 : Try.prog.cellsOf 101 = 1 := by kernel_rfl
  have k6 : Try.prog.cellsOf 68 = 2 := by kernel_rfl
  obtain ⟨l⟩ := cs
  match l, hl.trans hC with
  | [x0, x1, x2, x3, x4, x5, x6, x7, x8, x9, x10, x11, x12, x13, x14, x15, x16, x17], _ =>
    simp only [k0, k1, k2, k3, k4, k5, k6, Value.cells, List.drop_zero, List.take_succ_cons, List.take_zero, List.drop_succ_cons] at h0 h1 h2 h3 h4 h5 h6
    obtain ⟨kk, e0, _, _⟩ := DataW.trod_int Try.underlying5 h0
    obtain ⟨n', l', s', d', a0, a1, b0', b1, c0, c1, e1, _⟩ := I.open_cells h1
    obtain ⟨fl, e2, _, _⟩ := DataW.trod_int Try.underlying42 h2
    obtain ⟨A, X, c, e3, lc, cm, RX, bx, sx⟩ := open_parts5 h3 hw3
    obtain ⟨rc, rv, e4⟩ := open_res5 h4
    obtain ⟨B, Y, dd, e5, ld, dm, RY, bY, sy⟩ := open_writes5 h5 hw5
    obtain ⟨vn, vl, e6⟩ := open_proc5 h6
    simp only [List.cons.injEq, and_true] at e0 e1 e2 e3 e4 e5 e6
    obtain ⟨rfl, rfl, rfl, rfl, rfl, rfl, rfl, rfl, rfl, rfl⟩ := e1
    obtain ⟨rfl, rfl⟩ := e4
    obtain ⟨rfl, rfl⟩ := e6
    subst e0 e2 e3 e5
    exact ⟨⟨kk, n', l', s', d', a0, a1, b0', b1, c0, c1, fl, rc, rv, vn, vl⟩, A, B, X, Y, c, dd, rfl, lc, cm, RX, bx, sx, ld, dm, RY, bY, sy⟩
end

end Go.Proofs.Ytjdmjiikpnlkjaa
