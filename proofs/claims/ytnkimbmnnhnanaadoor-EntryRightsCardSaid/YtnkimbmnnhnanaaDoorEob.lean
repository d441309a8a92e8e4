/-
  An entry of the document as an argument, with the bounds of its numbers. No condition.
-/
import Derived.Test.YtnkimbmnnhnanaaDoorEop
import Derived.Test.YtnkimbmnnhnanaaDoorEru
import Derived.Deep.Slices
import Derived.Deep.Fields
import Derived.Lib.SmallJoins
import Derived.OpenShut
namespace Go.Proofs.YtnkimbmnnhnanaaDoor
set_option linter.unusedSimpArgs false
set_option linter.unusedVariables false
open Go.RowKit Go.ChangeShapes Go.WideShapes Go.Joins Go.Deep

section
variable {H : Type} {enc : TypeId × Value → H} {w : World} {base : Nat} {spare : Nat → Bool} {held : Bool}
/-- the numbers of a part fit their kinds. -/
def NB (q : P5) : Prop := (0 ≤ q.g ∧ q.g ≤ 255) ∧ (0 ≤ q.k ∧ q.k ≤ 255) ∧ (-9223372036854775808 ≤ q.n ∧ q.n ≤ 9223372036854775807)
set_option maxRecDepth 100000 in
theorem open_partB {fuel : Nat} {cs : List Value} {x : DataW H × List MemPlace} (h : DataW.trod enc Tryd.prog w base spare held fuel 86 cs = some x) :
    ∃ p : P5, cs = p.cells ∧ NB p ∧ x.1 = p.dat := by
  obtain ⟨hl, n, y0, y1, y2, y3, y4, h0, h1, h2, h3, h4, hx⟩ := trod_five Tryd.underlying86 h
  have hC : Tryd.prog.cellsOf 86 = 5 := by kernel_rfl
  have hC5 : Tryd.prog.cellsOf 5 = 1 := by kernel_rfl
  have hC9 : Tryd.prog.cellsOf 9 = 1 := by kernel_rfl
  have hC2 : Tryd.prog.cellsOf 2 = 1 := by kernel_rfl
  match cs, hl.trans hC with
  | [c0, c1, c2, c3, c4], _ =>
      skip
      simp only [hC5, hC9, hC2, List.drop_zero, List.take_succ_cons, List.take_zero, List.drop_succ_cons, List.getElem?_cons_zero, List.getElem?_cons_succ] at h0 h1 h2 h3 h4
      obtain ⟨g, e0, z0, w0⟩ := DataW.trod_int Tryd.underlying5 h0
      obtain ⟨k, e1, z1, w1⟩ := DataW.trod_int Tryd.underlying5 h1
      obtain ⟨key, e2, z2, w2⟩ := DataW.trod_string Tryd.underlying9 h2
      obtain ⟨val, e3, z3, w3⟩ := DataW.trod_string Tryd.underlying9 h3
      obtain ⟨m, e4, z4, w4⟩ := DataW.trod_int Tryd.underlying2 h4
      simp at e0 e1 e2 e3 e4
      subst e0 e1 e2 e3 e4
      exact ⟨⟨g, k, key, val, m⟩, rfl, ⟨bounds_u8 w0, bounds_u8 w1, bounds_i64 w4⟩, by rw [hx]; simp [P5.dat, z0, z1, z2, z3, z4]⟩
set_option maxRecDepth 100000 in
theorem open_parts5B {fuel : Nat} {cs : List Value} {y : DataW H × List MemPlace} (h : DataW.trod enc Tryd.prog w base spare held fuel 31 cs = some y) (hw : ∀ n ∈ y.1.weights Tryd.prog 31, n ≤ 140737488355328) :
    ∃ (A : Option Addr) (X : List P5) (c : Nat), cs = [.slice A X.length c] ∧ X.length ≤ c ∧ c ≤ maxLen ∧ RowsP w w.heap.size A X ∧ X.length * 48 ≤ 140737488355328 ∧ ∀ x ∈ X, x.Rng := by
  rcases open_slice Tryd.underlying31 h with ⟨rfl, h2⟩ | ⟨a, len, cap, m, n', D, Pl, rfl, hb, hl, hm, hmm, hx, hi⟩
  · exact ⟨none, [], 0, rfl, Nat.le_refl _, by unfold maxLen; omega, fun e => absurd rfl e, by simp, fun x hx => by cases hx⟩
  · have hC : Tryd.prog.cellsOf 86 = 5 := by kernel_rfl
    have hB : Tryd.prog.bytesOf 86 = 48 := by kernel_rfl
    have hu := Tryd.underlying31
    have he := Tryd.underlying86
    have hlm : len ≤ m := by rw [hmm]; split <;> omega
    have each : ∀ i, ∃ q : P5, i < len → (D i = q.dat ∧ NB q) ∧ ∀ j u, q.cells[j]? = some u → w.cell? ((a.add (i * 5)).add j) = some u := by
      intro i
      by_cases hin : i < len
      · obtain ⟨cs', hc, ht⟩ := hi i (by omega)
        rw [hC] at hc
        obtain ⟨q, hq, nb, hd⟩ := open_partB ht
        obtain ⟨_, hlen, hat⟩ := World.cells?_some hc
        refine ⟨q, fun _ => ⟨⟨hd, nb⟩, fun j u hu => ?_⟩⟩
        have hj : j < 5 := by
          have := (List.getElem?_eq_some_iff.1 hu).1
          simpa [P5.cells] using this
        rw [hat j hj, hq, hu]
      · exact ⟨⟨0, 0, ByteArray.empty, ByteArray.empty, 0⟩, fun h => absurd h hin⟩
    obtain ⟨f, hf'⟩ := Classical.axiomOfChoice each
    have hlen : ((List.range len).map f).length = len := by simp
    have hget : ∀ i x, ((List.range len).map f)[i]? = some x → i < len ∧ x = f i := by
      intro i x hx
      have hi' : i < len := by
        have := (List.getElem?_eq_some_iff.1 hx).1
        simpa using this
      refine ⟨hi', ?_⟩
      simp [hi'] at hx
      exact hx.symm
    subst hx
    refine ⟨some a, (List.range len).map f, cap, by rw [hlen], by rw [hlen]; exact hl, hm, ?_, ?_, ?_⟩
    · intro hne
      have hn : 0 < len := by
        rcases Nat.eq_zero_or_pos len with h | h
        · subst h; exact absurd rfl hne
        · exact h
      have h00 := (hf' 0 hn).2 0 _ rfl
      simp [Addr.add] at h00
      obtain ⟨b, o, rfl, hbl⟩ := cell_plain h00
      refine ⟨b, o, rfl, hbl, fun i x hx => ?_⟩
      obtain ⟨hi', rfl⟩ := hget i x hx
      have hc := (hf' i hi').2
      have e : ∀ j, ((⟨b, o, none⟩ : Addr).add (i * 5)).add j = ⟨b, o + i * 5 + j, none⟩ := fun j => by rw [add_plain5, add_plain5]
      exact ⟨by have := hc 0 _ rfl; rw [e] at this; exact this, by have := hc 1 _ rfl; rw [e] at this; exact this, by have := hc 2 _ rfl; rw [e] at this; exact this, by have := hc 3 _ rfl; rw [e] at this; exact this, by have := hc 4 _ rfl; rw [e] at this; exact this⟩
    · rw [hlen]
      have := hw ((len + (m - len)) * 48) (by simp [DataW.weights, hu, hB])
      exact Nat.le_trans (Nat.mul_le_mul_right _ (Nat.le_add_right _ _)) this
    · intro x hx
      obtain ⟨i, hi', rfl⟩ := List.mem_map.1 hx
      have hil : i < len := by simpa using hi'
      have hb := (hf' i hil).1.2
      have hs : ∀ n ∈ (f i).dat.weights Tryd.prog 86, n ≤ 140737488355328 := fun n hn => by
        refine hw _ ?_
        simp only [DataW.weights, hu, List.mem_cons, List.mem_append]
        exact .inr (.inl (weights_all (d := (f i).dat) (List.mem_map.2 ⟨i, hi', (hf' i hil).1.1⟩) hn))
      clear hf' hget hlen hi hmm hw hlm
      generalize f i = q at *
      have hkey := hs q.key.size (by simp [P5.dat, DataW.weights, he, DataW.weightsEach])
      have hval := hs q.val.size (by simp [P5.dat, DataW.weights, he, DataW.weightsEach])
      exact ⟨hb.1, hb.2.1, hb.2.2, by unfold maxLen; omega, by unfold maxLen; omega⟩

set_option maxRecDepth 100000 in
/-- an entry of the document, as an argument. -/
theorem arg_entryB {r : Reach} {b0 : Nat} {v : Value} {d : DataW H} {p : List MemPlace} (hv : Value.okWide Tryd.prog w r b0 36 v) (h : DataW.Trod enc Tryd.prog w base spare held 36 v d p) (hw : ∀ n ∈ d.weights Tryd.prog 36, n ≤ 140737488355328) :
    ∃ (x : E18) (A B : Option Addr) (X : List P5) (Y : List W3) (c dd : Nat), v = .agg #[.int .u8 x.k, .int .u8 x.n, .int .u16 x.l, .int .u32 x.s, .int .u8 x.d, .int .u8 x.a0, .int .u8 x.a1, .int .u8 x.b0, .int .u8 x.b1, .int .u8 x.c0, .int .u8 x.c1, .int .u32 x.fl, .slice A X.length c, .int .u8 x.rc, .string x.rv, .slice B Y.length dd, .int .u8 x.vn, .int .u16 x.vl] ∧ X.length ≤ c ∧ c ≤ maxLen ∧ RowsP w w.heap.size A X ∧ X.length * 48 ≤ 140737488355328 ∧ (∀ x ∈ X, x.Rng) ∧ Y.length ≤ dd ∧ dd ≤ maxLen ∧ RowsW w w.heap.size B Y ∧ Y.length * 40 ≤ 140737488355328 ∧ x.Rng := by
  obtain ⟨cs, rfl, _⟩ := okWide_struct Tryd.underlying36 hv
  obtain ⟨fuel, hf⟩ := h
  obtain ⟨hl, n, y0, y1, y2, y3, y4, y5, y6, h0, h1, h2, h3, h4, h5, h6, hx⟩ := trod_seven Tryd.underlying36 hf
  have hu := Tryd.underlying36
  have hd : d = .agg [y0.1, y1.1, y2.1, y3.1, y4.1, y5.1, y6.1] := hx
  have hw3 : ∀ n ∈ y3.1.weights Tryd.prog 31, n ≤ 140737488355328 := fun n hn => hw n (by rw [hd]; simp only [DataW.weights, hu]; exact DataW.weights_mem_each (j := 3) rfl rfl n hn)
  have hw5 : ∀ n ∈ y5.1.weights Tryd.prog 34, n ≤ 140737488355328 := fun n hn => hw n (by rw [hd]; simp only [DataW.weights, hu]; exact DataW.weights_mem_each (j := 5) rfl rfl n hn)
  have hC : Tryd.prog.cellsOf 36 = 18 := by kernel_rfl
  have k0 : Tryd.prog.cellsOf 5 = 1 := by kernel_rfl
  have k1 : Tryd.prog.cellsOf 30 = 10 := by kernel_rfl
  have k2 : Tryd.prog.cellsOf 25 = 1 := by kernel_rfl
  have k3 : Tryd.prog.cellsOf 31 = 1 := by kernel_rfl
  have k4 : Tryd.prog.cellsOf 33 = 2 := by kernel_rfl
  have k5 : Tryd.prog.cellsOf 34 = 1 := by kernel_rfl
  have k6 : Tryd.prog.cellsOf 24 = 2 := by kernel_rfl
  obtain ⟨l⟩ := cs
  match l, hl.trans hC with
  | [x0, x1, x2, x3, x4, x5, x6, x7, x8, x9, x10, x11, x12, x13, x14, x15, x16, x17], _ =>
    simp only [k0, k1, k2, k3, k4, k5, k6, Value.cells, List.drop_zero, List.take_succ_cons, List.take_zero, List.drop_succ_cons] at h0 h1 h2 h3 h4 h5 h6
    obtain ⟨kk, e0, _, _⟩ := DataW.trod_int Tryd.underlying5 h0
    obtain ⟨n', l', s', d', a0, a1, b0', b1, c0, c1, e1, _, _, _, ib, ia, _, ibb, _, ic, _⟩ := I.open_cells h1
    obtain ⟨fl, e2, _, _⟩ := DataW.trod_int Tryd.underlying25 h2
    obtain ⟨A, X, c, e3, lc, cm, RX, bx, sx⟩ := open_parts5B h3 hw3
    obtain ⟨rc, rv, e4⟩ := open_res5 h4
    obtain ⟨B, Y, dd, e5, ld, dm, RY, bY, sy⟩ := open_writes5 h5 hw5
    obtain ⟨vn, vl, e6⟩ := open_proc5 h6
    simp only [List.cons.injEq, and_true] at e0 e1 e2 e3 e4 e5 e6
    obtain ⟨rfl, rfl, rfl, rfl, rfl, rfl, rfl, rfl, rfl, rfl⟩ := e1
    obtain ⟨rfl, rfl⟩ := e4
    obtain ⟨rfl, rfl⟩ := e6
    subst e0 e2 e3 e5
    exact ⟨⟨kk, n', l', s', d', a0, a1, b0', b1, c0, c1, fl, rc, rv, vn, vl⟩, A, B, X, Y, c, dd, rfl, lc, cm, RX, bx, sx, ld, dm, RY, bY, ⟨ib, ia, ibb, ic⟩⟩
end
end Go.Proofs.YtnkimbmnnhnanaaDoor
