/-
  Bytes and a packet of the document as arguments, with the bounds of their numbers. No condition.
-/
import Derived.Test.YtgnfclikdfllnaaJpk
import Derived.Deep.Slices
import Derived.Deep.Fields
import Derived.Lib.SmallJoins
import Derived.OpenShut
namespace Go.Proofs.Ytgnfclikdfllnaa
set_option linter.unusedSimpArgs false
set_option linter.unusedVariables false
open Go.RowKit Go.ChangeShapes Go.WideShapes Go.Joins Go.Deep

theorem cell_plainB {W : World} {a : Addr} {u : Value} (h : W.cell? a = some u) : ∃ b o, a = ⟨b, o, none⟩ ∧ b < W.heap.size := by
  have hl := World.block_lt_of_cell? W a h
  obtain ⟨b, o, s⟩ := a
  cases s with
  | none => exact ⟨b, o, rfl, hl⟩
  | some s =>
    exfalso
    simp only [World.cell?] at h
    split at h <;> simp at h
section
variable {H : Type} {enc : TypeId × Value → H} {w : World} {base : Nat} {spare : Nat → Bool} {held : Bool}
set_option maxRecDepth 100000 in
theorem open_bytes {fuel : Nat} {cs : List Value} {y : DataW H × List MemPlace} (h : DataW.trod enc Try.prog w base spare held fuel 35 cs = some y) (hw : ∀ n ∈ y.1.weights Try.prog 35, n ≤ 140737488351232) :
    ∃ (A : Option Addr) (X : List UInt8) (c : Nat), cs = [.slice A X.length c] ∧ X.length ≤ c ∧ c ≤ maxLen ∧ BytesAt w w.heap.size A X ∧ X.length ≤ 140737488351232 ∧ (A = none → X.length = 0 ∧ c = 0) := by
  rcases open_slice Try.underlying35 h with ⟨rfl, h2⟩ | ⟨a, len, cap, m, n', D, Pl, rfl, hb, hl, hm, hmm, hx, hi⟩
  · exact ⟨none, [], 0, rfl, Nat.le_refl _, by unfold maxLen; omega, fun e => absurd rfl e, by simp, fun _ => ⟨rfl, rfl⟩⟩
  · have hC : Try.prog.cellsOf 5 = 1 := by kernel_rfl
    have hB : Try.prog.bytesOf 5 = 1 := by kernel_rfl
    have hu := Try.underlying35
    have he := Try.underlying5
    have hlm : len ≤ m := by rw [hmm]; split <;> omega
    have each : ∀ i, ∃ q : UInt8, i < len → w.cell? (a.add i) = some (.int .u8 (q.toNat : Nat)) := by
      intro i
      by_cases hin : i < len
      · obtain ⟨cs', hc, ht⟩ := hi i (by omega)
        rw [hC, Nat.mul_one] at hc
        obtain ⟨z, e0, _, w0⟩ := DataW.trod_int Try.underlying5 ht
        obtain ⟨_, hlen, hat⟩ := World.cells?_some hc
        have hz := bounds_u8 w0
        refine ⟨UInt8.ofNat z.toNat, fun _ => ?_⟩
        have := hat 0 (by omega)
        rw [e0] at this
        have ha : (a.add i).add 0 = a.add i := by simp [Addr.add]
        rw [ha] at this
        rw [this, toNat_of (by omega)]
        simp
        omega
      · exact ⟨0, fun h => absurd h hin⟩
    obtain ⟨f, hf'⟩ := Classical.axiomOfChoice each
    have hlen : ((List.range len).map f).length = len := by simp
    have hget : ∀ i x, ((List.range len).map f)[i]? = some x → i < len ∧ x = f i := by
      intro i x hx
      have hi' : i < len := by
        have := (List.getElem?_eq_some_iff.1 hx).1
        simpa using this
      refine ⟨hi', ?_⟩
      simp [hi'] at hx
      exact hx.symm
    subst hx
    refine ⟨some a, (List.range len).map f, cap, by rw [hlen], by rw [hlen]; exact hl, hm, ?_, ?_, fun h => by cases h⟩
    · intro hne
      have hn : 0 < len := by
        rcases Nat.eq_zero_or_pos len with h | h
        · subst h; exact absurd rfl hne
        · exact h
      have h00 := hf' 0 hn
      simp [Addr.add] at h00
      obtain ⟨b, o, rfl, hbl⟩ := cell_plainB h00
      refine ⟨b, o, rfl, hbl, fun i x hx => ?_⟩
      obtain ⟨hi', rfl⟩ := hget i x hx
      have hc := hf' i hi'
      rw [addr_add] at hc
      exact hc
    · rw [hlen]
      have := hw ((len + (m - len)) * 1) (by simp [DataW.weights, hu, hB])
      omega
set_option maxRecDepth 100000 in
theorem open_proc7 {fuel : Nat} {cs : List Value} {x : DataW H × List MemPlace} (h : DataW.trod enc Try.prog w base spare held fuel 24 cs = some x) :
    ∃ n l : Nat, cs = [.int .u8 n, .int .u16 l] ∧ n < 256 ∧ l < 65536 := by
  obtain ⟨y0, y1, n, _, hl, h0, h1⟩ := trod_struct2 Try.underlying24 h
  have hC : Try.prog.cellsOf 24 = 2 := by kernel_rfl
  have hC5 : Try.prog.cellsOf 5 = 1 := by kernel_rfl
  have hC9 : Try.prog.cellsOf 22 = 1 := by kernel_rfl
  match cs, hl.trans hC with
  | [c0, c1], _ =>
      skip
      simp only [hC5, hC9, List.drop_zero, List.take_succ_cons, List.take_zero, List.drop_succ_cons, List.getElem?_cons_zero, List.getElem?_cons_succ] at h0 h1
      obtain ⟨g, e0, _, w0⟩ := DataW.trod_int Try.underlying5 h0
      obtain ⟨l, e2, _, w2⟩ := DataW.trod_int Try.underlying22 h1
      simp at e0 e2
      subst e0 e2
      have b0 := bounds_u8 w0
      have b2 := bounds_u16 w2
      exact ⟨g.toNat, l.toNat, by rw [show ((g.toNat : Nat) : Int) = g by omega, show ((l.toNat : Nat) : Int) = l by omega], by omega, by omega⟩
theorem trod_six {P : Program} {fuel : Nat} {cs : List Value} {x : DataW H × List MemPlace} {t : TypeId} {f0 f1 f2 f3 f4 f5 : Field} (hs : P.underlying t = some (.struct #[f0, f1, f2, f3, f4, f5])) (h : DataW.trod enc P w base spare held fuel t cs = some x) :
    cs.length = P.cellsOf t ∧ ∃ (n : Nat) (y0 y1 y2 y3 y4 y5 : DataW H × List MemPlace),
      DataW.trod enc P w base spare held n f0.type ((cs.drop f0.offset).take (P.cellsOf f0.type)) = some y0 ∧
      DataW.trod enc P w base spare held n f1.type ((cs.drop f1.offset).take (P.cellsOf f1.type)) = some y1 ∧
      DataW.trod enc P w base spare held n f2.type ((cs.drop f2.offset).take (P.cellsOf f2.type)) = some y2 ∧
      DataW.trod enc P w base spare held n f3.type ((cs.drop f3.offset).take (P.cellsOf f3.type)) = some y3 ∧
      DataW.trod enc P w base spare held n f4.type ((cs.drop f4.offset).take (P.cellsOf f4.type)) = some y4 ∧
      DataW.trod enc P w base spare held n f5.type ((cs.drop f5.offset).take (P.cellsOf f5.type)) = some y5 ∧ x.1 = .agg [y0.1, y1.1, y2.1, y3.1, y4.1, y5.1] := by
  obtain ⟨xs, n, _, hx, hl, hxs, hg⟩ := DataW.trod_struct hs h
  refine ⟨hl, n, ?_⟩
  match xs, hxs with
  | [y0, y1, y2, y3, y4, y5], _ => exact ⟨y0, y1, y2, y3, y4, y5, hg 0 f0 rfl, hg 1 f1 rfl, hg 2 f2 rfl, hg 3 f3 rfl, hg 4 f4 rfl, hg 5 f5 rfl, by rw [hx]; rfl⟩

set_option maxRecDepth 100000 in
/-- a packet of the document, as an argument. -/
theorem arg_packet0 {r : Reach} {b0 : Nat} {v : Value} {d : DataW H} {p : List MemPlace} (hv : Value.okWide Try.prog w r b0 37 v) (h : DataW.Trod enc Try.prog w base spare held 37 v d p) (hw : ∀ n ∈ d.weights Try.prog 37, n ≤ 140737488351232) :
    ∃ (fn fl tn tl seq ack : Nat) (has : Bool) (A : Option Addr) (X : List UInt8) (c : Nat), v = .agg #[.int .u8 fn, .int .u16 fl, .int .u8 tn, .int .u16 tl, .int .u64 seq, .int .u64 ack, .bool has, .slice A X.length c] ∧ (fn < 256 ∧ fl < 65536 ∧ tn < 256 ∧ tl < 65536 ∧ seq < 18446744073709551616 ∧ ack < 18446744073709551616) ∧
      X.length ≤ c ∧ c ≤ maxLen ∧ BytesAt w w.heap.size A X ∧ X.length ≤ 140737488351232 ∧ (A = none → X.length = 0 ∧ c = 0) := by
  obtain ⟨cs, rfl, _⟩ := okWide_struct Try.underlying37 hv
  obtain ⟨fuel, hf⟩ := h
  obtain ⟨hl, n, y0, y1, y2, y3, y4, y5, h0, h1, h2, h3, h4, h5, hx⟩ := trod_six Try.underlying37 hf
  have hu := Try.underlying37
  have hd : d = .agg [y0.1, y1.1, y2.1, y3.1, y4.1, y5.1] := hx
  have hw2 : ∀ n ∈ y5.1.weights Try.prog 35, n ≤ 140737488351232 := fun n hn => hw n (by rw [hd]; simp only [DataW.weights, hu]; exact DataW.weights_mem_each (j := 5) rfl rfl n hn)
  have hC : Try.prog.cellsOf 37 = 8 := by kernel_rfl
  have k0 : Try.prog.cellsOf 24 = 2 := by kernel_rfl
  have k1 : Try.prog.cellsOf 25 = 1 := by kernel_rfl
  have k2 : Try.prog.cellsOf 4 = 1 := by kernel_rfl
  have k3 : Try.prog.cellsOf 35 = 1 := by kernel_rfl
  obtain ⟨l⟩ := cs
  match l, hl.trans hC with
  | [x0, x1, x2, x3, x4, x5, x6, x7], _ =>
    simp only [k0, k1, k2, k3, Value.cells, List.drop_zero, List.take_succ_cons, List.take_zero, List.drop_succ_cons] at h0 h1 h2 h3 h4 h5
    obtain ⟨fn, fl, e0, r0, r1⟩ := open_proc7 h0
    obtain ⟨tn, tl, e1, r2, r3⟩ := open_proc7 h1
    obtain ⟨sq, e2, _, w2⟩ := DataW.trod_int Try.underlying25 h2
    obtain ⟨ak, e3, _, w3⟩ := DataW.trod_int Try.underlying25 h3
    obtain ⟨hs, e4, _⟩ := DataW.trod_bool Try.underlying4 h4
    obtain ⟨A, X, c, e5, h9⟩ := open_bytes h5 hw2
    simp only [List.cons.injEq, and_true] at e0 e1 e2 e3 e4 e5
    obtain ⟨rfl, rfl⟩ := e0
    obtain ⟨rfl, rfl⟩ := e1
    subst e2 e3 e4 e5
    have b2 := bounds_u64 w2
    have b3 := bounds_u64 w3
    exact ⟨fn, fl, tn, tl, sq.toNat, ak.toNat, hs, A, X, c, by rw [show ((sq.toNat : Nat) : Int) = sq by omega, show ((ak.toNat : Nat) : Int) = ak by omega], ⟨r0, r1, r2, r3, by omega, by omega⟩, h9⟩
set_option maxRecDepth 100000 in
/-- a row of bytes, as an argument. -/
theorem arg_bytes {r : Reach} {b0 : Nat} {v : Value} {d : DataW H} {p : List MemPlace} (hv : Value.okWide Try.prog w r b0 35 v) (h : DataW.Trod enc Try.prog w base spare held 35 v d p) (hw : ∀ n ∈ d.weights Try.prog 35, n ≤ 140737488351232) :
    ∃ (A : Option Addr) (X : List UInt8) (c : Nat), v = .slice A X.length c ∧ X.length ≤ c ∧ c ≤ maxLen ∧ BytesAt w w.heap.size A X ∧ X.length ≤ 140737488351232 ∧ (A = none → X.length = 0 ∧ c = 0) := by
  obtain ⟨A, n, c, rfl⟩ := okWide_slice Try.underlying35 hv
  obtain ⟨fuel, hf⟩ := h
  obtain ⟨A', X, c', e, h1⟩ := open_bytes hf hw
  simp [Value.cells] at e
  obtain ⟨rfl, rfl, rfl⟩ := e
  exact ⟨A, X, c, rfl, h1⟩
set_option maxRecDepth 100000 in
theorem arg_int {r : Reach} {b0 : Nat} {v : Value} {d : DataW H} {p : List MemPlace} {t : TypeId} {k : IntKind} (ht : Try.prog.underlying t = some (.int k)) (hv : Value.okWide Try.prog w r b0 t v) (h : DataW.Trod enc Try.prog w base spare held t v d p) :
    ∃ n : Int, v = .int k n ∧ (Lit.int k n).wf = true := by
  obtain ⟨m, rfl⟩ := okWide_int ht hv
  obtain ⟨fuel, hf⟩ := h
  obtain ⟨n, e, _, w0⟩ := DataW.trod_int ht hf
  have e' : [Value.int k m] = [Value.int k n] := e
  simp only [List.cons.injEq, Value.int.injEq, true_and, and_true] at e'
  subst e'
  exact ⟨m, rfl, w0⟩
end

/-- a packet's numbers fit. -/
def Hp.ok (p : Hp) : Prop := p.seq ≤ 18446744073709551615 ∧ p.ack ≤ 18446744073709551615
section
variable {H : Type} {enc : TypeId × Value → H} {w : World} {base : Nat} {spare : Nat → Bool} {held : Bool}
theorem arg_packet {r : Reach} {b0 : Nat} {v : Value} {d : DataW H} {p : List MemPlace} (hv : Value.okWide Try.prog w r b0 37 v) (h : DataW.Trod enc Try.prog w base spare held 37 v d p) (hw : ∀ n ∈ d.weights Try.prog 37, n ≤ 140737488351232) :
    ∃ (x : Hp) (A : Option Addr) (c : Nat), v = .agg (x.cs A c) ∧ x.ok ∧ x.B.length ≤ c ∧ c ≤ maxLen ∧ BytesAt w w.heap.size A x.B ∧ x.B.length ≤ 140737488351232 ∧ (A = none → x.B.length = 0 ∧ c = 0) := by
  obtain ⟨fn, fl, tn, tl, seq, ack, has, A, X, c, rfl, ⟨_, _, _, _, h1, h2⟩, h3⟩ := arg_packet0 hv h hw
  exact ⟨⟨fn, fl, tn, tl, seq, ack, has, X⟩, A, c, rfl, ⟨by simp; omega, by simp; omega⟩, h3⟩
end

end Go.Proofs.Ytgnfclikdfllnaa
