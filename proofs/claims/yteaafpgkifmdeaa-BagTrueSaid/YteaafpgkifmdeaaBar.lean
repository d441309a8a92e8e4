/-
  A parcel of the document, an act, a list of acts as arguments. No condition.
-/
import Derived.Test.YteaafpgkifmdeaaBop
import Derived.Deep.Slices
import Derived.Deep.Fields
import Derived.Lib.SmallJoins
import Derived.OpenShut
namespace Go.Proofs.Yteaafpgkifmdeaa
set_option linter.unusedSimpArgs false
set_option linter.unusedVariables false
open Go.RowKit Go.ChangeShapes Go.WideShapes Go.Joins Go.Deep

/-- a parcel that was handed in. -/
structure Lp.In (x : Lp) (W : World) : Prop where
  at_ : BytesAt W W.heap.size x.A x.p.B
  le : x.p.B.length ≤ x.c
  mx : x.c ≤ maxLen
  nn : x.A = none → x.p.B.length = 0 ∧ x.c = 0
theorem Lp.In.below {x : Lp} {W W' : World} (h : x.In W) (hb : Below W.heap.size W W') : x.In W' := ⟨h.at_.below hb (Nat.le_refl _) hb.size, h.le, h.mx, h.nn⟩
/-- an act. -/
structure Ac where
  kd : Int
  i : Int
  at_ : Int
  m : Nat
  x : Lp
def Ac.cs (a : Ac) : List Value := [.int .i64 a.kd, .int .i64 a.i, .int .i64 a.at_, .int .u32 a.m, .int .u8 a.x.p.fn, .int .u16 a.x.p.fl, .int .u8 a.x.p.tn, .int .u16 a.x.p.tl, .slice a.x.A a.x.p.B.length a.x.c, .bool a.x.p.bad]
def Ac.ok (a : Ac) : Prop := (-9223372036854775808 ≤ a.i ∧ a.i ≤ 9223372036854775807) ∧ (-9223372036854775808 ≤ a.at_ ∧ a.at_ ≤ 9223372036854775807) ∧ a.m < 4294967296

theorem cell_plainB {W : World} {a : Addr} {u : Value} (h : W.cell? a = some u) : ∃ b o, a = ⟨b, o, none⟩ ∧ b < W.heap.size := by
  have hl := World.block_lt_of_cell? W a h
  obtain ⟨b, o, s⟩ := a
  cases s with
  | none => exact ⟨b, o, rfl, hl⟩
  | some s =>
    exfalso
    simp only [World.cell?] at h
    split at h <;> simp at h
section
variable {H : Type} {enc : TypeId × Value → H} {w : World} {base : Nat} {spare : Nat → Bool} {held : Bool}
set_option maxRecDepth 100000 in
theorem open_bytes {fuel : Nat} {cs : List Value} {y : DataW H × List MemPlace} (h : DataW.trod enc Try.prog w base spare held fuel 34 cs = some y) :
    ∃ (A : Option Addr) (X : List UInt8) (c : Nat), cs = [.slice A X.length c] ∧ X.length ≤ c ∧ c ≤ maxLen ∧ BytesAt w w.heap.size A X ∧ (A = none → X.length = 0 ∧ c = 0) := by
  rcases open_slice Try.underlying34 h with ⟨rfl, h2⟩ | ⟨a, len, cap, m, n', D, Pl, rfl, hb, hl, hm, hmm, hx, hi⟩
  · exact ⟨none, [], 0, rfl, Nat.le_refl _, by unfold maxLen; omega, fun e => absurd rfl e, fun _ => ⟨rfl, rfl⟩⟩
  · have hC : Try.prog.cellsOf 5 = 1 := by kernel_rfl
    have hlm : len ≤ m := by rw [hmm]; split <;> omega
    have each : ∀ i, ∃ q : UInt8, i < len → w.cell? (a.add i) = some (.int .u8 (q.toNat : Nat)) := by
      intro i
      by_cases hin : i < len
      · obtain ⟨cs', hc, ht⟩ := hi i (by omega)
        rw [hC, Nat.mul_one] at hc
        obtain ⟨z, e0, _, w0⟩ := DataW.trod_int Try.underlying5 ht
        obtain ⟨_, hlen, hat⟩ := World.cells?_some hc
        have hz := bounds_u8 w0
        refine ⟨UInt8.ofNat z.toNat, fun _ => ?_⟩
        have := hat 0 (by omega)
        rw [e0] at this
        have ha : (a.add i).add 0 = a.add i := by simp [Addr.add]
        rw [ha] at this
        rw [this, toNat_of (by omega)]
        simp
        omega
      · exact ⟨0, fun h => absurd h hin⟩
    obtain ⟨f, hf'⟩ := Classical.axiomOfChoice each
    have hlen : ((List.range len).map f).length = len := by simp
    have hget : ∀ i x, ((List.range len).map f)[i]? = some x → i < len ∧ x = f i := by
      intro i x hx
      have hi' : i < len := by
        have := (List.getElem?_eq_some_iff.1 hx).1
        simpa using this
      refine ⟨hi', ?_⟩
      simp [hi'] at hx
      exact hx.symm
    refine ⟨some a, (List.range len).map f, cap, by rw [hlen], by rw [hlen]; exact hl, hm, ?_, fun h => by cases h⟩
    intro hne
    have hn : 0 < len := by
      rcases Nat.eq_zero_or_pos len with h | h
      · subst h; exact absurd rfl hne
      · exact h
    have h00 := hf' 0 hn
    simp [Addr.add] at h00
    obtain ⟨b, o, rfl, hbl⟩ := cell_plainB h00
    refine ⟨b, o, rfl, hbl, fun i x hx => ?_⟩
    obtain ⟨hi', rfl⟩ := hget i x hx
    have hc := hf' i hi'
    rw [addr_add] at hc
    exact hc
set_option maxRecDepth 100000 in
theorem open_procB {fuel : Nat} {cs : List Value} {x : DataW H × List MemPlace} (h : DataW.trod enc Try.prog w base spare held fuel 33 cs = some x) :
    ∃ n l : Nat, cs = [.int .u8 n, .int .u16 l] := by
  obtain ⟨y0, y1, n, _, hl, h0, h1⟩ := trod_struct2 Try.underlying33 h
  have hC : Try.prog.cellsOf 33 = 2 := by kernel_rfl
  have hC5 : Try.prog.cellsOf 5 = 1 := by kernel_rfl
  have hC9 : Try.prog.cellsOf 31 = 1 := by kernel_rfl
  match cs, hl.trans hC with
  | [c0, c1], _ =>
      simp only [hC5, hC9, List.drop_zero, List.take_succ_cons, List.take_zero, List.drop_succ_cons, List.getElem?_cons_zero, List.getElem?_cons_succ] at h0 h1
      obtain ⟨g, e0, _, w0⟩ := DataW.trod_int Try.underlying5 h0
      obtain ⟨l, e2, _, w2⟩ := DataW.trod_int Try.underlying31 h1
      simp at e0 e2
      subst e0 e2
      have b0 := bounds_u8 w0
      have b2 := bounds_u16 w2
      exact ⟨g.toNat, l.toNat, by rw [show ((g.toNat : Nat) : Int) = g by omega, show ((l.toNat : Nat) : Int) = l by omega]⟩
set_option maxRecDepth 100000 in
theorem open_parcel {fuel : Nat} {cs : List Value} {x : DataW H × List MemPlace} (h : DataW.trod enc Try.prog w base spare held fuel 36 cs = some x) :
    ∃ p : Lp, cs = p.cs.toList ∧ p.In w := by
  obtain ⟨y0, y1, y2, y3, n, hx, hl, h0, h1, h2, h3⟩ := trod_struct4 Try.underlying36 h
  have hC : Try.prog.cellsOf 36 = 6 := by kernel_rfl
  have k0 : Try.prog.cellsOf 33 = 2 := by kernel_rfl
  have k2 : Try.prog.cellsOf 4 = 1 := by kernel_rfl
  have k3 : Try.prog.cellsOf 34 = 1 := by kernel_rfl
  match cs, hl.trans hC with
  | [x0, x1, x2, x3, x4, x5], _ =>
    simp only [k0, k2, k3, List.drop_zero, List.take_succ_cons, List.take_zero, List.drop_succ_cons] at h0 h1 h2 h3
    obtain ⟨fn, fl, e0⟩ := open_procB h0
    obtain ⟨tn, tl, e1⟩ := open_procB h1
    obtain ⟨A, X, c, e2, h9⟩ := open_bytes h2
    obtain ⟨bad, e3, _⟩ := DataW.trod_bool Try.underlying4 h3
    simp only [List.cons.injEq, and_true] at e0 e1 e2 e3
    obtain ⟨rfl, rfl⟩ := e0
    obtain ⟨rfl, rfl⟩ := e1
    subst e2 e3
    exact ⟨⟨⟨fn, fl, tn, tl, X, bad⟩, A, c⟩, rfl, ⟨h9.2.2.1, h9.1, h9.2.1, h9.2.2.2⟩⟩
theorem trod_five {P : Program} {fuel : Nat} {cs : List Value} {x : DataW H × List MemPlace} {t : TypeId} {f0 f1 f2 f3 f4 : Field} (hs : P.underlying t = some (.struct #[f0, f1, f2, f3, f4])) (h : DataW.trod enc P w base spare held fuel t cs = some x) :
    cs.length = P.cellsOf t ∧ ∃ (n : Nat) (y0 y1 y2 y3 y4 : DataW H × List MemPlace),
      DataW.trod enc P w base spare held n f0.type ((cs.drop f0.offset).take (P.cellsOf f0.type)) = some y0 ∧
      DataW.trod enc P w base spare held n f1.type ((cs.drop f1.offset).take (P.cellsOf f1.type)) = some y1 ∧
      DataW.trod enc P w base spare held n f2.type ((cs.drop f2.offset).take (P.cellsOf f2.type)) = some y2 ∧
      DataW.trod enc P w base spare held n f3.type ((cs.drop f3.offset).take (P.cellsOf f3.type)) = some y3 ∧
      DataW.trod enc P w base spare held n f4.type ((cs.drop f4.offset).take (P.cellsOf f4.type)) = some y4 := by
  obtain ⟨xs, n, _, hx, hl, hxs, hg⟩ := DataW.trod_struct hs h
  refine ⟨hl, n, ?_⟩
  match xs, hxs with
  | [y0, y1, y2, y3, y4], _ => exact ⟨y0, y1, y2, y3, y4, hg 0 f0 rfl, hg 1 f1 rfl, hg 2 f2 rfl, hg 3 f3 rfl, hg 4 f4 rfl⟩
set_option maxRecDepth 100000 in
theorem open_act {fuel : Nat} {cs : List Value} {x : DataW H × List MemPlace} (h : DataW.trod enc Try.prog w base spare held fuel 38 cs = some x) :
    ∃ a : Ac, cs = a.cs ∧ a.x.In w ∧ a.ok := by
  obtain ⟨hl, n, y0, y1, y2, y3, y4, h0, h1, h2, h3, h4⟩ := trod_five Try.underlying38 h
  have hC : Try.prog.cellsOf 38 = 10 := by kernel_rfl
  have k0 : Try.prog.cellsOf 3 = 1 := by kernel_rfl
  have k1 : Try.prog.cellsOf 30 = 1 := by kernel_rfl
  have k2 : Try.prog.cellsOf 36 = 6 := by kernel_rfl
  match cs, hl.trans hC with
  | [x0, x1, x2, x3, x4, x5, x6, x7, x8, x9], _ =>
    simp only [k0, k1, k2, List.drop_zero, List.take_succ_cons, List.take_zero, List.drop_succ_cons] at h0 h1 h2 h3 h4
    obtain ⟨kd, e0, _, w0⟩ := DataW.trod_int Try.underlying3 h0
    obtain ⟨i, e1, _, w1⟩ := DataW.trod_int Try.underlying3 h1
    obtain ⟨at_, e2, _, w2⟩ := DataW.trod_int Try.underlying3 h2
    obtain ⟨m, e3, _, w3⟩ := DataW.trod_int Try.underlying30 h3
    obtain ⟨p, e4, hp⟩ := open_parcel h4
    have b1 := bounds_i64 w1
    have b2 := bounds_i64 w2
    have b3 := bounds_u32 w3
    unfold Lp.cs at e4
    simp only [List.cons.injEq, and_true] at e0 e1 e2 e3 e4
    obtain ⟨rfl, rfl, rfl, rfl, rfl, rfl⟩ := e4
    subst e0 e1 e2 e3
    refine ⟨⟨kd, i, at_, m.toNat, p⟩, ?_, hp, b1, b2, ?_⟩
    · unfold Ac.cs
      simp only [show ((m.toNat : Nat) : Int) = m by omega]
    · show m.toNat < 4294967296
      omega
set_option maxRecDepth 100000 in
/-- a parcel as an argument. -/
theorem arg_parcel {r : Reach} {b0 : Nat} {v : Value} {d : DataW H} {p : List MemPlace} (hv : Value.okWide Try.prog w r b0 36 v) (h : DataW.Trod enc Try.prog w base spare held 36 v d p) : ∃ x : Lp, v = .agg x.cs ∧ x.In w := by
  obtain ⟨cs, rfl, _⟩ := okWide_struct Try.underlying36 hv
  obtain ⟨fuel, hf⟩ := h
  obtain ⟨x, e, hx⟩ := open_parcel hf
  refine ⟨x, ?_, hx⟩
  have e' : cs.toList = x.cs.toList := e
  rw [Array.toList_inj.1 e']
/-- an act as an argument. -/
theorem arg_act {r : Reach} {b0 : Nat} {v : Value} {d : DataW H} {p : List MemPlace} (hv : Value.okWide Try.prog w r b0 38 v) (h : DataW.Trod enc Try.prog w base spare held 38 v d p) : ∃ a : Ac, v = .agg a.cs.toArray ∧ a.x.In w ∧ a.ok := by
  obtain ⟨cs, rfl, _⟩ := okWide_struct Try.underlying38 hv
  obtain ⟨fuel, hf⟩ := h
  obtain ⟨x, e, hx⟩ := open_act hf
  refine ⟨x, ?_, hx⟩
  have e' : cs.toList = x.cs := e
  rw [← e']
/-- a list of acts in memory. -/
def RowsA (W : World) (A : Option Addr) (L : List Ac) : Prop :=
  ∀ i a, L[i]? = some a → (∃ b o, A = some ⟨b, o, none⟩ ∧ b < W.heap.size ∧ ∀ j u, a.cs[j]? = some u → W.cell? ⟨b, o + i * 10 + j, none⟩ = some u) ∧ a.x.In W ∧ a.ok
theorem RowsA.below {W W' : World} {A : Option Addr} {L : List Ac} (h : RowsA W A L) (hb : Below W.heap.size W W') : RowsA W' A L := fun i a ha => by
  obtain ⟨⟨b, o, e, hl, hc⟩, h2, h3⟩ := h i a ha
  exact ⟨⟨b, o, e, Nat.lt_of_lt_of_le hl hb.size, fun j u hu => (hb.cell (p := ⟨b, _, none⟩) hl).trans (hc j u hu)⟩, h2.below hb, h3⟩
set_option maxRecDepth 100000 in
/-- a list of acts as an argument. -/
theorem arg_acts {v : Value} {d : DataW H} {p : List MemPlace} {r : Reach} {b0 : Nat} (hv : Value.okWide Try.prog w r b0 22 v) (h : DataW.Trod enc Try.prog w base spare held 22 v d p) :
    ∃ (A : Option Addr) (L : List Ac) (c : Nat), v = .slice A L.length c ∧ L.length ≤ c ∧ c ≤ maxLen ∧ RowsA w A L := by
  obtain ⟨A, n, c, rfl⟩ := okWide_slice Try.underlying22 hv
  obtain ⟨fuel, hf⟩ := h
  rcases open_slice Try.underlying22 hf with ⟨h1, h2⟩ | ⟨a, len, cap, m, n', D, Pl, hcs, hb, hl, hm, hmm, hx, hi⟩
  · simp [Value.cells] at h1
    obtain ⟨rfl, rfl, rfl⟩ := h1
    exact ⟨none, [], 0, rfl, Nat.le_refl _, by unfold maxLen; omega, fun i a h => by simp at h⟩
  · simp [Value.cells] at hcs
    obtain ⟨rfl, rfl, rfl⟩ := hcs
    have hC : Try.prog.cellsOf 38 = 10 := by kernel_rfl
    have hlm : n ≤ m := by rw [hmm]; split <;> omega
    have each : ∀ i, ∃ q : Ac, i < n → (q.x.In w ∧ q.ok) ∧ ∀ j u, q.cs[j]? = some u → w.cell? ((a.add (i * 10)).add j) = some u := by
      intro i
      by_cases hin : i < n
      · obtain ⟨cs', hc, ht⟩ := hi i (by omega)
        rw [hC] at hc
        obtain ⟨q, hq, R⟩ := open_act ht
        obtain ⟨_, hlen, hat⟩ := World.cells?_some hc
        refine ⟨q, fun _ => ⟨R, fun j u hu => ?_⟩⟩
        have hj : j < 10 := by
          have := (List.getElem?_eq_some_iff.1 hu).1
          simpa [Ac.cs] using this
        rw [hat j hj, hq, hu]
      · exact ⟨⟨0, 0, 0, 0, ⟨⟨0, 0, 0, 0, [], false⟩, none, 0⟩⟩, fun h => absurd h hin⟩
    obtain ⟨f, hf'⟩ := Classical.axiomOfChoice each
    have hlen : ((List.range n).map f).length = n := by simp
    have hget : ∀ i x, ((List.range n).map f)[i]? = some x → i < n ∧ x = f i := by
      intro i x hx
      have hi' : i < n := by
        have := (List.getElem?_eq_some_iff.1 hx).1
        simpa using this
      refine ⟨hi', ?_⟩
      simp [hi'] at hx
      exact hx.symm
    refine ⟨some a, (List.range n).map f, c, by rw [hlen], by rw [hlen]; exact hl, hm, fun i x hx => ?_⟩
    obtain ⟨hi', rfl⟩ := hget i x hx
    refine ⟨?_, (hf' i hi').1⟩
    have hn : 0 < n := by omega
    have h00 := (hf' 0 hn).2 0 _ rfl
    simp [Addr.add] at h00
    obtain ⟨b, o, rfl, hbl⟩ := cell_plainB h00
    refine ⟨b, o, rfl, hbl, fun j u hu => ?_⟩
    have hc := (hf' i hi').2 j u hu
    rwa [addr_add, addr_add] at hc
end
end Go.Proofs.Yteaafpgkifmdeaa
