/-
  Acts on a link, and lists of these, as arguments; a process. No condition.
-/
import Derived.Test.YtgnfclikdfllnaaJar
namespace Go.Proofs.Ytgnfclikdfllnaa
set_option linter.unusedSimpArgs false
set_option linter.unusedVariables false
open Go.RowKit Go.ChangeShapes Go.WideShapes Go.Joins Go.Deep

/-- an act. -/
structure Ac where
  kd : Int
  at_ : Int
  B : List UInt8
  BA : Option Addr
  bc : Nat
  p : Hp
  PA : Option Addr
  pc : Nat
def Ac.cs (a : Ac) : List Value := [.int .i64 a.kd, .int .i64 a.at_, .slice a.BA a.B.length a.bc, .int .u8 a.p.fn, .int .u16 a.p.fl, .int .u8 a.p.tn, .int .u16 a.p.tl, .int .u64 a.p.seq, .int .u64 a.p.ack, .bool a.p.has, .slice a.PA a.p.B.length a.pc]
def Ac.ok (a : Ac) : Prop := (-9223372036854775808 ≤ a.at_ ∧ a.at_ ≤ 9223372036854775807) ∧ a.p.ok
structure Ac.In (a : Ac) (W : World) : Prop where
  b : BytesAt W W.heap.size a.BA a.B
  bl : a.B.length ≤ a.bc
  bm : a.bc ≤ maxLen
  bn : a.BA = none → a.B.length = 0 ∧ a.bc = 0
  p : BytesAt W W.heap.size a.PA a.p.B
  pl : a.p.B.length ≤ a.pc
  pm : a.pc ≤ maxLen
  pn : a.PA = none → a.p.B.length = 0 ∧ a.pc = 0
theorem Ac.In.below {a : Ac} {W W' : World} (h : a.In W) (hb : Below W.heap.size W W') : a.In W' :=
  ⟨h.b.below hb (Nat.le_refl _) hb.size, h.bl, h.bm, h.bn, h.p.below hb (Nat.le_refl _) hb.size, h.pl, h.pm, h.pn⟩
section
variable {H : Type} {enc : TypeId × Value → H} {w : World} {base : Nat} {spare : Nat → Bool} {held : Bool}
set_option maxRecDepth 100000 in
theorem open_bytesB {fuel : Nat} {cs : List Value} {y : DataW H × List MemPlace} (h : DataW.trod enc Try.prog w base spare held fuel 35 cs = some y) :
    ∃ (A : Option Addr) (X : List UInt8) (c : Nat), cs = [.slice A X.length c] ∧ X.length ≤ c ∧ c ≤ maxLen ∧ BytesAt w w.heap.size A X ∧ (A = none → X.length = 0 ∧ c = 0) := by
  rcases open_slice Try.underlying35 h with ⟨rfl, h2⟩ | ⟨a, len, cap, m, n', D, Pl, rfl, hb, hl, hm, hmm, hx, hi⟩
  · exact ⟨none, [], 0, rfl, Nat.le_refl _, by unfold maxLen; omega, fun e => absurd rfl e, fun _ => ⟨rfl, rfl⟩⟩
  · have hC : Try.prog.cellsOf 5 = 1 := by kernel_rfl
    have hlm : len ≤ m := by rw [hmm]; split <;> omega
    have each : ∀ i, ∃ q : UInt8, i < len → w.cell? (a.add i) = some (.int .u8 (q.toNat : Nat)) := by
      intro i
      by_cases hin : i < len
      · obtain ⟨cs', hc, ht⟩ := hi i (by omega)
        rw [hC, Nat.mul_one] at hc
        obtain ⟨z, e0, _, w0⟩ := DataW.trod_int Try.underlying5 ht
        obtain ⟨_, hlen, hat⟩ := World.cells?_some hc
        have hz := bounds_u8 w0
        refine ⟨UInt8.ofNat z.toNat, fun _ => ?_⟩
        have := hat 0 (by omega)
        rw [e0] at this
        have ha : (a.add i).add 0 = a.add i := by simp [Addr.add]
        rw [ha] at this
        rw [this, toNat_of (by omega)]
        simp
        omega
      · exact ⟨0, fun h => absurd h hin⟩
    obtain ⟨f, hf'⟩ := Classical.axiomOfChoice each
    have hlen : ((List.range len).map f).length = len := by simp
    have hget : ∀ i x, ((List.range len).map f)[i]? = some x → i < len ∧ x = f i := by
      intro i x hx
      have hi' : i < len := by
        have := (List.getElem?_eq_some_iff.1 hx).1
        simpa using this
      refine ⟨hi', ?_⟩
      simp [hi'] at hx
      exact hx.symm
    refine ⟨some a, (List.range len).map f, cap, by rw [hlen], by rw [hlen]; exact hl, hm, ?_, fun h => by cases h⟩
    intro hne
    have hn : 0 < len := by
      rcases Nat.eq_zero_or_pos len with h | h
      · subst h; exact absurd rfl hne
      · exact h
    have h00 := hf' 0 hn
    simp [Addr.add] at h00
    obtain ⟨b, o, rfl, hbl⟩ := cell_plainB h00
    refine ⟨b, o, rfl, hbl, fun i x hx => ?_⟩
    obtain ⟨hi', rfl⟩ := hget i x hx
    have hc := hf' i hi'
    rw [addr_add] at hc
    exact hc
set_option maxRecDepth 100000 in
theorem open_procB {fuel : Nat} {cs : List Value} {x : DataW H × List MemPlace} (h : DataW.trod enc Try.prog w base spare held fuel 24 cs = some x) :
    ∃ n l : Nat, cs = [.int .u8 n, .int .u16 l] := by
  obtain ⟨y0, y1, n, _, hl, h0, h1⟩ := trod_struct2 Try.underlying24 h
  have hC : Try.prog.cellsOf 24 = 2 := by kernel_rfl
  have hC5 : Try.prog.cellsOf 5 = 1 := by kernel_rfl
  have hC9 : Try.prog.cellsOf 22 = 1 := by kernel_rfl
  match cs, hl.trans hC with
  | [c0, c1], _ =>
      simp only [hC5, hC9, List.drop_zero, List.take_succ_cons, List.take_zero, List.drop_succ_cons, List.getElem?_cons_zero, List.getElem?_cons_succ] at h0 h1
      obtain ⟨g, e0, _, w0⟩ := DataW.trod_int Try.underlying5 h0
      obtain ⟨l, e2, _, w2⟩ := DataW.trod_int Try.underlying22 h1
      simp at e0 e2
      subst e0 e2
      have b0 := bounds_u8 w0
      have b2 := bounds_u16 w2
      exact ⟨g.toNat, l.toNat, by rw [show ((g.toNat : Nat) : Int) = g by omega, show ((l.toNat : Nat) : Int) = l by omega]⟩
set_option maxRecDepth 100000 in
theorem open_packetB {fuel : Nat} {cs : List Value} {x : DataW H × List MemPlace} (h : DataW.trod enc Try.prog w base spare held fuel 37 cs = some x) :
    ∃ (p : Hp) (A : Option Addr) (c : Nat), cs = (p.cs A c).toList ∧ p.ok ∧ p.B.length ≤ c ∧ c ≤ maxLen ∧ BytesAt w w.heap.size A p.B ∧ (A = none → p.B.length = 0 ∧ c = 0) := by
  obtain ⟨hl, n, y0, y1, y2, y3, y4, y5, h0, h1, h2, h3, h4, h5, hx⟩ := trod_six Try.underlying37 h
  have hC : Try.prog.cellsOf 37 = 8 := by kernel_rfl
  have k0 : Try.prog.cellsOf 24 = 2 := by kernel_rfl
  have k1 : Try.prog.cellsOf 25 = 1 := by kernel_rfl
  have k2 : Try.prog.cellsOf 4 = 1 := by kernel_rfl
  have k3 : Try.prog.cellsOf 35 = 1 := by kernel_rfl
  match cs, hl.trans hC with
  | [x0, x1, x2, x3, x4, x5, x6, x7], _ =>
    simp only [k0, k1, k2, k3, List.drop_zero, List.take_succ_cons, List.take_zero, List.drop_succ_cons] at h0 h1 h2 h3 h4 h5
    obtain ⟨fn, fl, e0⟩ := open_procB h0
    obtain ⟨tn, tl, e1⟩ := open_procB h1
    obtain ⟨sq, e2, _, w2⟩ := DataW.trod_int Try.underlying25 h2
    obtain ⟨ak, e3, _, w3⟩ := DataW.trod_int Try.underlying25 h3
    obtain ⟨hs, e4, _⟩ := DataW.trod_bool Try.underlying4 h4
    obtain ⟨A, X, c, e5, h9⟩ := open_bytesB h5
    simp only [List.cons.injEq, and_true] at e0 e1 e2 e3 e4 e5
    obtain ⟨rfl, rfl⟩ := e0
    obtain ⟨rfl, rfl⟩ := e1
    subst e2 e3 e4 e5
    have b2 := bounds_u64 w2
    have b3 := bounds_u64 w3
    exact ⟨⟨fn, fl, tn, tl, sq.toNat, ak.toNat, hs, X⟩, A, c, by simp only [Hp.cs]; rw [show ((sq.toNat : Nat) : Int) = sq by omega, show ((ak.toNat : Nat) : Int) = ak by omega], ⟨by show sq.toNat ≤ _; omega, by show ak.toNat ≤ _; omega⟩, h9⟩
set_option maxRecDepth 100000 in
theorem open_act {fuel : Nat} {cs : List Value} {x : DataW H × List MemPlace} (h : DataW.trod enc Try.prog w base spare held fuel 39 cs = some x) :
    ∃ a : Ac, cs = a.cs ∧ (a.ok ∧ a.In w) := by
  obtain ⟨y0, y1, y2, y3, n, hx, hl, h0, h1, h2, h3⟩ := trod_struct4 Try.underlying39 h
  have hC : Try.prog.cellsOf 39 = 11 := by kernel_rfl
  have k0 : Try.prog.cellsOf 3 = 1 := by kernel_rfl
  have k1 : Try.prog.cellsOf 35 = 1 := by kernel_rfl
  have k2 : Try.prog.cellsOf 37 = 8 := by kernel_rfl
  match cs, hl.trans hC with
  | [x0, x1, x2, x3, x4, x5, x6, x7, x8, x9, x10], _ =>
    simp only [k0, k1, k2, List.drop_zero, List.take_succ_cons, List.take_zero, List.drop_succ_cons] at h0 h1 h2 h3
    obtain ⟨kd, e0, _, w0⟩ := DataW.trod_int Try.underlying3 h0
    obtain ⟨at_, e1, _, w1⟩ := DataW.trod_int Try.underlying3 h1
    obtain ⟨A, X, c, e2, g1, g2, g3, g4⟩ := open_bytesB h2
    obtain ⟨p, PA, pc, e3, q0, q1, q2, q3, q4⟩ := open_packetB h3
    have b1 := bounds_i64 w1
    unfold Hp.cs at e3
    simp only [List.cons.injEq, and_true] at e0 e1 e2 e3
    obtain ⟨rfl, rfl, rfl, rfl, rfl, rfl, rfl, rfl⟩ := e3
    subst e0 e1 e2
    exact ⟨⟨kd, at_, X, A, c, p, PA, pc⟩, rfl, ⟨b1, q0⟩, ⟨g3, g1, g2, g4, q3, q1, q2, q4⟩⟩
set_option maxRecDepth 100000 in
/-- a process as an argument. -/
theorem arg_proc {r : Reach} {b0 : Nat} {v : Value} {d : DataW H} {p : List MemPlace} (hv : Value.okWide Try.prog w r b0 24 v) (h : DataW.Trod enc Try.prog w base spare held 24 v d p) : ∃ n l : Nat, v = .agg #[.int .u8 n, .int .u16 l] := by
  obtain ⟨cs, rfl, _⟩ := okWide_struct Try.underlying24 hv
  obtain ⟨fuel, hf⟩ := h
  obtain ⟨n, l, e⟩ := open_procB hf
  refine ⟨n, l, ?_⟩
  have e' : cs.toList = [.int .u8 n, .int .u16 l] := e
  rw [← Array.toArray_toList (xs := cs), e']
/-- such a list in memory. -/
def arg_actsR (W : World) (A : Option Addr) (L : List Ac) : Prop :=
  ∀ i a, L[i]? = some a → (∃ b o, A = some ⟨b, o, none⟩ ∧ b < W.heap.size ∧ ∀ j u, (a.cs)[j]? = some u → W.cell? ⟨b, o + i * 11 + j, none⟩ = some u) ∧ a.ok ∧ a.In W
theorem arg_actsR.below {W W' : World} {A : Option Addr} {L : List Ac} (h : arg_actsR W A L) (hb : Below W.heap.size W W') : arg_actsR W' A L := fun i a ha => by
  obtain ⟨⟨b, o, e, hl, hc⟩, h2⟩ := h i a ha
  exact ⟨⟨b, o, e, Nat.lt_of_lt_of_le hl hb.size, fun j u hu => (hb.cell (p := ⟨b, _, none⟩) hl).trans (hc j u hu)⟩, h2.1, h2.2.below hb⟩
set_option maxRecDepth 100000 in
/-- a list of acts as an argument. -/
theorem arg_acts {v : Value} {d : DataW H} {p : List MemPlace} {r : Reach} {b0 : Nat} (hv : Value.okWide Try.prog w r b0 26 v) (h : DataW.Trod enc Try.prog w base spare held 26 v d p) :
    ∃ (A : Option Addr) (L : List Ac) (c : Nat), v = .slice A L.length c ∧ L.length ≤ c ∧ c ≤ maxLen ∧ arg_actsR w A L := by
  obtain ⟨A, n, c, rfl⟩ := okWide_slice Try.underlying26 hv
  obtain ⟨fuel, hf⟩ := h
  rcases open_slice Try.underlying26 hf with ⟨h1, h2⟩ | ⟨a, len, cap, m, n', D, Pl, hcs, hb, hl, hm, hmm, hx, hi⟩
  · simp [Value.cells] at h1
    obtain ⟨rfl, rfl, rfl⟩ := h1
    exact ⟨none, [], 0, rfl, Nat.le_refl _, by unfold maxLen; omega, fun i a h => by simp at h⟩
  · simp [Value.cells] at hcs
    obtain ⟨rfl, rfl, rfl⟩ := hcs
    have hC : Try.prog.cellsOf 39 = 11 := by kernel_rfl
    have hlm : n ≤ m := by rw [hmm]; split <;> omega
    have each : ∀ i, ∃ q : Ac, i < n → (q.ok ∧ q.In w) ∧ ∀ j u, (q.cs)[j]? = some u → w.cell? ((a.add (i * 11)).add j) = some u := by
      intro i
      by_cases hin : i < n
      · obtain ⟨cs', hc, ht⟩ := hi i (by omega)
        rw [hC] at hc
        obtain ⟨q, hq, R⟩ := open_act ht
        obtain ⟨_, hlen, hat⟩ := World.cells?_some hc
        refine ⟨q, fun _ => ⟨R, fun j u hu => ?_⟩⟩
        have hj : j < 11 := by
          have := (List.getElem?_eq_some_iff.1 hu).1
          simpa [Ac.cs, Hp.cs] using this
        rw [hat j hj, hq, hu]
      · exact ⟨⟨0, 0, [], none, 0, ⟨0, 0, 0, 0, 0, 0, false, []⟩, none, 0⟩, fun h => absurd h hin⟩
    obtain ⟨f, hf'⟩ := Classical.axiomOfChoice each
    have hlen : ((List.range n).map f).length = n := by simp
    have hget : ∀ i x, ((List.range n).map f)[i]? = some x → i < n ∧ x = f i := by
      intro i x hx
      have hi' : i < n := by
        have := (List.getElem?_eq_some_iff.1 hx).1
        simpa using this
      refine ⟨hi', ?_⟩
      simp [hi'] at hx
      exact hx.symm
    refine ⟨some a, (List.range n).map f, c, by rw [hlen], by rw [hlen]; exact hl, hm, fun i x hx => ?_⟩
    obtain ⟨hi', rfl⟩ := hget i x hx
    refine ⟨?_, (hf' i hi').1⟩
    have hn : 0 < n := by omega
    have h00 := (hf' 0 hn).2 0 _ rfl
    simp [Addr.add] at h00
    obtain ⟨b, o, rfl, hbl⟩ := cell_plainB h00
    refine ⟨b, o, rfl, hbl, fun j u hu => ?_⟩
    have hc := (hf' i hi').2 j u hu
    rwa [addr_add, addr_add] at hc
end

end Go.Proofs.Ytgnfclikdfllnaa
