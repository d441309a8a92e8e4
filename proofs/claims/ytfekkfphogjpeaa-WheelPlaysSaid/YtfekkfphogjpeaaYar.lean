/-
  A key of the document, an act, lists of acts and of numbers as arguments. No condition.
-/
import Derived.Test.YtfekkfphogjpeaaYrc
import Derived.Deep.Slices
import Derived.Deep.Fields
import Derived.Lib.SmallJoins
import Derived.OpenShut
import Derived.Deep.Strs
namespace Go.Proofs.Ytfekkfphogjpeaa
set_option linter.unusedSimpArgs false
set_option linter.unusedVariables false
open Go.RowKit Go.ChangeShapes Go.WideShapes Go.Joins Go.Deep

/-- an act. -/
structure Ac where
  kd : Int
  at_ : Int
  x : K13
def Ac.cs (a : Ac) : List Value := [.int .i64 a.kd, .int .i64 a.at_, .int .u8 a.x.k, .int .u8 a.x.pn, .int .u16 a.x.pl, .int .u8 a.x.x.n, .int .u16 a.x.x.l, .int .u32 a.x.x.s, .int .u8 a.x.x.d, .int .u8 a.x.x.a0, .int .u8 a.x.x.a1, .int .u8 a.x.x.b0, .int .u8 a.x.x.b1, .int .u8 a.x.x.c0, .int .u8 a.x.x.c1]
def Ac.ok (a : Ac) : Prop := (-9223372036854775808 ≤ a.at_ ∧ a.at_ ≤ 9223372036854775807) ∧ a.x.Rng
theorem cell_plainB {W : World} {a : Addr} {u : Value} (h : W.cell? a = some u) : ∃ b o, a = ⟨b, o, none⟩ ∧ b < W.heap.size := by
  have hl := World.block_lt_of_cell? W a h
  obtain ⟨b, o, s⟩ := a
  cases s with
  | none => exact ⟨b, o, rfl, hl⟩
  | some s =>
    exfalso
    simp only [World.cell?] at h
    split at h <;> simp at h
section
variable {H : Type} {enc : TypeId × Value → H} {w : World} {base : Nat} {spare : Nat → Bool} {held : Bool}
set_option maxRecDepth 100000 in
theorem open_key {fuel : Nat} {cs : List Value} {x : DataW H × List MemPlace} (h : DataW.trod enc Try.prog w base spare held fuel 38 cs = some x) :
    ∃ k : K13, cs = k.cs.toList ∧ k.Rng := by
  obtain ⟨y0, y1, y2, n, _, hl, h0, h1, h2⟩ := trod_struct3 Try.underlying38 h
  have hC : Try.prog.cellsOf 38 = 13 := by kernel_rfl
  have k0 : Try.prog.cellsOf 5 = 1 := by kernel_rfl
  have k1 : Try.prog.cellsOf 30 = 2 := by kernel_rfl
  have k2 : Try.prog.cellsOf 36 = 10 := by kernel_rfl
  have k3 : Try.prog.cellsOf 28 = 1 := by kernel_rfl
  match cs, hl.trans hC with
  | [x0, x1, x2, x3, x4, x5, x6, x7, x8, x9, x10, x11, x12], _ =>
      simp only [k0, k1, k2, List.drop_zero, List.take_succ_cons, List.take_zero, List.drop_succ_cons] at h0 h1 h2
      obtain ⟨kd, e0, _, w0⟩ := DataW.trod_int Try.underlying5 h0
      obtain ⟨p0, p1, m0, _, _, g0, g1⟩ := trod_struct2 Try.underlying30 h1
      simp only [k0, k3, List.drop_zero, List.take_succ_cons, List.take_zero, List.drop_succ_cons] at g0 g1
      obtain ⟨pn, e1, _, w1⟩ := DataW.trod_int Try.underlying5 g0
      obtain ⟨pl, e2, _, w2⟩ := DataW.trod_int Try.underlying28 g1
      obtain ⟨n', l, s, d, a0, a1, b0, b1, c0, c1, e3, r0, r1, r2, r3, r4, r5, r6, r7, r8, r9⟩ := open_cells h2
      simp only [List.cons.injEq, and_true] at e0 e1 e2 e3
      obtain ⟨rfl, rfl, rfl, rfl, rfl, rfl, rfl, rfl, rfl, rfl⟩ := e3
      subst e0 e1 e2
      exact ⟨⟨kd, pn, pl, ⟨n', l, s, d, a0, a1, b0, b1, c0, c1⟩⟩, rfl, ⟨bounds_u8 w0, bounds_u8 w1, bounds_u16 w2, ⟨r0, r1, r2, r3, r4, r5, r6, r7, r8, r9⟩⟩⟩
set_option maxRecDepth 100000 in
theorem open_act {fuel : Nat} {cs : List Value} {x : DataW H × List MemPlace} (h : DataW.trod enc Try.prog w base spare held fuel 40 cs = some x) :
    ∃ a : Ac, cs = a.cs ∧ a.ok := by
  obtain ⟨y0, y1, y2, n, _, hl, h0, h1, h2⟩ := trod_struct3 Try.underlying40 h
  have hC : Try.prog.cellsOf 40 = 15 := by kernel_rfl
  have k0 : Try.prog.cellsOf 3 = 1 := by kernel_rfl
  have k1 : Try.prog.cellsOf 38 = 13 := by kernel_rfl
  match cs, hl.trans hC with
  | [x0, x1, x2, x3, x4, x5, x6, x7, x8, x9, x10, x11, x12, x13, x14], _ =>
      simp only [k0, k1, List.drop_zero, List.take_succ_cons, List.take_zero, List.drop_succ_cons] at h0 h1 h2
      obtain ⟨kd, e0, _, w0⟩ := DataW.trod_int Try.underlying3 h0
      obtain ⟨at_, e1, _, w1⟩ := DataW.trod_int Try.underlying3 h1
      obtain ⟨k, e2, rk⟩ := open_key h2
      have b1 := bounds_i64 w1
      unfold K13.cs at e2
      simp only [List.cons.injEq, and_true] at e0 e1 e2
      obtain ⟨rfl, rfl, rfl, rfl, rfl, rfl, rfl, rfl, rfl, rfl, rfl, rfl, rfl⟩ := e2
      subst e0 e1
      exact ⟨⟨kd, at_, k⟩, rfl, b1, rk⟩
set_option maxRecDepth 100000 in
/-- a key as an argument. -/
theorem arg_key {r : Reach} {b0 : Nat} {v : Value} {d : DataW H} {p : List MemPlace} (hv : Value.okWide Try.prog w r b0 38 v) (h : DataW.Trod enc Try.prog w base spare held 38 v d p) : ∃ x : K13, v = .agg x.cs ∧ x.Rng := by
  obtain ⟨cs, rfl, _⟩ := okWide_struct Try.underlying38 hv
  obtain ⟨fuel, hf⟩ := h
  obtain ⟨x, e, hx⟩ := open_key hf
  refine ⟨x, ?_, hx⟩
  have e' : cs.toList = x.cs.toList := e
  rw [Array.toList_inj.1 e']
set_option maxRecDepth 100000 in
/-- an act as an argument. -/
theorem arg_act {r : Reach} {b0 : Nat} {v : Value} {d : DataW H} {p : List MemPlace} (hv : Value.okWide Try.prog w r b0 40 v) (h : DataW.Trod enc Try.prog w base spare held 40 v d p) : ∃ a : Ac, v = .agg a.cs.toArray ∧ a.ok := by
  obtain ⟨cs, rfl, _⟩ := okWide_struct Try.underlying40 hv
  obtain ⟨fuel, hf⟩ := h
  obtain ⟨x, e, hx⟩ := open_act hf
  refine ⟨x, ?_, hx⟩
  have e' : cs.toList = x.cs := e
  rw [← e']
/-- such a list in memory. -/
def arg_actsR (W : World) (A : Option Addr) (L : List Ac) : Prop :=
  ∀ i a, L[i]? = some a → (∃ b o, A = some ⟨b, o, none⟩ ∧ b < W.heap.size ∧ ∀ j u, (a.cs)[j]? = some u → W.cell? ⟨b, o + i * 15 + j, none⟩ = some u) ∧ a.ok
theorem arg_actsR.below {W W' : World} {A : Option Addr} {L : List Ac} (h : arg_actsR W A L) (hb : Below W.heap.size W W') : arg_actsR W' A L := fun i a ha => by
  obtain ⟨⟨b, o, e, hl, hc⟩, h2⟩ := h i a ha
  exact ⟨⟨b, o, e, Nat.lt_of_lt_of_le hl hb.size, fun j u hu => (hb.cell (p := ⟨b, _, none⟩) hl).trans (hc j u hu)⟩, h2⟩
set_option maxRecDepth 100000 in
/-- a list of acts as an argument. -/
theorem arg_acts {v : Value} {d : DataW H} {p : List MemPlace} {r : Reach} {b0 : Nat} (hv : Value.okWide Try.prog w r b0 22 v) (h : DataW.Trod enc Try.prog w base spare held 22 v d p) :
    ∃ (A : Option Addr) (L : List Ac) (c : Nat), v = .slice A L.length c ∧ L.length ≤ c ∧ c ≤ maxLen ∧ arg_actsR w A L := by
  obtain ⟨A, n, c, rfl⟩ := okWide_slice Try.underlying22 hv
  obtain ⟨fuel, hf⟩ := h
  rcases open_slice Try.underlying22 hf with ⟨h1, h2⟩ | ⟨a, len, cap, m, n', D, Pl, hcs, hb, hl, hm, hmm, hx, hi⟩
  · simp [Value.cells] at h1
    obtain ⟨rfl, rfl, rfl⟩ := h1
    exact ⟨none, [], 0, rfl, Nat.le_refl _, by unfold maxLen; omega, fun i a h => by simp at h⟩
  · simp [Value.cells] at hcs
    obtain ⟨rfl, rfl, rfl⟩ := hcs
    have hC : Try.prog.cellsOf 40 = 15 := by kernel_rfl
    have hlm : n ≤ m := by rw [hmm]; split <;> omega
    have each : ∀ i, ∃ q : Ac, i < n → q.ok ∧ ∀ j u, (q.cs)[j]? = some u → w.cell? ((a.add (i * 15)).add j) = some u := by
      intro i
      by_cases hin : i < n
      · obtain ⟨cs', hc, ht⟩ := hi i (by omega)
        rw [hC] at hc
        obtain ⟨q, hq, R⟩ := open_act ht
        obtain ⟨_, hlen, hat⟩ := World.cells?_some hc
        refine ⟨q, fun _ => ⟨R, fun j u hu => ?_⟩⟩
        have hj : j < 15 := by
          have := (List.getElem?_eq_some_iff.1 hu).1
          simpa [Ac.cs] using this
        rw [hat j hj, hq, hu]
      · exact ⟨⟨0, 0, ⟨0, 0, 0, zer⟩⟩, fun h => absurd h hin⟩
    obtain ⟨f, hf'⟩ := Classical.axiomOfChoice each
    have hlen : ((List.range n).map f).length = n := by simp
    have hget : ∀ i x, ((List.range n).map f)[i]? = some x → i < n ∧ x = f i := by
      intro i x hx
      have hi' : i < n := by
        have := (List.getElem?_eq_some_iff.1 hx).1
        simpa using this
      refine ⟨hi', ?_⟩
      simp [hi'] at hx
      exact hx.symm
    refine ⟨some a, (List.range n).map f, c, by rw [hlen], by rw [hlen]; exact hl, hm, fun i x hx => ?_⟩
    obtain ⟨hi', rfl⟩ := hget i x hx
    refine ⟨?_, (hf' i hi').1⟩
    have hn : 0 < n := by omega
    have h00 := (hf' 0 hn).2 0 _ rfl
    simp [Addr.add] at h00
    obtain ⟨b, o, rfl, hbl⟩ := cell_plainB h00
    refine ⟨b, o, rfl, hbl, fun j u hu => ?_⟩
    have hc := (hf' i hi').2 j u hu
    rwa [addr_add, addr_add] at hc
/-- such a list in memory. -/
def arg_intsR (W : World) (A : Option Addr) (L : List Int) : Prop :=
  ∀ i a, L[i]? = some a → (∃ b o, A = some ⟨b, o, none⟩ ∧ b < W.heap.size ∧ ∀ j u, ([Value.int .i64 a])[j]? = some u → W.cell? ⟨b, o + i * 1 + j, none⟩ = some u) ∧ (-9223372036854775808 ≤ a ∧ a ≤ 9223372036854775807)
theorem arg_intsR.below {W W' : World} {A : Option Addr} {L : List Int} (h : arg_intsR W A L) (hb : Below W.heap.size W W') : arg_intsR W' A L := fun i a ha => by
  obtain ⟨⟨b, o, e, hl, hc⟩, h2⟩ := h i a ha
  exact ⟨⟨b, o, e, Nat.lt_of_lt_of_le hl hb.size, fun j u hu => (hb.cell (p := ⟨b, _, none⟩) hl).trans (hc j u hu)⟩, h2⟩
set_option maxRecDepth 100000 in
/-- a list of numbers as an argument. -/
theorem arg_ints {v : Value} {d : DataW H} {p : List MemPlace} {r : Reach} {b0 : Nat} (hv : Value.okWide Try.prog w r b0 69 v) (h : DataW.Trod enc Try.prog w base spare held 69 v d p) :
    ∃ (A : Option Addr) (L : List Int) (c : Nat), v = .slice A L.length c ∧ L.length ≤ c ∧ c ≤ maxLen ∧ arg_intsR w A L := by
  obtain ⟨A, n, c, rfl⟩ := okWide_slice Try.underlying69 hv
  obtain ⟨fuel, hf⟩ := h
  rcases open_slice Try.underlying69 hf with ⟨h1, h2⟩ | ⟨a, len, cap, m, n', D, Pl, hcs, hb, hl, hm, hmm, hx, hi⟩
  · simp [Value.cells] at h1
    obtain ⟨rfl, rfl, rfl⟩ := h1
    exact ⟨none, [], 0, rfl, Nat.le_refl _, by unfold maxLen; omega, fun i a h => by simp at h⟩
  · simp [Value.cells] at hcs
    obtain ⟨rfl, rfl, rfl⟩ := hcs
    have hC : Try.prog.cellsOf 3 = 1 := by kernel_rfl
    have hlm : n ≤ m := by rw [hmm]; split <;> omega
    have each : ∀ i, ∃ q : Int, i < n → (-9223372036854775808 ≤ q ∧ q ≤ 9223372036854775807) ∧ ∀ j u, ([Value.int .i64 q])[j]? = some u → w.cell? ((a.add (i * 1)).add j) = some u := by
      intro i
      by_cases hin : i < n
      · obtain ⟨cs', hc, ht⟩ := hi i (by omega)
        rw [hC] at hc
        obtain ⟨q, hq, _, w0⟩ := DataW.trod_int Try.underlying3 ht
        have R := bounds_i64 w0
        obtain ⟨_, hlen, hat⟩ := World.cells?_some hc
        refine ⟨q, fun _ => ⟨R, fun j u hu => ?_⟩⟩
        have hj : j < 1 := by
          have := (List.getElem?_eq_some_iff.1 hu).1
          simpa [Ac.cs] using this
        rw [hat j hj, hq, hu]
      · exact ⟨0, fun h => absurd h hin⟩
    obtain ⟨f, hf'⟩ := Classical.axiomOfChoice each
    have hlen : ((List.range n).map f).length = n := by simp
    have hget : ∀ i x, ((List.range n).map f)[i]? = some x → i < n ∧ x = f i := by
      intro i x hx
      have hi' : i < n := by
        have := (List.getElem?_eq_some_iff.1 hx).1
        simpa using this
      refine ⟨hi', ?_⟩
      simp [hi'] at hx
      exact hx.symm
    refine ⟨some a, (List.range n).map f, c, by rw [hlen], by rw [hlen]; exact hl, hm, fun i x hx => ?_⟩
    obtain ⟨hi', rfl⟩ := hget i x hx
    refine ⟨?_, (hf' i hi').1⟩
    have hn : 0 < n := by omega
    have h00 := (hf' 0 hn).2 0 _ rfl
    simp [Addr.add] at h00
    obtain ⟨b, o, rfl, hbl⟩ := cell_plainB h00
    refine ⟨b, o, rfl, hbl, fun j u hu => ?_⟩
    have hc := (hf' i hi').2 j u hu
    rwa [addr_add, addr_add] at hc
end

end Go.Proofs.Ytfekkfphogjpeaa
