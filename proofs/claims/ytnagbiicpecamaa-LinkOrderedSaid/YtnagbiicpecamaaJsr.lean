/-
  Arguments of the law: integers. No condition.
-/
import Derived.Test.YtnagbiicpecamaaJar
import Derived.Deep.MidRow
import Derived.Lib.SmallJoins
import Derived.Deep.Slices
import Derived.Deep.Strs
import Derived.Deep.Fields
import Derived.OpenShut
namespace Go.Proofs.Ytnagbiicpecamaa
set_option linter.unusedSimpArgs false
set_option linter.unusedVariables false
open Go.RowKit Go.Maps Go.Sort Go.ChangeShapes Go.WideShapes Go.Joins Go.Deep

section
variable {H : Type} {enc : TypeId × Value → H} {w : World} {base : Nat} {spare : Nat → Bool} {held : Bool}
set_option maxRecDepth 100000 in
theorem arg_intG {r : Reach} {b0 : Nat} {v : Value} {d : DataW H} {p : List MemPlace} {t : TypeId} {q : IntKind} (ht : Try.prog.underlying t = some (.int q)) (hv : Value.okWide Try.prog w r b0 t v) (h : DataW.Trod enc Try.prog w base spare held t v d p) :
    ∃ n : Int, v = .int q n ∧ (Lit.int q n).wf = true := by
  obtain ⟨m, rfl⟩ := okWide_int ht hv
  obtain ⟨fuel, hf⟩ := h
  obtain ⟨n, e, _, w0⟩ := DataW.trod_int ht hf
  have e' : [Value.int q m] = [Value.int q n] := e
  simp only [List.cons.injEq, Value.int.injEq, true_and, and_true] at e'
  subst e'
  exact ⟨m, rfl, w0⟩
/-- a step. -/
structure St3 where
  kd : Int
  x : Int
  n : Int
def St3.cs (a : St3) : List Value := [.int .i64 a.kd, .int .i64 a.x, .int .i64 a.n]
set_option maxRecDepth 100000 in
theorem open_step {fuel : Nat} {cs : List Value} {x : DataW H × List MemPlace} (h : DataW.trod enc Try.prog w base spare held fuel 37 cs = some x) : ∃ a : St3, cs = a.cs := by
  obtain ⟨y0, y1, y2, n, hx, hl, h0, h1, h2⟩ := trod_struct3 Try.underlying37 h
  have hC : Try.prog.cellsOf 37 = 3 := by kernel_rfl
  have k0 : Try.prog.cellsOf 3 = 1 := by kernel_rfl
  match cs, hl.trans hC with
  | [x0, x1, x2], _ =>
    simp only [k0, List.drop_zero, List.take_succ_cons, List.take_zero, List.drop_succ_cons] at h0 h1 h2
    obtain ⟨a0, e0, _⟩ := DataW.trod_int Try.underlying3 h0
    obtain ⟨a1, e1, _⟩ := DataW.trod_int Try.underlying3 h1
    obtain ⟨a2, e2, _⟩ := DataW.trod_int Try.underlying3 h2
    simp only [List.cons.injEq, and_true] at e0 e1 e2
    subst e0 e1 e2
    exact ⟨⟨a0, a1, a2⟩, rfl⟩
/-- such a list in memory. -/
def arg_stepsQ (W : World) (A : Option Addr) (L : List St3) : Prop :=
  ∀ i a, L[i]? = some a → (∃ b o, A = some ⟨b, o, none⟩ ∧ b < W.heap.size ∧ ∀ j u, (a.cs)[j]? = some u → W.cell? ⟨b, o + i * 3 + j, none⟩ = some u) 
theorem arg_stepsQ.below {W W' : World} {A : Option Addr} {L : List St3} (h : arg_stepsQ W A L) (hb : Below W.heap.size W W') : arg_stepsQ W' A L := fun i a ha => by
  obtain ⟨b, o, e, hl, hc⟩ := h i a ha
  exact ⟨b, o, e, Nat.lt_of_lt_of_le hl hb.size, fun j u hu => (hb.cell (p := ⟨b, _, none⟩) hl).trans (hc j u hu)⟩
set_option maxRecDepth 100000 in
/-- a list of steps as an argument. -/
theorem arg_stepsL {v : Value} {d : DataW H} {p : List MemPlace} {r : Reach} {b0 : Nat} (hv : Value.okWide Try.prog w r b0 23 v) (h : DataW.Trod enc Try.prog w base spare held 23 v d p) :
    ∃ (A : Option Addr) (L : List St3) (c : Nat), v = .slice A L.length c ∧ L.length ≤ c ∧ c ≤ maxLen ∧ arg_stepsQ w A L := by
  obtain ⟨A, n, c, rfl⟩ := okWide_slice Try.underlying23 hv
  obtain ⟨fuel, hf⟩ := h
  rcases open_slice Try.underlying23 hf with ⟨h1, h2⟩ | ⟨a, len, cap, m, n', D, Pl, hcs, hb, hl, hm, hmm, hx, hi⟩
  · simp [Value.cells] at h1
    obtain ⟨rfl, rfl, rfl⟩ := h1
    exact ⟨none, [], 0, rfl, Nat.le_refl _, by unfold maxLen; omega, fun i a h => by simp at h⟩
  · simp [Value.cells] at hcs
    obtain ⟨rfl, rfl, rfl⟩ := hcs
    have hC : Try.prog.cellsOf 37 = 3 := by kernel_rfl
    have hlm : n ≤ m := by rw [hmm]; split <;> omega
    have each : ∀ i, ∃ q : St3, i < n → ∀ j u, (q.cs)[j]? = some u → w.cell? ((a.add (i * 3)).add j) = some u := by
      intro i
      by_cases hin : i < n
      · obtain ⟨cs', hc, ht⟩ := hi i (by omega)
        rw [hC] at hc
        obtain ⟨q, hq⟩ := open_step ht
        obtain ⟨_, hlen, hat⟩ := World.cells?_some hc
        refine ⟨q, fun _ j u hu => ?_⟩
        have hj : j < 3 := by
          have := (List.getElem?_eq_some_iff.1 hu).1
          simpa [St3.cs] using this
        rw [hat j hj, hq, hu]
      · exact ⟨⟨0, 0, 0⟩, fun h => absurd h hin⟩
    obtain ⟨f, hf'⟩ := Classical.axiomOfChoice each
    have hlen : ((List.range n).map f).length = n := by simp
    have hget : ∀ i x, ((List.range n).map f)[i]? = some x → i < n ∧ x = f i := by
      intro i x hx
      have hi' : i < n := by
        have := (List.getElem?_eq_some_iff.1 hx).1
        simpa using this
      refine ⟨hi', ?_⟩
      simp [hi'] at hx
      exact hx.symm
    refine ⟨some a, (List.range n).map f, c, by rw [hlen], by rw [hlen]; exact hl, hm, fun i x hx => ?_⟩
    obtain ⟨hi', rfl⟩ := hget i x hx
    have hn : 0 < n := by omega
    have h00 := (hf' 0 hn) 0 _ rfl
    simp [Addr.add] at h00
    obtain ⟨b, o, rfl, hbl⟩ := cell_plainB h00
    refine ⟨b, o, rfl, hbl, fun j u hu => ?_⟩
    have hc := (hf' i hi') j u hu
    rwa [addr_add, addr_add] at hc
/-- such a list in memory. -/
def arg_intsR (W : World) (A : Option Addr) (L : List Int) : Prop :=
  ∀ i a, L[i]? = some a → (∃ b o, A = some ⟨b, o, none⟩ ∧ b < W.heap.size ∧ ∀ j u, ([Value.int .i64 a])[j]? = some u → W.cell? ⟨b, o + i * 1 + j, none⟩ = some u) ∧ (-9223372036854775808 ≤ a ∧ a ≤ 9223372036854775807)
theorem arg_intsR.below {W W' : World} {A : Option Addr} {L : List Int} (h : arg_intsR W A L) (hb : Below W.heap.size W W') : arg_intsR W' A L := fun i a ha => by
  obtain ⟨⟨b, o, e, hl, hc⟩, h2⟩ := h i a ha
  exact ⟨⟨b, o, e, Nat.lt_of_lt_of_le hl hb.size, fun j u hu => (hb.cell (p := ⟨b, _, none⟩) hl).trans (hc j u hu)⟩, h2⟩
end
theorem steps_at {W X : World} {A : Option Addr} {L : List St3} (h : arg_stepsQ W A L) (hb : Below W.heap.size W X) {i : Nat} {a : St3} (ha : L[i]? = some a) : ∃ b o, A = some ⟨b, o, none⟩ ∧ b < W.heap.size ∧ ∀ j u, (a.cs)[j]? = some u → X.cell? ⟨b, o + i * 3 + j, none⟩ = some u := by
  obtain ⟨b, o, e, hl, hc⟩ := h i a ha
  exact ⟨b, o, e, hl, fun j u hu => (hb.cell (p := ⟨b, _, none⟩) hl).trans (hc j u hu)⟩
theorem ints_at {W X : World} {A : Option Addr} {L : List Int} (h : arg_intsR W A L) (hb : Below W.heap.size W X) {i : Nat} {a : Int} (ha : L[i]? = some a) : ∃ b o, A = some ⟨b, o, none⟩ ∧ X.cell? ⟨b, o + i, none⟩ = some (.int .i64 a) := by
  obtain ⟨⟨b, o, e, _, hc⟩, _⟩ := (h.below hb) i a ha
  exact ⟨b, o, e, by have := hc 0 _ rfl; simpa using this⟩

end Go.Proofs.Ytnagbiicpecamaa
