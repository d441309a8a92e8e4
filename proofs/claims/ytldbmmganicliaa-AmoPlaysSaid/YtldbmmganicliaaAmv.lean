/-
  An integer as an argument. No condition.
-/
import Derived.Test.YtldbmmganicliaaAdg
namespace Go.Proofs.Ytldbmmganicliaa
set_option linter.unusedSimpArgs false
set_option linter.unusedVariables false
open Go.RowKit Go.Maps Go.Sort Go.ChangeShapes Go.WideShapes Go.Joins Go.Deep

section
variable {H : Type} {enc : TypeId × Value → H} {w : World} {base : Nat} {spare : Nat → Bool} {held : Bool}
set_option maxRecDepth 100000 in
theorem arg_intA {r : Reach} {b0 : Nat} {v : Value} {d : DataW H} {p : List MemPlace} {t : TypeId} {q : IntKind} (ht : Try.prog.underlying t = some (.int q)) (hv : Value.okWide Try.prog w r b0 t v) (h : DataW.Trod enc Try.prog w base spare held t v d p) :
    ∃ n : Int, v = .int q n ∧ (Lit.int q n).wf = true := by
  obtain ⟨m, rfl⟩ := okWide_int ht hv
  obtain ⟨fuel, hf⟩ := h
  obtain ⟨n, e, _, w0⟩ := DataW.trod_int ht hf
  have e' : [Value.int q m] = [Value.int q n] := e
  simp only [List.cons.injEq, Value.int.injEq, true_and, and_true] at e'
  subst e'
  exact ⟨m, rfl, w0⟩
end

end Go.Proofs.Ytldbmmganicliaa
