/-
  More of the arguments: a result's size, a nil list's room. No condition.
-/
import Derived.Test.YtggaakjimkfliaaDoorPopn
import Derived.SizedLaws
namespace Go.Proofs.YtggaakjimkfliaaDoor
set_option linter.unusedSimpArgs false
set_option linter.unusedVariables false
open Go.RowKit Go.ChangeShapes Go.WideShapes Go.Joins Go.Deep

section
variable {H : Type} {enc : TypeId × Value → H} {w : World} {base : Nat} {spare : Nat → Bool} {held : Bool}
theorem arg_nil {n c : Nat} {d : DataW H} {p : List MemPlace} (h : DataW.Trod enc Tryd.prog w base spare held 22 (.slice none n c) d p) : c = 0 := by
  obtain ⟨fuel, hf⟩ := h
  rcases open_slice Tryd.underlying22 hf with ⟨h1, _⟩ | ⟨a, len, cap, m, n', D, Pl, hcs, _⟩
  · simp [Value.cells] at h1
    exact h1.2
  · simp [Value.cells] at hcs
set_option maxRecDepth 100000 in
theorem res_datum {c : Int} {u : ByteArray} {d : DataW H} {p : List MemPlace} (h : DataW.Trod enc Tryd.prog w base spare held 24 (.agg #[.int .u8 c, .string u]) d p) : d = .agg [.lit (.int .u8 c), .lit (.string u.data.toList)] := by
  obtain ⟨fuel, hf⟩ := h
  obtain ⟨y0, y1, n, hx, hl, h0, h1⟩ := trod_struct2 Tryd.underlying24 hf
  have hC5 : Tryd.prog.cellsOf 5 = 1 := by kernel_rfl
  have hC9 : Tryd.prog.cellsOf 9 = 1 := by kernel_rfl
  simp only [Value.cells, hC5, hC9, List.drop_zero, List.take_succ_cons, List.take_zero, List.drop_succ_cons] at h0 h1
  obtain ⟨g, e0, z0, _⟩ := DataW.trod_int Tryd.underlying5 h0
  obtain ⟨key, e2, z2, _⟩ := DataW.trod_string Tryd.underlying9 h1
  simp at e0 e2
  subst e0 e2
  have := (Prod.mk.injEq _ _ _ _ |>.mp hx).1
  rw [this, z0, z2]
theorem res_size {ts : List TypeId} {ds : List (DataW H)} (h : (DataW.weightsEach Tryd.prog ts ds).all (· ≤ reachBytes) = true) {j : Nat} {c : Int} {u : ByteArray} (ht : ts[j]? = some 24) (hd : ds[j]? = some (.agg [.lit (.int .u8 c), .lit (.string u.data.toList)])) : u.size ≤ 140737488355328 := by
  have := List.all_eq_true.1 h _ (DataW.weights_mem_each ht hd u.size (by
    have hu := Tryd.underlying24
    simp [DataW.weights, hu, DataW.weightsEach]))
  have e : reachBytes = 140737488355328 - 4096 := by decide
  rw [e] at this
  simp at this
  omega
end
end Go.Proofs.YtggaakjimkfliaaDoor
