/-
  Values of the program and of the document, made of one another, and cloned: by contracts. Condition: they lie in memory.
-/
import Derived.Test.YtjdmjiikpnlkjaaGcl
import Derived.Deep.MidRow
import Derived.LoopN
import Derived.Great.BuildSlice
namespace Go.Proofs.Ytjdmjiikpnlkjaa
set_option linter.unusedSimpArgs false
set_option linter.unusedVariables false
open Go.RowKit Go.Maps Go.Sort
open V (P2)

theorem renI : (Try.prog.info? 103).map (fun i => (i.zero, i.size, i.bytes)) = some (some (.agg #[.int .u8 0, .int .u8 0, .int .u16 0, .int .u32 0, .int .u8 0, .int .u8 0, .int .u8 0, .int .u8 0, .int .u8 0, .int .u8 0, .int .u8 0, .int .u32 0, .slice none 0 0, .int .u8 0, .string ByteArray.empty, .slice none 0 0, .int .u8 0, .int .u16 0]), 18, 104) := by kernel_rfl
theorem fillE (e : Le) : Instr.fill (fun i => some (i * 18, 18)) ((Array.range (1 * 18)).map ((Value.agg #[.int .u8 0, .int .u8 0, .int .u16 0, .int .u32 0, .int .u8 0, .int .u8 0, .int .u8 0, .int .u8 0, .int .u8 0, .int .u8 0, .int .u8 0, .int .u32 0, .slice none 0 0, .int .u8 0, .string ByteArray.empty, .slice none 0 0, .int .u8 0, .int .u16 0]).cells[· % (Value.agg #[.int .u8 0, .int .u8 0, .int .u16 0, .int .u32 0, .int .u8 0, .int .u8 0, .int .u8 0, .int .u8 0, .int .u8 0, .int .u8 0, .int .u8 0, .int .u32 0, .slice none 0 0, .int .u8 0, .string ByteArray.empty, .slice none 0 0, .int .u8 0, .int .u16 0]).cells.size]!)) [(0, Value.agg e.cs)] = some e.cs := by
  obtain ⟨x, A, X, c, B, Y, d⟩ := e
  kernel_rfl
theorem wpList_bsE {ops : Array Oper} {rest : List Oper} {o : Oper} {a : Act} {w : World} {Q : Exit → Act → World → Prop} (hg : o.guard = none) (x : Operand) (ho : o.op = .buildSlice 69 1 #[(0, x)]) (e : Le) (hx : a.eval x = .agg e.cs)
    (h : wpList Try.prog ops Q rest (a.put o.dst (.slice (some ⟨w.heap.size, 0, none⟩) 1 1)) (w.alloc (.cells e.cs 103))) : wpList Try.prog ops Q (o :: rest) a w := by
  obtain ⟨i0, hi0, hz0, hz1, hz2⟩ := info_parts renI
  refine wpList_buildSlice hg 69 103 1 #[(0, x)] ho e.cs i0 _ Try.underlying69 hi0 hz0 (by rw [hz1]; decide) (by rw [hz1]; decide) ?_ h
  have := fillE e
  rw [hz1]
  simpa [hx] using this
theorem LeR.keepF {e : Le} {W W' : World} (h : LeR e W) (k : ∀ (g : Nat) (cur : Array Value) (t : TypeId), W.heap[g]? = some (.cells cur t (0, 0)) → t ≠ 103 → W'.heap[g]? = some (.cells cur t (0, 0))) : LeR e W' :=
  ⟨RowO.keepB h.p fun g hg => by
    obtain ⟨cur, hc⟩ := RowO.block h.p g hg
    exact (k g cur _ hc (by decide)).trans hc.symm, RowO.keepB h.w fun g hg => by
    obtain ⟨cur, hc⟩ := RowO.block h.w g hg
    exact (k g cur _ hc (by decide)).trans hc.symm, h.hX, h.hY⟩
end Go.Proofs.Ytjdmjiikpnlkjaa
