/-
  The law's Own and Ref of an entry, by contracts: the same numbers, lists of its own. Condition: the lists take at most 2^47 bytes.
-/
import Derived.Test.YtfkmodmgihadkaaErp
import Derived.Test.YtfkmodmgihadkaaEfh
namespace Go.Proofs.Ytfkmodmgihadkaa
set_option linter.unusedSimpArgs false
set_option linter.unusedVariables false
open Go.RowKit Go.Sort

theorem stepE {w W W' : World} {b : Nat} {x : E18} {P Q : Value} (H : Below w.heap.size w W) (E : Ent W b x P Q) (hb : Below W.heap.size W W') :
    Hid (Below w.heap.size w W') ∧ Hid (Ent W' b x P Q) :=
  ⟨Lib.hid (H.trans (hb.mono H.size)), Lib.hid (E.kept hb E.lt)⟩
theorem ent_row (W : World) (g : Nat) (x : E18) (P Q : Value) (old : Array Value) (t : TypeId) (hg : W.heap[g]? = some (.cells old t (0, 0))) : Ent (W.setRow g #[.int .u8 x.k, .int .u8 x.n, .int .u16 x.l, .int .u32 x.s, .int .u8 x.d, .int .u8 x.a0, .int .u8 x.a1, .int .u8 x.b0, .int .u8 x.b1, .int .u8 x.c0, .int .u8 x.c1, .int .u32 x.fl, P, .int .u8 x.rc, .string x.rv, Q, .int .u8 x.vn, .int .u16 x.vl]) g x P Q :=
  ⟨(cell_setRow_same W g 0 old _ t (0, 0) hg).trans rfl, (cell_setRow_same W g 1 old _ t (0, 0) hg).trans rfl, (cell_setRow_same W g 2 old _ t (0, 0) hg).trans rfl, (cell_setRow_same W g 3 old _ t (0, 0) hg).trans rfl, (cell_setRow_same W g 4 old _ t (0, 0) hg).trans rfl, (cell_setRow_same W g 5 old _ t (0, 0) hg).trans rfl, (cell_setRow_same W g 6 old _ t (0, 0) hg).trans rfl, (cell_setRow_same W g 7 old _ t (0, 0) hg).trans rfl, (cell_setRow_same W g 8 old _ t (0, 0) hg).trans rfl, (cell_setRow_same W g 9 old _ t (0, 0) hg).trans rfl, (cell_setRow_same W g 10 old _ t (0, 0) hg).trans rfl, (cell_setRow_same W g 11 old _ t (0, 0) hg).trans rfl, (cell_setRow_same W g 12 old _ t (0, 0) hg).trans rfl, (cell_setRow_same W g 13 old _ t (0, 0) hg).trans rfl, (cell_setRow_same W g 14 old _ t (0, 0) hg).trans rfl, (cell_setRow_same W g 15 old _ t (0, 0) hg).trans rfl, (cell_setRow_same W g 16 old _ t (0, 0) hg).trans rfl, (cell_setRow_same W g 17 old _ t (0, 0) hg).trans rfl⟩

end Go.Proofs.Ytfkmodmgihadkaa
