/-
  What the row lists of the library's memory gives Env.
-/
import Derived.Test.YthmdnbgfnaokkaaDoorQlaw
import Derived.Test.YthmdnbgfnaokkaaDoorRows
import Derived.Deep.Slices
import Derived.Deep.Fields
import Derived.Lib.SmallJoins
import Derived.OpenShut
import Derived.MakeChecks
import Derived.LaidHandle
import Derived.LaidMore
import Derived.Stop.LaidErr
import Derived.SizedLaws
namespace Go.Proofs.YthmdnbgfnaokkaaDoor
set_option linter.unusedSimpArgs false
set_option linter.unusedVariables false
open Go.RowKit Go.ChangeShapes Go.WideShapes Go.Joins Go.Deep


theorem starE : "*" ++ "errors.errorString" = "*errors.errorString" := by decide
theorem errRow : ∀ u, Tryd.prog.typeName? 3 u = some "*errors.errorString" → u = 204 := fun u hu => typeName_ptr_named (P := Tryd.prog) (nm := "errors.errorString") (by rw [starE]; kernel_rfl) (by kernel_rfl) (by decide) u (by rw [starE]; exact hu)
theorem var_keptE {n : String} {g : Nat} {W w' : World} {v : Value} (hg : Tryd.prog.globalNamed n = some g) (h : W.var? Tryd.prog n = some #[v]) (hb : Below W.heap.size W w') : w'.var? Tryd.prog n = some #[v] := by
  have hlt : g < W.heap.size := World.block_lt_of_cell? W ⟨g, 0, none⟩ (u := v) (by simpa using World.var?_cell hg h 0)
  unfold World.var? at h ⊢
  simp only [hg, Option.bind_some] at h ⊢
  rw [hb.block _ hlt]
  exact h
theorem env_of_laid {W : World} (h : laidMetH Tryd.prog [("math/bits.deBruijn32tab", Rows.laid_math_bits_deBruijn32tab), ("math/bits.deBruijn64tab", Rows.laid_math_bits_deBruijn64tab), ("internal/strconv.uint64pow10", Rows.laid_internal_strconv_uint64pow10), ("strconv.ErrRange", Rows.laid_strconv_ErrRange), ("strconv.ErrSyntax", Rows.laid_strconv_ErrSyntax)] W) : Env W.heap.size W := by
  rw [MakeChecks.laidMetH_plain _ _ _ (by kernel_rfl)] at h
  have h3 := laidMet.tail (laidMet.tail h)
  have hT : Lib.TabIs Tryd.prog W "internal/strconv.uint64pow10" .u64 Lib.pow10Tab :=
    Lib.tabIs_of_head (g := 1) (t := 192) (e := 145) (n := 20) (by kernel_rfl) (by kernel_rfl) Tryd.underlying192 Tryd.underlying145 (by kernel_rfl) (by kernel_rfl) h3
  have hlt : 1 < W.heap.size := World.block_lt_of_cell? W _ (hT.cell (g := 1) (by kernel_rfl) 0 (by decide))
  have h4 := laidMet.tail h3
  obtain ⟨a, s, hv, _⟩ := laid_sentinel (g := 3) (ti := 153) (tp := 204) (te := 206) (ts := 9) h4 (by kernel_rfl) (by kernel_rfl) Tryd.underlying153 errRow Tryd.underlying204 Tryd.underlying206 rfl rfl Tryd.underlying9 (by kernel_rfl) (by kernel_rfl)
  obtain ⟨a2, s2, hv2, _⟩ := laid_sentinel (g := 2) (ti := 153) (tp := 204) (te := 206) (ts := 9) (laidMet.tail h4) (by kernel_rfl) (by kernel_rfl) Tryd.underlying153 errRow Tryd.underlying204 Tryd.underlying206 rfl rfl Tryd.underlying9 (by kernel_rfl) (by kernel_rfl)
  refine ⟨Nat.le_refl _, fun w' hb => ?_, fun w' hb => ⟨_, _, var_keptE (g := 2) (by kernel_rfl) hv2 hb⟩, fun w' hb => ⟨_, _, var_keptE (g := 3) (by kernel_rfl) hv hb⟩⟩
  have hg : Tryd.prog.globalNamed "internal/strconv.uint64pow10" = some 1 := by kernel_rfl
  unfold Lib.TabIs World.var? at hT ⊢
  simp only [hg, Option.bind_some] at hT ⊢
  rw [hb.block _ hlt]
  exact hT

end Go.Proofs.YthmdnbgfnaokkaaDoor
