/-
  The walk of the law IdentSteps: it answers true and changes nothing that was there. Condition: the depth is not below 0.
-/
import Derived.Test.YtldbmmganicliaaStq
import Derived.Test.YtldbmmganicliaaKnw
import Derived.BigQuiet
namespace Go.Proofs.Ytldbmmganicliaa
set_option linter.unusedSimpArgs false
set_option linter.unusedVariables false
open Go.RowKit

/-- hidden from the walk. -/
theorem hide {p : Prop} (h : p) : Hid p := h

theorem toProc_b (n l : Int) (w : World) : Calls Try.prog 34 #[.agg #[.int .u8 n, .int .u16 l]] w fun e w' => e = .returned (.agg #[.int .u8 n, .int .u16 l]) ∧ Below w.heap.size w w' :=
  (toProc n l w).mono fun _ _ ⟨he, hw⟩ => ⟨he, hw ▸ ((Below.refl _ _).alloc (Nat.le_refl _) _).alloc (by simp) _⟩
theorem rightProc_b (n l : Int) (w : World) : Calls Try.prog 41 #[.agg #[.int .u8 n, .int .u16 l]] w fun e w' => e = .returned (.bool (rP n l)) ∧ Below w.heap.size w w' :=
  (rightProc n l w).mono fun _ _ ⟨he, hw⟩ => ⟨he, hw ▸ (Below.refl _ _).alloc (Nat.le_refl _) _⟩
theorem refRightProc_b (n l : Int) (w : World) : Calls Try.prog 44 #[.agg #[.int .u8 n, .int .u16 l]] w fun e w' => e = .returned (.bool (rP n l)) ∧ Below w.heap.size w w' :=
  (refRightProc n l w).mono fun _ _ ⟨he, hw⟩ => ⟨he, hw ▸ (Below.refl _ _).alloc (Nat.le_refl _) _⟩

end Go.Proofs.Ytldbmmganicliaa
