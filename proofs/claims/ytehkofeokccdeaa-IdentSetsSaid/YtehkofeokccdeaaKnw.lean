/-
  What must come: a child that is known; the law's own question answers true, and nothing that was there is changed. No condition.
-/
import Derived.Test.YtehkofeokccdeaaStp
import Derived.Test.YtehkofeokccdeaaHlp
namespace Go.Proofs.Ytehkofeokccdeaa
set_option linter.unusedSimpArgs false
set_option linter.unusedVariables false
open Go.RowKit

set_option maxHeartbeats 1000000 in
theorem knows (w : World) : Calls Try.prog 4 #[] w fun e w' => e = .returned (.bool true) ∧ Below w.heap.size w w' := by
  have r0 : rI 1 1 5 0 0 0 0 0 0 0 = true := by decide
  have r1 : rI 1 1 5 1 2 1 0 0 0 0 = true := by decide
  have R0 := Lib.hid r0
  have R1 := Lib.hid r1
  clear r0 r1
  go_enter Try.func4, Try.ntmps4
  go_wp2_with fail
  refine (child_0 1 1 5 0 0 0 0 0 0 2 1 _ (by omega) R0.out).mono ?_
  rintro e w1 ⟨rfl, h1⟩
  go_wp2_with fail
  refine (numOf _ _).mono ?_
  rintro e w' ⟨rfl, rfl⟩
  go_wp2_with fail
  refine (rightID 1 1 5 1 2 1 0 0 0 0 _ (by omega)).mono ?_
  rintro e w2 ⟨rfl, h2⟩
  rw [R1.out]
  go_wp2
  go_ret
  exact ⟨rfl, (h1.alloc h1.size _).trans (h2.mono (by have := h1.size; simp; omega))⟩

end Go.Proofs.Ytehkofeokccdeaa
