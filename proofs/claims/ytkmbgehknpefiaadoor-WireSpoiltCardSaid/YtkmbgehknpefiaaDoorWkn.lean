/-
  knows: what must come: an Accept's bytes, its word. Condition: the words lie in memory.
-/
import Derived.Test.YtkmbgehknpefiaaDoorWk5
import Derived.Test.YtkmbgehknpefiaaDoorWen
namespace Go.Proofs.YtkmbgehknpefiaaDoor
set_option linter.unusedSimpArgs false
set_option linter.unusedVariables false
open Go.RowKit Go.Sort

set_option maxHeartbeats 400000 in
theorem num7 (n : Int) (w : World) : Calls Tryd.prog 17 #[.int .i64 n] w fun e w' => e = .returned (.int .i64 n) ∧ w' = w := by
  go_enter Tryd.func17, Tryd.ntmps17
  go_wp2
  go_ret
  exact ⟨rfl, rfl⟩
theorem accStr : (⟨accL.toArray⟩ : ByteArray) = ⟨#[6, 1, 2, 172, 2]⟩ := rfl

set_option maxRecDepth 100000 in
set_option maxHeartbeats 1000000 in
theorem knows7 (W : World) (hT : WordAt W.heap.size W) : Calls Tryd.prog 7 #[] W fun e W' => e = .returned (.bool true) ∧ Below W.heap.size W W' := by
  obtain ⟨A, hA⟩ : ∃ A, aMsg = A := ⟨_, rfl⟩
  have K1 := Lib.hid (accBytes A hA.symm W)
  have HA := Lib.hid hA
  have HT := Lib.hid hT
  clear hA hT
  go_enter Tryd.func7, Tryd.ntmps7
  go_wp2_with (first
    | (refine wpList_bd rfl 55 _ rfl A (by rw [← HA.out]; kernel_rfl) ?_))
  refine K1.out.mono ?_
  rintro e w1 ⟨v, rfl, ho, b1⟩
  obtain ⟨A1, c1, rfl, -, hat, -, -⟩ := bytes_of_own (L := accL) ho
  have hcv := conv_bytes hat c1
  have HB1 := Lib.hid b1
  have KW := Lib.hid (accWord w1 ((HT.out.below b1 (Nat.le_refl _)).up b1.size))
  clear ho b1 hat
  have hlen : accL.length = 5 := rfl
  rw [accStr, hlen] at hcv
  go_wp2_with (first
    | (go_at_call 17; refine (num7 0 _).mono ?_; rintro e2 w2 ⟨rfl, rfl⟩)
    | (go_at_call 13; refine KW.out.mono ?_; rintro e3 w3 ⟨rfl, rfl⟩))
  go_ret
  exact ⟨rfl, HB1.out⟩

end Go.Proofs.YtkmbgehknpefiaaDoor
