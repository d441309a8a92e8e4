/-
  The walk of the law LinkPlays: acts that are many or long. Condition: the acts lie in memory.
-/
import Derived.Test.YtgnfclikdfllnaaJpl
namespace Go.Proofs.Ytgnfclikdfllnaa
set_option linter.unusedSimpArgs false
set_option linter.unusedVariables false
open Go.RowKit Go.Maps Go.Sort

set_option maxRecDepth 100000 in
set_option maxHeartbeats 8000000 in
theorem walkPlaysNo (mn ml pn pl2 : Nat) (first : Nat) (again : Int) (ab ao ac : Nat) (LA : List Ac) (W : World) (hf : first ≤ 18446744073709551615) (ha : again ≤ 9223372036854775807) (hrow : RowsB W ab ao LA) (hac : ac ≤ maxLen) (hlc : LA.length ≤ ac) (hlight : lightB LA = false) :
    Calls Try.prog 3 #[.agg #[.int .u8 mn, .int .u16 ml], .agg #[.int .u8 pn, .int .u16 pl2], .int .u64 first, .int .i64 again, .slice (some ⟨ab, ao, none⟩) LA.length ac] W fun e W' => e = .returned (.bool true) ∧ Below W.heap.size W W' := by
  obtain ⟨Wa, hWa⟩ : ∃ Y, W.alloc (.cells #[.int .u8 mn, .int .u16 ml] 24) = Y := ⟨_, rfl⟩
  have sa : Wa.heap.size = W.heap.size + 1 := by rw [← hWa]; simp
  obtain ⟨Wb, hWb⟩ : ∃ Y, Wa.alloc (.cells #[.int .u8 pn, .int .u16 pl2] 24) = Y := ⟨_, rfl⟩
  have ra : Wb.heap[W.heap.size]? = some (.cells #[.int .u8 mn, .int .u16 ml] 24 (0, 0)) := by rw [← hWb, Below.heap_alloc _ _ _ (by omega), ← hWa]; exact heap_alloc_new _ _
  have rb : Wb.heap[W.heap.size + 1]? = some (.cells #[.int .u8 pn, .int .u16 pl2] 24 (0, 0)) := by rw [← hWb, ← sa]; exact heap_alloc_new _ _
  have bb : Below W.heap.size W Wb := by rw [← hWb, ← hWa]; exact ((Below.refl _ _).alloc (Nat.le_refl _) _).alloc (by simp) _
  have KL := lightIs ab ao ac LA Wb (hrow.below bb) hac hlc
  rw [hlight] at KL
  have KK := Lib.hid (fun w => knowsW w)
  have HWa := Lib.hid (show W.alloc (.cells #[.int .u8 mn, .int .u16 ml] 24) = Wa from hWa)
  have HWb := Lib.hid (show Wa.alloc (.cells #[.int .u8 pn, .int .u16 pl2] 24) = Wb from hWb)
  have BB := Lib.hid bb
  clear hWa hWb ra rb bb hrow hlight hac hlc sa
  go_enter Try.func3, Try.ntmps3
  go_wp2_with (first | (rw [HWa.out]) | (rw [HWb.out]) | (go_at_call 7; refine KL.mono ?_; rintro e w1 ⟨rfl, b1⟩; have B1 := Lib.hid b1; clear b1) | (go_at_call 8; refine (KK.out _).mono ?_; rintro e w2 ⟨rfl, b2⟩; have B2 := Lib.hid b2; clear b2))
  go_ret
  exact ⟨rfl, BB.out.trans ((B1.out.trans (B2.out.mono B1.out.size)).mono BB.out.size)⟩

end Go.Proofs.Ytgnfclikdfllnaa
