/-
  The walk of the law BagTrue where there are no acts. No condition.
-/
import Derived.Test.YteaafpgkifmdeaaBt1
namespace Go.Proofs.Yteaafpgkifmdeaa
set_option linter.unusedSimpArgs false
set_option linter.unusedVariables false
open Go.RowKit Go.Sort

set_option maxRecDepth 100000 in
set_option maxHeartbeats 2000000 in
theorem walkTrue0 (A : Option Addr) (c : Nat) (W : World) :
    Calls Try.prog 4 #[.slice A 0 c] W fun e W' => e = .returned (.bool true) ∧ Below W.heap.size W W' := by
  have KLI := Lib.hid (lightIs0 A c W)
  have KK0 := Lib.hid (fun w => knowsB w)
  go_enter Try.func4, Try.ntmps4
  go_wp2_with fail
  refine KLI.out.mono ?_
  rintro e w1 ⟨rfl, rfl⟩
  go_wp2_with fail
  refine (KK0.out _).mono ?_
  rintro e w2 ⟨rfl, b2⟩
  have B2 := Lib.hid b2
  have KN := Lib.hid (newB 200 w2 w2.heap.size (Nat.le_refl _))
  clear b2
  go_wp2_with fail
  refine KN.out.mono ?_
  rintro e w3 ⟨b, l, rfl, p3, b3⟩
  have B3 := Lib.hid (B2.out.trans (b3.mono B2.out.size))
  clear p3 b3 KN
  go_wp2_with fail
  go_loopw [5] (fun z wx => z = .int .i64 0 ∧ w3 = wx) (fun _ _ => 0)
  case atStart => exact ⟨rfl, rfl⟩
  case round =>
    obtain ⟨rfl, rfl⟩ := hrel
    go_wp2
    go_ret
    exact ⟨rfl, B3.out⟩

theorem walkTrueAll (A : Option Addr) (c : Nat) (AL : List Ac) (W : World) (hr : RowsA W A AL) (hc : AL.length ≤ c) (hm : c ≤ maxLen) :
    Calls Try.prog 4 #[.slice A AL.length c] W fun e W' => e = .returned (.bool true) ∧ Below W.heap.size W W' := by
  rcases rowsB_of hr with rfl | ⟨ab, ao, rfl, h⟩
  · exact walkTrue0 A c W
  · exact walkTrue ab ao c AL.length AL W rfl h hc hm

end Go.Proofs.Yteaafpgkifmdeaa
