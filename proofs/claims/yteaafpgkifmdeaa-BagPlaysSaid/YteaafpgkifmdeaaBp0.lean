/-
  The walk of the law BagPlays where there are no acts. No condition.
-/
import Derived.Test.YteaafpgkifmdeaaBpl
namespace Go.Proofs.Yteaafpgkifmdeaa
set_option linter.unusedSimpArgs false
set_option linter.unusedVariables false
open Go.RowKit Go.Sort

set_option maxRecDepth 100000 in
set_option maxHeartbeats 2000000 in
theorem walkPlays0 (mo : Int) (A : Option Addr) (c : Nat) (W : World) :
    Calls Try.prog 3 #[.int .i64 mo, .slice A 0 c] W fun e W' => e = .returned (.bool true) ∧ Below W.heap.size W W' := by
  have KLI := Lib.hid (lightIs0 A c W)
  have KK0 := Lib.hid (fun w => knowsB w)
  go_enter Try.func3, Try.ntmps3
  go_wp2_with fail
  refine KLI.out.mono ?_
  rintro e w1 ⟨rfl, rfl⟩
  go_wp2_with fail
  refine (KK0.out _).mono ?_
  rintro e w2 ⟨rfl, b2⟩
  have B2 := Lib.hid b2
  have KN := Lib.hid (newB mo w2 w2.heap.size (Nat.le_refl _))
  clear b2
  go_wp2_with fail
  refine KN.out.mono ?_
  rintro e w3 ⟨b, l, rfl, p3, b3⟩
  have B3 := Lib.hid (B2.out.trans (b3.mono B2.out.size))
  have KN2 := Lib.hid (newD mo w3 w3.heap.size (Nat.le_refl _))
  clear p3 b3 KN
  go_wp2_with fail
  refine KN2.out.mono ?_
  rintro e w4 ⟨r, rfl, d4, b4⟩
  have B4 := Lib.hid (B3.out.trans (b4.mono B3.out.size))
  have l0 := cell_of d4.bag 0 (.slice none 0 0) rfl
  clear d4 b4 KN2
  go_wp2_with fail
  go_loopw [7] (fun z wx => z = .int .i64 0 ∧ w4 = wx) (fun _ _ => 0)
  case atStart => exact ⟨rfl, rfl⟩
  case round =>
    obtain ⟨rfl, rfl⟩ := hrel
    go_wp2_with fail
    go_loopw [8] (fun z wx => z = .int .i64 0 ∧ w4 = wx) (fun _ _ => 0)
    case atStart => exact ⟨rfl, rfl⟩
    case round =>
      obtain ⟨rfl, rfl⟩ := hrel
      go_wp2
      go_ret
      exact ⟨rfl, B4.out⟩

theorem walkPlaysAll (mo : Int) (A : Option Addr) (c : Nat) (AL : List Ac) (W : World) (hr : RowsA W A AL) (hc : AL.length ≤ c) (hm : c ≤ maxLen) :
    Calls Try.prog 3 #[.int .i64 mo, .slice A AL.length c] W fun e W' => e = .returned (.bool true) ∧ Below W.heap.size W W' := by
  rcases rowsB_of hr with rfl | ⟨ab, ao, rfl, h⟩
  · exact walkPlays0 mo A c W
  · exact walkPlays mo ab ao c AL.length AL W rfl h hc hm

end Go.Proofs.Yteaafpgkifmdeaa
