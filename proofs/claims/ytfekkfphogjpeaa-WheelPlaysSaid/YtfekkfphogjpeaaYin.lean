/-
  The wheel's inOrder of nothing: by an exact answer. No condition.
-/
import Derived.Test.YtfekkfphogjpeaaYio
namespace Go.Proofs.Ytfekkfphogjpeaa
set_option linter.unusedSimpArgs false
set_option linter.unusedVariables false
open Go.RowKit Go.Maps Go.Sort

set_option maxRecDepth 100000 in
set_option maxHeartbeats 1000000 in
theorem insNil (p : Option Addr) (q : Value) (w : World) : Calls Try.prog 52 #[.slice p 0 0, .int .i64 0, .int .i64 0, q] w fun e w' => e = .returned (.tuple #[]) ∧ w = w' := by
  go_enter Try.func52, Try.ntmps52
  go_wp2
  go_rounds 1
  go_end0
  exact ⟨rfl, rfl⟩

set_option maxRecDepth 100000 in
set_option maxHeartbeats 1000000 in
theorem len64Nil (w : World) : Calls Try.prog 61 #[.int .u64 0] w fun e w' => e = .returned (.int .i64 0) ∧ w = w' := by
  go_enter Try.func61, Try.ntmps61
  go_wp2
  go_ret
  exact ⟨by kernel_rfl, rfl⟩

set_option maxRecDepth 100000 in
set_option maxHeartbeats 1000000 in
theorem lenNil0 (w : World) : Calls Try.prog 48 #[.int .u64 0] w fun e w' => e = .returned (.int .i64 0) ∧ w = w' := by
  go_enter Try.func48, Try.ntmps48
  go_wp2_with (go_at_call 61; refine (len64Nil _).mono ?_; rintro e w' ⟨rfl, rfl⟩)
  go_ret
  exact ⟨rfl, rfl⟩

set_option maxRecDepth 100000 in
set_option maxHeartbeats 1000000 in
theorem pdqNil (p : Option Addr) (n : Int) (q : Value) (w : World) : Calls Try.prog 47 #[.slice p 0 0, .int .i64 0, .int .i64 0, .int .i64 n, q] w fun e w' => e = .returned (.tuple #[]) ∧ w = w' := by
  go_enter Try.func47, Try.ntmps47
  go_wp2
  refine wp_loop_rounds 1 ?_
  rw [rounds_succ]
  go_wp2_with (go_at_call 52; refine (insNil p q _).mono ?_; rintro e w' ⟨rfl, rfl⟩)
  refine bodyPost_ret (results_none rfl _ _ _) rfl ?_
  exact ⟨rfl, rfl⟩

set_option maxRecDepth 100000 in
set_option maxHeartbeats 1000000 in
theorem sortNil (p : Option Addr) (q : Value) (w : World) : Calls Try.prog 38 #[.slice p 0 0, q] w fun e w' => e = .returned (.tuple #[]) ∧ w = w' := by
  go_enter Try.func38, Try.ntmps38
  go_wp2_with (first | (go_at_call 48; refine (lenNil0 _).mono ?_; rintro e w' ⟨rfl, rfl⟩) | (go_at_call 47; refine (pdqNil _ _ _ _).mono ?_; rintro e w' ⟨rfl, rfl⟩))
  go_end0
  exact ⟨rfl, rfl⟩

set_option maxRecDepth 100000 in
set_option maxHeartbeats 1000000 in
theorem inOrder_nil (W : World) :
    Calls Try.prog 31 #[.slice none 0 0, .slice none 0 0] W fun e W' => ∃ v, e = .returned v ∧ W'.ownsRow W.heap.size 50 13 v 0 [] ∧ Below W.heap.size W W' := by
  obtain ⟨i0, hi0, hz0, hz1, hz2⟩ := info_parts intI
  obtain ⟨i1, hi1, hy0, hy1, hy2⟩ := info_parts keyI
  obtain ⟨W2, hW2⟩ : ∃ W2, (W.alloc (.cells #[.slice none 0 0] 59)).alloc (.cells #[.slice none 0 0] 69) = W2 := ⟨_, rfl⟩
  have b2 : Below W.heap.size W W2 := by rw [← hW2]; exact ((Below.refl _ _).alloc (Nat.le_refl _) _).alloc (by simp) _
  have rk : W2.heap[W.heap.size]? = some (.cells #[.slice none 0 0] 59 (0, 0)) := by rw [← hW2, Below.heap_alloc _ _ _ (by simp)]; exact heap_alloc_new _ _
  have ck2 := cell_of rk 0 _ rfl
  have HW2 := Lib.hid hW2
  have B2 := Lib.hid b2
  have lk := Lib.hid (Array.getElem?_eq_some_iff.1 rk).1
  clear hW2 b2 rk
  go_enter Try.func31, Try.ntmps31
  go_wp2_with (first
    | (rw [HW2.out])
    | (refine wpList_make_full _ rfl (.tmp 11) (.tmp 11) 69 rfl W2.heap.size 3 i0 (.int .i64 0) 1 Try.underlying69 hi0 hz0 hz1 .i64 .i64 _ _ 0 rfl rfl rfl rfl (by omega) (by unfold maxLen; omega) (Nat.le_refl _) ?_
       intro W3 hO3 hg3
       have B3 := Lib.hid (below_grown (Below.refl W2.heap.size W2) hg3 (fun g h => by cases h))
       have ck3 : W3.cell? ⟨W.heap.size, 0, none⟩ = some (.slice none 0 0) := (B3.out.cell (p := ⟨W.heap.size, 0, none⟩) lk.out).trans ck2
       clear hO3 hg3))
  go_loopw [15] (fun z wx => z = .int .i64 0 ∧ W3 = wx) (fun _ _ => 0)
  case atStart => exact ⟨rfl, rfl⟩
  case round =>
    obtain ⟨rfl, rfl⟩ := hrel
    go_wp2_with (first
      | (go_at_call 38; refine (sortNil _ _ _).mono ?_; rintro e w' ⟨rfl, rfl⟩)
      | (refine wpList_make_own _ rfl (.const (.int .i64 0)) (.tmp 27) 59 rfl W3.heap.size 50 i1 _ 13 Try.underlying59 hi1 hy0 hy1 .i64 .i64 _ 0 rfl rfl rfl (by omega) (by unfold maxLen; omega) (Nat.le_refl _) ?_
         intro W6 hO6 hg6
         have O6 := Lib.hid hO6
         have B6 := Lib.hid (below_grown (Below.refl W3.heap.size W3) hg6 (fun g h => by cases h))
         clear hO6 hg6))
    go_loopw [7, 31] (fun l z wx => l = .slice (some ⟨W3.heap.size, 0, none⟩) 0 0 ∧ z = .int .i64 0 ∧ W6 = wx) (fun _ _ _ => 0)
    case atStart => exact ⟨rfl, rfl, rfl⟩
    case round =>
      obtain ⟨rfl, rfl, rfl⟩ := hrel
      go_wp2
      go_ret
      have h1 := B2.out.size
      have h2 := B3.out.size
      exact ⟨_, rfl, own_lower O6.out (by omega), B2.out.trans ((B3.out.trans (B6.out.mono h2)).mono h1)⟩

end Go.Proofs.Ytfekkfphogjpeaa
