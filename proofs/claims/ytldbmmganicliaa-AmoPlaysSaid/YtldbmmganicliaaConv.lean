/-
  The small conversions between the program's processes and identifiers and the document's, each by a contract: what they give back holds the same numbers, and nothing that was there is changed. No condition.
-/
import Derived.Test.YtldbmmganicliaaRows
import Derived.WalkKit
import Derived.WalkSpells
import Derived.WalkLawsBesides
import Derived.Deep.RegionWith
import Derived.Deep.RegionHeld3
import Derived.BigRegion
import Derived.Lib.Hide
import Derived.LoopN
namespace Go.Proofs.Ytldbmmganicliaa
set_option linter.unusedSimpArgs false
set_option linter.unusedVariables false
open Go.RowKit

set_option maxHeartbeats 400000 in
theorem toProc (n l : Int) (w : World) :
    Calls Try.prog 34 #[.agg #[.int .u8 n, .int .u16 l]] w fun e w' => e = .returned (.agg #[.int .u8 n, .int .u16 l]) ∧ ((w.alloc (.cells #[.int .u8 n, .int .u16 l] 39)).alloc (.cells #[.int .u8 n, .int .u16 l] 31)) = w' := by
  go_enter Try.func34, Try.ntmps34
  go_wp2
  exact bodyPost_ret (v := .agg #[.int .u8 n, .int .u16 l]) (by simp [results, Try.results34, go_sem]) rfl ⟨rfl, by simp⟩

set_option maxHeartbeats 400000 in
theorem refProc (n l : Int) (w : World) :
    Calls Try.prog 57 #[.agg #[.int .u8 n, .int .u16 l]] w fun e w' => e = .returned (.agg #[.int .u8 n, .int .u16 l]) ∧ ((w.alloc (.cells #[.int .u8 n, .int .u16 l] 31)).alloc (.cells #[.int .u8 n, .int .u16 l] 39)) = w' := by
  go_enter Try.func57, Try.ntmps57
  go_wp2
  exact bodyPost_ret (v := .agg #[.int .u8 n, .int .u16 l]) (by simp [results, Try.results57, go_sem]) rfl ⟨rfl, by simp⟩

set_option maxHeartbeats 1000000 in
theorem toID (n l s d a0 a1 b0 b1 c0 c1 : Int) (w : World) :
    Calls Try.prog 10 #[.agg #[.int .u8 n, .int .u16 l, .int .u32 s, .int .u8 d, .int .u8 a0, .int .u8 a1, .int .u8 b0, .int .u8 b1, .int .u8 c0, .int .u8 c1]] w fun e w' =>
      e = .returned (.agg #[.int .u8 n, .int .u16 l, .int .u32 s, .int .u8 d, .int .u8 a0, .int .u8 a1, .int .u8 b0, .int .u8 b1, .int .u8 c0, .int .u8 c1]) ∧ Below w.heap.size w w' := by
  go_enter Try.func10, Try.ntmps10
  go_wp2
  go_region_held3 (fun w' => w'.cell? ⟨w.heap.size, 0, none⟩ = some (.int .u8 n) ∧ w'.cell? ⟨w.heap.size, 1, none⟩ = some (.int .u16 l) ∧ w'.cell? ⟨w.heap.size, 2, none⟩ = some (.int .u32 s) ∧ w'.cell? ⟨w.heap.size, 3, none⟩ = some (.int .u8 d)) ((first | (simp; done) | (go_simp; done) | go_keep))
    (first | (go_at_call 34; refine (toProc _ _ _).mono ?_; rintro e w' ⟨rfl, rfl⟩))
  all_goals
    go_wp2
    refine wp_loop_rounds 4 ?_
    rw [rounds_succ]
    go_wp2
    go_region_held3 (fun w' => w'.cell? ⟨w.heap.size, 4, none⟩ = some (.int .u8 a0) ∧ w'.cell? ⟨w.heap.size, 5, none⟩ = some (.int .u8 a1)) ((first | (simp; done) | (go_simp; done) | go_keep)) (fail)
    go_wp2
    rw [rounds_succ]
    go_wp2
    go_region_held3 (fun w' => w'.cell? ⟨w.heap.size, 6, none⟩ = some (.int .u8 b0) ∧ w'.cell? ⟨w.heap.size, 7, none⟩ = some (.int .u8 b1)) ((first | (simp; done) | (go_simp; done) | go_keep)) (fail)
    go_wp2
    rw [rounds_succ]
    go_wp2
    go_region_held3 (fun w' => w'.cell? ⟨w.heap.size, 8, none⟩ = some (.int .u8 c0) ∧ w'.cell? ⟨w.heap.size, 9, none⟩ = some (.int .u8 c1)) ((first | (simp; done) | (go_simp; done) | go_keep)) (fail)
    go_wp2
    rw [rounds_succ]
    go_wp2
    exact bodyPost_ret (v := .agg #[.int .u8 n, .int .u16 l, .int .u32 s, .int .u8 d, .int .u8 a0, .int .u8 a1, .int .u8 b0, .int .u8 b1, .int .u8 c0, .int .u8 c1]) (by simp [results, Try.results10, go_sem]) rfl ⟨rfl, (by repeat (first | (with_reducible exact Below.refl _ _) | (with_reducible refine Below.setCell ?_ (by first | (simp; done) | (simp; omega)) _) | (with_reducible refine Below.drew ?_) | (with_reducible refine Below.alloc ?_ (by first | (simp; done) | (simp; omega)) _)))⟩

set_option maxHeartbeats 1000000 in
theorem refID (n l s d a0 a1 b0 b1 c0 c1 : Int) (w : World) :
    Calls Try.prog 48 #[.agg #[.int .u8 n, .int .u16 l, .int .u32 s, .int .u8 d, .int .u8 a0, .int .u8 a1, .int .u8 b0, .int .u8 b1, .int .u8 c0, .int .u8 c1]] w fun e w' =>
      e = .returned (.agg #[.int .u8 n, .int .u16 l, .int .u32 s, .int .u8 d, .int .u8 a0, .int .u8 a1, .int .u8 b0, .int .u8 b1, .int .u8 c0, .int .u8 c1]) ∧ Below w.heap.size w w' := by
  go_enter Try.func48, Try.ntmps48
  go_wp2
  go_region_held3 (fun w' => w'.cell? ⟨w.heap.size, 0, none⟩ = some (.int .u8 n) ∧ w'.cell? ⟨w.heap.size, 1, none⟩ = some (.int .u16 l) ∧ w'.cell? ⟨w.heap.size, 2, none⟩ = some (.int .u32 s) ∧ w'.cell? ⟨w.heap.size, 3, none⟩ = some (.int .u8 d)) ((first | (simp; done) | (go_simp; done) | go_keep))
    (first | (go_at_call 57; refine (refProc _ _ _).mono ?_; rintro e w' ⟨rfl, rfl⟩))
  all_goals
    go_wp2
    refine wp_loop_rounds 4 ?_
    rw [rounds_succ]
    go_wp2
    go_region_held3 (fun w' => w'.cell? ⟨w.heap.size, 4, none⟩ = some (.int .u8 a0) ∧ w'.cell? ⟨w.heap.size, 5, none⟩ = some (.int .u8 a1)) ((first | (simp; done) | (go_simp; done) | go_keep)) (fail)
    go_wp2
    rw [rounds_succ]
    go_wp2
    go_region_held3 (fun w' => w'.cell? ⟨w.heap.size, 6, none⟩ = some (.int .u8 b0) ∧ w'.cell? ⟨w.heap.size, 7, none⟩ = some (.int .u8 b1)) ((first | (simp; done) | (go_simp; done) | go_keep)) (fail)
    go_wp2
    rw [rounds_succ]
    go_wp2
    go_region_held3 (fun w' => w'.cell? ⟨w.heap.size, 8, none⟩ = some (.int .u8 c0) ∧ w'.cell? ⟨w.heap.size, 9, none⟩ = some (.int .u8 c1)) ((first | (simp; done) | (go_simp; done) | go_keep)) (fail)
    go_wp2
    rw [rounds_succ]
    go_wp2
    exact bodyPost_ret (v := .agg #[.int .u8 n, .int .u16 l, .int .u32 s, .int .u8 d, .int .u8 a0, .int .u8 a1, .int .u8 b0, .int .u8 b1, .int .u8 c0, .int .u8 c1]) (by simp [results, Try.results48, go_sem]) rfl ⟨rfl, (by repeat (first | (with_reducible exact Below.refl _ _) | (with_reducible refine Below.setCell ?_ (by first | (simp; done) | (simp; omega)) _) | (with_reducible refine Below.drew ?_) | (with_reducible refine Below.alloc ?_ (by first | (simp; done) | (simp; omega)) _)))⟩

end Go.Proofs.Ytldbmmganicliaa
