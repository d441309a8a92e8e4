/-
  A Set that nobody made: Has and Remove, by contracts. Condition: the depth is not below 0.
-/
import Derived.Test.YtehkofeokccdeaaNil
namespace Go.Proofs.Ytehkofeokccdeaa
set_option linter.unusedSimpArgs false
set_option linter.unusedVariables false
open Go.RowKit Go.Sort

set_option maxRecDepth 100000 in
theorem lookNone (n l s d a0 a1 b0 b1 c0 c1 : Int) (W : World) : (Instr.lookup 66 (.map none) (.agg #[.int .u8 n, .int .u16 l, .int .u32 s, .int .u8 d, .int .u8 a0, .int .u8 a1, .int .u8 b0, .int .u8 b1, .int .u8 c0, .int .u8 c1]) true).run Try.prog W = .ok (.tuple #[.agg #[], .bool false]) W := by
  kernel_rfl

set_option maxRecDepth 100000 in
set_option maxHeartbeats 1000000 in
theorem hasEmpty (b : Nat) (n l s d a0 a1 b0 b1 c0 c1 : Int) (w : World) (hc0 : w.cell? ⟨b, 0, none⟩ = some (.int .i64 0)) (hc1 : w.cell? ⟨b, 1, none⟩ = some (.map none)) : Calls Try.prog 13 #[.pointer (some ⟨b, 0, none⟩), .agg #[.int .u8 n, .int .u16 l, .int .u32 s, .int .u8 d, .int .u8 a0, .int .u8 a1, .int .u8 b0, .int .u8 b1, .int .u8 c0, .int .u8 c1]] w fun e w' => e = .returned (.bool false) ∧ Below w.heap.size w w' := by
  have hl := World.block_lt_of_cell? w _ hc0
  have hlk := fun W => lookNone n l s d a0 a1 b0 b1 c0 c1 W
  go_enter Try.func13, Try.ntmps13
  go_wp2
  go_region_held3 (fun w' => w'.cell? ⟨b, 1, none⟩ = some (.map none) ∧ w'.cell? ⟨w.heap.size, 0, none⟩ = some (.int .u8 n) ∧ w'.cell? ⟨w.heap.size, 1, none⟩ = some (.int .u16 l) ∧ w'.cell? ⟨w.heap.size, 2, none⟩ = some (.int .u32 s) ∧ w'.cell? ⟨w.heap.size, 3, none⟩ = some (.int .u8 d) ∧ w'.cell? ⟨w.heap.size, 4, none⟩ = some (.int .u8 a0) ∧ w'.cell? ⟨w.heap.size, 5, none⟩ = some (.int .u8 a1) ∧ w'.cell? ⟨w.heap.size, 6, none⟩ = some (.int .u8 b0) ∧ w'.cell? ⟨w.heap.size, 7, none⟩ = some (.int .u8 b1) ∧ w'.cell? ⟨w.heap.size, 8, none⟩ = some (.int .u8 c0) ∧ w'.cell? ⟨w.heap.size, 9, none⟩ = some (.int .u8 c1)) ((first | (simp [hl, hc1]; done) | (go_simp; done) | go_keep)) (fail)
  all_goals go_wp2
  all_goals go_ret
  all_goals exact ⟨rfl, (by repeat (first | (with_reducible exact Below.refl _ _) | (with_reducible refine Below.setCell ?_ (by first | (simp; done) | (simp; omega)) _) | (with_reducible refine Below.drew ?_) | (with_reducible refine Below.alloc ?_ (by first | (simp; done) | (simp; omega)) _)))⟩

set_option maxRecDepth 100000 in
set_option maxHeartbeats 1000000 in
theorem remEmpty (b : Nat) (n l s d a0 a1 b0 b1 c0 c1 : Int) (w : World) (hc0 : w.cell? ⟨b, 0, none⟩ = some (.int .i64 0)) (hc1 : w.cell? ⟨b, 1, none⟩ = some (.map none)) : Calls Try.prog 10 #[.pointer (some ⟨b, 0, none⟩), .agg #[.int .u8 n, .int .u16 l, .int .u32 s, .int .u8 d, .int .u8 a0, .int .u8 a1, .int .u8 b0, .int .u8 b1, .int .u8 c0, .int .u8 c1]] w fun e w' => e = .returned (.bool false) ∧ Below w.heap.size w w' := by
  have hl := World.block_lt_of_cell? w _ hc0
  have zb : Below w.heap.size w (w.alloc (.cells #[.int .u8 n, .int .u16 l, .int .u32 s, .int .u8 d, .int .u8 a0, .int .u8 a1, .int .u8 b0, .int .u8 b1, .int .u8 c0, .int .u8 c1] 48)) := (Below.refl _ _).alloc (Nat.le_refl _) _
  have e0 := (zb.cell (p := ⟨b, 0, none⟩) hl).trans hc0
  have e1 := (zb.cell (p := ⟨b, 1, none⟩) hl).trans hc1
  have HE := hasEmpty b n l s d a0 a1 b0 b1 c0 c1 (w.alloc (.cells #[.int .u8 n, .int .u16 l, .int .u32 s, .int .u8 d, .int .u8 a0, .int .u8 a1, .int .u8 b0, .int .u8 b1, .int .u8 c0, .int .u8 c1] 48)) e0 e1
  have HH := Lib.hid HE
  clear HE zb e0 e1
  go_enter Try.func10, Try.ntmps10
  go_wp2_with fail
  refine HH.out.mono ?_
  rintro e w1 ⟨rfl, hb⟩
  go_wp2
  go_ret
  exact ⟨rfl, ((Below.refl _ _).alloc (Nat.le_refl _) _).trans (hb.mono (by simp))⟩

end Go.Proofs.Ytehkofeokccdeaa
