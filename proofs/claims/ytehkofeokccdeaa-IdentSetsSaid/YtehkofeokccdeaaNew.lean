/-
  A new Set, and the question of Under, by contracts. No condition.
-/
import Derived.Test.YtehkofeokccdeaaAdd
namespace Go.Proofs.Ytehkofeokccdeaa
set_option linter.unusedSimpArgs false
set_option linter.unusedVariables false
open Go.RowKit Go.Maps

set_option maxHeartbeats 400000 in
theorem newSet (most : Int) (w : World) : Calls Try.prog 5 #[.int .i64 most] w fun e w' => e = .returned (.pointer (some ⟨w.heap.size + 1, 0, none⟩)) ∧ (w.alloc (.map #[] 0)).alloc (.cells #[.int .i64 most, .map (some w.heap.size)] 68) = w' := by
  have hmm := @run_makeMap Try.prog
  go_enter Try.func5, Try.ntmps5
  go_wp2
  go_ret
  exact ⟨by simp, rfl⟩

/-- is a process another one? -/
def neP (n l n' l' : Int) : Bool := !(decide (n = n') && decide (l = l'))

set_option maxRecDepth 100000 in
set_option maxHeartbeats 1000000 in
theorem underAsk (x : I10) (p : Nat) (n l : Int) (w : World) (h0 : w.cell? ⟨p, 0, none⟩ = some (.int .u8 n)) (h1 : w.cell? ⟨p, 1, none⟩ = some (.int .u16 l)) :
    Calls Try.prog 27 #[.agg #[.int .u8 x.n, .int .u16 x.l, .int .u32 x.s, .int .u8 x.d, .int .u8 x.a0, .int .u8 x.a1, .int .u8 x.b0, .int .u8 x.b1, .int .u8 x.c0, .int .u8 x.c1], .pointer (some ⟨p, 0, none⟩)] w fun e w' => e = .returned (.bool (neP x.n x.l n l)) ∧ Below w.heap.size w w' := by
  have hl := World.block_lt_of_cell? w _ h0
  by_cases e0 : x.n = n
  · by_cases e1 : x.l = l
    · have er : neP x.n x.l n l = false := by simp [neP, e0, e1]
      rw [er]
      go_enter Try.func27, Try.ntmps27
      go_wp2
      go_ret
      exact ⟨rfl, (by repeat (first | (with_reducible exact Below.refl _ _) | (with_reducible refine Below.setCell ?_ (by first | (simp; done) | (simp; omega)) _) | (with_reducible refine Below.drew ?_) | (with_reducible refine Below.alloc ?_ (by first | (simp; done) | (simp; omega)) _)))⟩
    · have er : neP x.n x.l n l = true := by simp [neP, e1]
      rw [er]
      go_enter Try.func27, Try.ntmps27
      go_wp2
      go_ret
      exact ⟨rfl, (by repeat (first | (with_reducible exact Below.refl _ _) | (with_reducible refine Below.setCell ?_ (by first | (simp; done) | (simp; omega)) _) | (with_reducible refine Below.drew ?_) | (with_reducible refine Below.alloc ?_ (by first | (simp; done) | (simp; omega)) _)))⟩
  · have er : neP x.n x.l n l = true := by simp [neP, e0]
    rw [er]
    go_enter Try.func27, Try.ntmps27
    go_wp2
    go_ret
    exact ⟨rfl, (by repeat (first | (with_reducible exact Below.refl _ _) | (with_reducible refine Below.setCell ?_ (by first | (simp; done) | (simp; omega)) _) | (with_reducible refine Below.drew ?_) | (with_reducible refine Below.alloc ?_ (by first | (simp; done) | (simp; omega)) _)))⟩

end Go.Proofs.Ytehkofeokccdeaa
