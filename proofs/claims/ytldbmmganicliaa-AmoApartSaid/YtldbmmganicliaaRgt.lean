/-
  Which identifiers may be: the program's Right and the document's give back the same, by one plain function, and change nothing that was there. No condition.
-/
import Derived.Test.YtldbmmganicliaaConv
import Derived.Handy
namespace Go.Proofs.Ytldbmmganicliaa
set_option linter.unusedSimpArgs false
set_option linter.unusedVariables false
open Go.RowKit

/-- may there be such a process? -/
def rP (n l : Int) : Bool := decide (n < 16) && decide (1 ≤ l)
/-- may there be such an identifier? -/
def rI (n l s d a0 a1 b0 b1 c0 c1 : Int) : Bool :=
  rP n l && decide (1 ≤ s) && decide (s ≤ 1048576) && decide (d ≤ 3) &&
  (if 0 < d then decide (a0 < 4) else decide (a0 = 0) && decide (a1 = 0)) &&
  (if 1 < d then decide (b0 < 4) else decide (b0 = 0) && decide (b1 = 0)) &&
  (if 2 < d then decide (c0 < 4) else decide (c0 = 0) && decide (c1 = 0))

set_option maxHeartbeats 400000 in
theorem rightProc (n l : Int) (w : World) :
    Calls Try.prog 41 #[.agg #[.int .u8 n, .int .u16 l]] w fun e w' => e = .returned (.bool (rP n l)) ∧ w.alloc (.cells #[.int .u8 n, .int .u16 l] 31) = w' := by
  by_cases h1 : n < 16
  all_goals by_cases h2 : 1 ≤ l
  all_goals
    go_enter Try.func41, Try.ntmps41
    go_wp2
    go_ret
    refine ⟨?_, rfl⟩
    first | (simp [rP, *]; done) | (simp [rP, *]; omega)

set_option maxHeartbeats 400000 in
theorem refRightProc (n l : Int) (w : World) :
    Calls Try.prog 44 #[.agg #[.int .u8 n, .int .u16 l]] w fun e w' => e = .returned (.bool (rP n l)) ∧ w.alloc (.cells #[.int .u8 n, .int .u16 l] 39) = w' := by
  by_cases h1 : n < 16
  all_goals by_cases h2 : 1 ≤ l
  all_goals
    go_enter Try.func44, Try.ntmps44
    go_wp2
    go_ret
    refine ⟨?_, rfl⟩
    first | (simp [rP, *]; done) | (simp [rP, *]; omega)

theorem rightID_close (n l s d a0 a1 b0 b1 c0 c1 : Int) (hp : rP n l = false ∨ s < 1 ∨ 1048576 < s ∨ 3 < d) : rI n l s d a0 a1 b0 b1 c0 c1 = false := by
  rcases hp with h | h | h | h
  · simp [rI, h]
  · have : ¬ 1 ≤ s := by omega
    simp [rI, this]
  · have : ¬ s ≤ 1048576 := by omega
    simp [rI, this]
  · have : ¬ d ≤ 3 := by omega
    simp [rI, this]

set_option maxHeartbeats 1000000 in
theorem rightID_0 (n l s a0 a1 b0 b1 c0 c1 : Int) (w : World) (hp : rP n l = true) (hs : 1 ≤ s) (hs2 : s ≤ 1048576) :
    Calls Try.prog 36 #[.agg #[.int .u8 n, .int .u16 l, .int .u32 s, .int .u8 0, .int .u8 a0, .int .u8 a1, .int .u8 b0, .int .u8 b1, .int .u8 c0, .int .u8 c1]] w fun e w' =>
      e = .returned (.bool (rI n l s 0 a0 a1 b0 b1 c0 c1)) ∧ Below w.heap.size w w' := by
  go_enter Try.func36, Try.ntmps36
  go_wp2_with (go_at_call 41; refine (rightProc _ _ _).mono ?_; rintro e w' ⟨rfl, rfl⟩)
  go_rounds 4
  any_goals go_rounds 4
  all_goals
    go_ret
    refine ⟨?_, (by repeat (first | (with_reducible exact Below.refl _ _) | (with_reducible refine Below.setCell ?_ (by first | (simp; done) | (simp; omega)) _) | (with_reducible refine Below.drew ?_) | (with_reducible refine Below.alloc ?_ (by first | (simp; done) | (simp; omega)) _)))⟩
    first | (simp [rI, *]; done) | (simp [rI, *]; omega)

set_option maxHeartbeats 1000000 in
theorem rightID_1 (n l s a0 a1 b0 b1 c0 c1 : Int) (w : World) (hp : rP n l = true) (hs : 1 ≤ s) (hs2 : s ≤ 1048576) :
    Calls Try.prog 36 #[.agg #[.int .u8 n, .int .u16 l, .int .u32 s, .int .u8 1, .int .u8 a0, .int .u8 a1, .int .u8 b0, .int .u8 b1, .int .u8 c0, .int .u8 c1]] w fun e w' =>
      e = .returned (.bool (rI n l s 1 a0 a1 b0 b1 c0 c1)) ∧ Below w.heap.size w w' := by
  go_enter Try.func36, Try.ntmps36
  go_wp2_with (go_at_call 41; refine (rightProc _ _ _).mono ?_; rintro e w' ⟨rfl, rfl⟩)
  go_rounds 4
  any_goals go_rounds 4
  all_goals
    go_ret
    refine ⟨?_, (by repeat (first | (with_reducible exact Below.refl _ _) | (with_reducible refine Below.setCell ?_ (by first | (simp; done) | (simp; omega)) _) | (with_reducible refine Below.drew ?_) | (with_reducible refine Below.alloc ?_ (by first | (simp; done) | (simp; omega)) _)))⟩
    first | (simp [rI, *]; done) | (simp [rI, *]; omega)

set_option maxHeartbeats 1000000 in
theorem rightID_2 (n l s a0 a1 b0 b1 c0 c1 : Int) (w : World) (hp : rP n l = true) (hs : 1 ≤ s) (hs2 : s ≤ 1048576) :
    Calls Try.prog 36 #[.agg #[.int .u8 n, .int .u16 l, .int .u32 s, .int .u8 2, .int .u8 a0, .int .u8 a1, .int .u8 b0, .int .u8 b1, .int .u8 c0, .int .u8 c1]] w fun e w' =>
      e = .returned (.bool (rI n l s 2 a0 a1 b0 b1 c0 c1)) ∧ Below w.heap.size w w' := by
  go_enter Try.func36, Try.ntmps36
  go_wp2_with (go_at_call 41; refine (rightProc _ _ _).mono ?_; rintro e w' ⟨rfl, rfl⟩)
  go_rounds 4
  any_goals go_rounds 4
  all_goals
    go_ret
    refine ⟨?_, (by repeat (first | (with_reducible exact Below.refl _ _) | (with_reducible refine Below.setCell ?_ (by first | (simp; done) | (simp; omega)) _) | (with_reducible refine Below.drew ?_) | (with_reducible refine Below.alloc ?_ (by first | (simp; done) | (simp; omega)) _)))⟩
    first | (simp [rI, *]; done) | (simp [rI, *]; omega)

set_option maxHeartbeats 1000000 in
theorem rightID_3 (n l s a0 a1 b0 b1 c0 c1 : Int) (w : World) (hp : rP n l = true) (hs : 1 ≤ s) (hs2 : s ≤ 1048576) :
    Calls Try.prog 36 #[.agg #[.int .u8 n, .int .u16 l, .int .u32 s, .int .u8 3, .int .u8 a0, .int .u8 a1, .int .u8 b0, .int .u8 b1, .int .u8 c0, .int .u8 c1]] w fun e w' =>
      e = .returned (.bool (rI n l s 3 a0 a1 b0 b1 c0 c1)) ∧ Below w.heap.size w w' := by
  go_enter Try.func36, Try.ntmps36
  go_wp2_with (go_at_call 41; refine (rightProc _ _ _).mono ?_; rintro e w' ⟨rfl, rfl⟩)
  go_rounds 4
  any_goals go_rounds 4
  all_goals
    go_ret
    refine ⟨?_, (by repeat (first | (with_reducible exact Below.refl _ _) | (with_reducible refine Below.setCell ?_ (by first | (simp; done) | (simp; omega)) _) | (with_reducible refine Below.drew ?_) | (with_reducible refine Below.alloc ?_ (by first | (simp; done) | (simp; omega)) _)))⟩
    first | (simp [rI, *]; done) | (simp [rI, *]; omega)

set_option maxHeartbeats 1000000 in
theorem rightID (n l s d a0 a1 b0 b1 c0 c1 : Int) (w : World) (hd : 0 ≤ d) :
    Calls Try.prog 36 #[.agg #[.int .u8 n, .int .u16 l, .int .u32 s, .int .u8 d, .int .u8 a0, .int .u8 a1, .int .u8 b0, .int .u8 b1, .int .u8 c0, .int .u8 c1]] w fun e w' =>
      e = .returned (.bool (rI n l s d a0 a1 b0 b1 c0 c1)) ∧ Below w.heap.size w w' := by
  by_cases hp : rP n l = true
  · by_cases hs : 1 ≤ s
    · by_cases hs2 : s ≤ 1048576
      · by_cases h3 : d ≤ 3
        · have h : d = 0 ∨ d = 1 ∨ d = 2 ∨ d = 3 := by omega
          rcases h with rfl | rfl | rfl | rfl
          · exact rightID_0 n l s a0 a1 b0 b1 c0 c1 w hp hs hs2
          · exact rightID_1 n l s a0 a1 b0 b1 c0 c1 w hp hs hs2
          · exact rightID_2 n l s a0 a1 b0 b1 c0 c1 w hp hs hs2
          · exact rightID_3 n l s a0 a1 b0 b1 c0 c1 w hp hs hs2
        · have hc := rightID_close n l s d a0 a1 b0 b1 c0 c1 (.inr (.inr (.inr (by omega))))
          rw [hc]
          clear hc
          go_enter Try.func36, Try.ntmps36
          go_wp2_with (go_at_call 41; refine (rightProc _ _ _).mono ?_; rintro e w' ⟨rfl, rfl⟩)
          go_ret
          exact ⟨rfl, (by repeat (first | (with_reducible exact Below.refl _ _) | (with_reducible refine Below.setCell ?_ (by first | (simp; done) | (simp; omega)) _) | (with_reducible refine Below.drew ?_) | (with_reducible refine Below.alloc ?_ (by first | (simp; done) | (simp; omega)) _)))⟩
      · have hc := rightID_close n l s d a0 a1 b0 b1 c0 c1 (.inr (.inr (.inl (by omega))))
        rw [hc]
        clear hc
        go_enter Try.func36, Try.ntmps36
        go_wp2_with (go_at_call 41; refine (rightProc _ _ _).mono ?_; rintro e w' ⟨rfl, rfl⟩)
        go_ret
        exact ⟨rfl, (by repeat (first | (with_reducible exact Below.refl _ _) | (with_reducible refine Below.setCell ?_ (by first | (simp; done) | (simp; omega)) _) | (with_reducible refine Below.drew ?_) | (with_reducible refine Below.alloc ?_ (by first | (simp; done) | (simp; omega)) _)))⟩
    · have hc := rightID_close n l s d a0 a1 b0 b1 c0 c1 (.inr (.inl (by omega)))
      rw [hc]
      clear hc
      go_enter Try.func36, Try.ntmps36
      go_wp2_with (go_at_call 41; refine (rightProc _ _ _).mono ?_; rintro e w' ⟨rfl, rfl⟩)
      go_ret
      exact ⟨rfl, (by repeat (first | (with_reducible exact Below.refl _ _) | (with_reducible refine Below.setCell ?_ (by first | (simp; done) | (simp; omega)) _) | (with_reducible refine Below.drew ?_) | (with_reducible refine Below.alloc ?_ (by first | (simp; done) | (simp; omega)) _)))⟩
  · have hp' : rP n l = false := by simpa using hp
    clear hp
    have hc := rightID_close n l s d a0 a1 b0 b1 c0 c1 (.inl hp')
    rw [hc]
    clear hc
    go_enter Try.func36, Try.ntmps36
    go_wp2_with (go_at_call 41; refine (rightProc _ _ _).mono ?_; rintro e w' ⟨rfl, rfl⟩)
    go_ret
    exact ⟨rfl, (by repeat (first | (with_reducible exact Below.refl _ _) | (with_reducible refine Below.setCell ?_ (by first | (simp; done) | (simp; omega)) _) | (with_reducible refine Below.drew ?_) | (with_reducible refine Below.alloc ?_ (by first | (simp; done) | (simp; omega)) _)))⟩

theorem refRight_close (n l s d a0 a1 b0 b1 c0 c1 : Int) (hp : rP n l = false ∨ s < 1 ∨ 1048576 < s ∨ 3 < d) : rI n l s d a0 a1 b0 b1 c0 c1 = false := by
  rcases hp with h | h | h | h
  · simp [rI, h]
  · have : ¬ 1 ≤ s := by omega
    simp [rI, this]
  · have : ¬ s ≤ 1048576 := by omega
    simp [rI, this]
  · have : ¬ d ≤ 3 := by omega
    simp [rI, this]

set_option maxHeartbeats 1000000 in
theorem refRight_0 (n l s a0 a1 b0 b1 c0 c1 : Int) (w : World) (hp : rP n l = true) (hs : 1 ≤ s) (hs2 : s ≤ 1048576) :
    Calls Try.prog 37 #[.agg #[.int .u8 n, .int .u16 l, .int .u32 s, .int .u8 0, .int .u8 a0, .int .u8 a1, .int .u8 b0, .int .u8 b1, .int .u8 c0, .int .u8 c1]] w fun e w' =>
      e = .returned (.bool (rI n l s 0 a0 a1 b0 b1 c0 c1)) ∧ Below w.heap.size w w' := by
  go_enter Try.func37, Try.ntmps37
  go_wp2_with (go_at_call 44; refine (refRightProc _ _ _).mono ?_; rintro e w' ⟨rfl, rfl⟩)
  go_rounds 4
  all_goals
    go_ret
    refine ⟨?_, (by repeat (first | (with_reducible exact Below.refl _ _) | (with_reducible refine Below.setCell ?_ (by first | (simp; done) | (simp; omega)) _) | (with_reducible refine Below.drew ?_) | (with_reducible refine Below.alloc ?_ (by first | (simp; done) | (simp; omega)) _)))⟩
    first | (simp [rI, *]; done) | (simp [rI, *]; omega)

set_option maxHeartbeats 1000000 in
theorem refRight_1 (n l s a0 a1 b0 b1 c0 c1 : Int) (w : World) (hp : rP n l = true) (hs : 1 ≤ s) (hs2 : s ≤ 1048576) :
    Calls Try.prog 37 #[.agg #[.int .u8 n, .int .u16 l, .int .u32 s, .int .u8 1, .int .u8 a0, .int .u8 a1, .int .u8 b0, .int .u8 b1, .int .u8 c0, .int .u8 c1]] w fun e w' =>
      e = .returned (.bool (rI n l s 1 a0 a1 b0 b1 c0 c1)) ∧ Below w.heap.size w w' := by
  go_enter Try.func37, Try.ntmps37
  go_wp2_with (go_at_call 44; refine (refRightProc _ _ _).mono ?_; rintro e w' ⟨rfl, rfl⟩)
  go_rounds 4
  all_goals
    go_ret
    refine ⟨?_, (by repeat (first | (with_reducible exact Below.refl _ _) | (with_reducible refine Below.setCell ?_ (by first | (simp; done) | (simp; omega)) _) | (with_reducible refine Below.drew ?_) | (with_reducible refine Below.alloc ?_ (by first | (simp; done) | (simp; omega)) _)))⟩
    first | (simp [rI, *]; done) | (simp [rI, *]; omega)

set_option maxHeartbeats 1000000 in
theorem refRight_2 (n l s a0 a1 b0 b1 c0 c1 : Int) (w : World) (hp : rP n l = true) (hs : 1 ≤ s) (hs2 : s ≤ 1048576) :
    Calls Try.prog 37 #[.agg #[.int .u8 n, .int .u16 l, .int .u32 s, .int .u8 2, .int .u8 a0, .int .u8 a1, .int .u8 b0, .int .u8 b1, .int .u8 c0, .int .u8 c1]] w fun e w' =>
      e = .returned (.bool (rI n l s 2 a0 a1 b0 b1 c0 c1)) ∧ Below w.heap.size w w' := by
  go_enter Try.func37, Try.ntmps37
  go_wp2_with (go_at_call 44; refine (refRightProc _ _ _).mono ?_; rintro e w' ⟨rfl, rfl⟩)
  go_rounds 4
  all_goals
    go_ret
    refine ⟨?_, (by repeat (first | (with_reducible exact Below.refl _ _) | (with_reducible refine Below.setCell ?_ (by first | (simp; done) | (simp; omega)) _) | (with_reducible refine Below.drew ?_) | (with_reducible refine Below.alloc ?_ (by first | (simp; done) | (simp; omega)) _)))⟩
    first | (simp [rI, *]; done) | (simp [rI, *]; omega)

set_option maxHeartbeats 1000000 in
theorem refRight_3 (n l s a0 a1 b0 b1 c0 c1 : Int) (w : World) (hp : rP n l = true) (hs : 1 ≤ s) (hs2 : s ≤ 1048576) :
    Calls Try.prog 37 #[.agg #[.int .u8 n, .int .u16 l, .int .u32 s, .int .u8 3, .int .u8 a0, .int .u8 a1, .int .u8 b0, .int .u8 b1, .int .u8 c0, .int .u8 c1]] w fun e w' =>
      e = .returned (.bool (rI n l s 3 a0 a1 b0 b1 c0 c1)) ∧ Below w.heap.size w w' := by
  go_enter Try.func37, Try.ntmps37
  go_wp2_with (go_at_call 44; refine (refRightProc _ _ _).mono ?_; rintro e w' ⟨rfl, rfl⟩)
  go_rounds 4
  all_goals
    go_ret
    refine ⟨?_, (by repeat (first | (with_reducible exact Below.refl _ _) | (with_reducible refine Below.setCell ?_ (by first | (simp; done) | (simp; omega)) _) | (with_reducible refine Below.drew ?_) | (with_reducible refine Below.alloc ?_ (by first | (simp; done) | (simp; omega)) _)))⟩
    first | (simp [rI, *]; done) | (simp [rI, *]; omega)

set_option maxHeartbeats 1000000 in
theorem refRight (n l s d a0 a1 b0 b1 c0 c1 : Int) (w : World) (hd : 0 ≤ d) :
    Calls Try.prog 37 #[.agg #[.int .u8 n, .int .u16 l, .int .u32 s, .int .u8 d, .int .u8 a0, .int .u8 a1, .int .u8 b0, .int .u8 b1, .int .u8 c0, .int .u8 c1]] w fun e w' =>
      e = .returned (.bool (rI n l s d a0 a1 b0 b1 c0 c1)) ∧ Below w.heap.size w w' := by
  by_cases hp : rP n l = true
  · by_cases hs : 1 ≤ s
    · by_cases hs2 : s ≤ 1048576
      · by_cases h3 : d ≤ 3
        · have h : d = 0 ∨ d = 1 ∨ d = 2 ∨ d = 3 := by omega
          rcases h with rfl | rfl | rfl | rfl
          · exact refRight_0 n l s a0 a1 b0 b1 c0 c1 w hp hs hs2
          · exact refRight_1 n l s a0 a1 b0 b1 c0 c1 w hp hs hs2
          · exact refRight_2 n l s a0 a1 b0 b1 c0 c1 w hp hs hs2
          · exact refRight_3 n l s a0 a1 b0 b1 c0 c1 w hp hs hs2
        · have hc := refRight_close n l s d a0 a1 b0 b1 c0 c1 (.inr (.inr (.inr (by omega))))
          rw [hc]
          clear hc
          go_enter Try.func37, Try.ntmps37
          go_wp2_with (go_at_call 44; refine (refRightProc _ _ _).mono ?_; rintro e w' ⟨rfl, rfl⟩)
          go_ret
          exact ⟨rfl, (by repeat (first | (with_reducible exact Below.refl _ _) | (with_reducible refine Below.setCell ?_ (by first | (simp; done) | (simp; omega)) _) | (with_reducible refine Below.drew ?_) | (with_reducible refine Below.alloc ?_ (by first | (simp; done) | (simp; omega)) _)))⟩
      · have hc := refRight_close n l s d a0 a1 b0 b1 c0 c1 (.inr (.inr (.inl (by omega))))
        rw [hc]
        clear hc
        go_enter Try.func37, Try.ntmps37
        go_wp2_with (go_at_call 44; refine (refRightProc _ _ _).mono ?_; rintro e w' ⟨rfl, rfl⟩)
        go_ret
        exact ⟨rfl, (by repeat (first | (with_reducible exact Below.refl _ _) | (with_reducible refine Below.setCell ?_ (by first | (simp; done) | (simp; omega)) _) | (with_reducible refine Below.drew ?_) | (with_reducible refine Below.alloc ?_ (by first | (simp; done) | (simp; omega)) _)))⟩
    · have hc := refRight_close n l s d a0 a1 b0 b1 c0 c1 (.inr (.inl (by omega)))
      rw [hc]
      clear hc
      go_enter Try.func37, Try.ntmps37
      go_wp2_with (go_at_call 44; refine (refRightProc _ _ _).mono ?_; rintro e w' ⟨rfl, rfl⟩)
      go_ret
      exact ⟨rfl, (by repeat (first | (with_reducible exact Below.refl _ _) | (with_reducible refine Below.setCell ?_ (by first | (simp; done) | (simp; omega)) _) | (with_reducible refine Below.drew ?_) | (with_reducible refine Below.alloc ?_ (by first | (simp; done) | (simp; omega)) _)))⟩
  · have hp' : rP n l = false := by simpa using hp
    clear hp
    have hc := refRight_close n l s d a0 a1 b0 b1 c0 c1 (.inl hp')
    rw [hc]
    clear hc
    go_enter Try.func37, Try.ntmps37
    go_wp2_with (go_at_call 44; refine (refRightProc _ _ _).mono ?_; rintro e w' ⟨rfl, rfl⟩)
    go_ret
    exact ⟨rfl, (by repeat (first | (with_reducible exact Below.refl _ _) | (with_reducible refine Below.setCell ?_ (by first | (simp; done) | (simp; omega)) _) | (with_reducible refine Below.drew ?_) | (with_reducible refine Below.alloc ?_ (by first | (simp; done) | (simp; omega)) _)))⟩

end Go.Proofs.Ytldbmmganicliaa
