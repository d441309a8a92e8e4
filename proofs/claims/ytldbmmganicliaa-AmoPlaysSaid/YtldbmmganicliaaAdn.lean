/-
  The document's New of a table of calls; Raise that changes nothing. Condition: the numbers fit their kinds.
-/
import Derived.Test.YtldbmmganicliaaAde
namespace Go.Proofs.Ytldbmmganicliaa
set_option linter.unusedSimpArgs false
set_option linter.unusedVariables false
open Go.RowKit Go.Maps Go.Sort

theorem newDT (W : World) (m : Int) (hm : 1 ≤ m ∧ m ≤ 16) : DT (W.alloc (.cells #[.int .i64 m, .slice none 0 0, .slice none 0 0] 71)) W.heap.size ⟨m, [], []⟩ (.slice none 0 0) (.slice none 0 0) :=
  ⟨heap_alloc_new _ _, RowO.nil _ _ _, RowO.nil _ _ _, fun _ h => (by cases h), fun _ h => (by cases h), ⟨Nat.zero_le _, Nat.zero_le _⟩, hm⟩
theorem newT (W : World) (z : Int) : Calls Try.prog 9 #[.int .i64 z] W fun e W' => e = .returned (.pointer (some ⟨W.heap.size, 0, none⟩)) ∧ DT W' W.heap.size ⟨min (max z 1) 16, [], []⟩ (.slice none 0 0) (.slice none 0 0) ∧ Below W.heap.size W W' := by
  by_cases h1 : 1 ≤ z
  · by_cases h2 : z ≤ 16
    · have h3 : ¬ z < 1 := by omega
      have h4 : ¬ 16 < z := by omega
      have e : min (max z 1) 16 = z := by omega
      rw [e]
      go_enter Try.func9, Try.ntmps9
      go_wp2
      all_goals
        go_ret
        exact ⟨by simp, newDT W z ⟨h1, h2⟩, (Below.refl _ _).alloc (Nat.le_refl _) _⟩
    · have h3 : ¬ z < 1 := by omega
      have h4 : 16 < z := by omega
      have e : min (max z 1) 16 = 16 := by omega
      rw [e]
      go_enter Try.func9, Try.ntmps9
      go_wp2
      all_goals
        go_ret
        exact ⟨by simp, newDT W 16 (by decide), (Below.refl _ _).alloc (Nat.le_refl _) _⟩
  · have h3 : z < 1 := by omega
    have h4 : z ≤ 16 := by omega
    have e : min (max z 1) 16 = 1 := by omega
    rw [e]
    go_enter Try.func9, Try.ntmps9
    go_wp2
    all_goals
      go_ret
      exact ⟨by simp, newDT W 1 (by decide), (Below.refl _ _).alloc (Nat.le_refl _) _⟩
set_option maxRecDepth 100000 in
set_option maxHeartbeats 4000000 in
theorem raiseT_no (W : World) (r : Nat) (t : Tt) (lv fv : Value) (h : DT W r t lv fv) (n l u : Int) (rn : 0 ≤ n ∧ n ≤ 255) (rl : 0 ≤ l ∧ l ≤ 65535) (ru : 0 ≤ u ∧ u ≤ 4294967295) (hno : rP n l = false ∨ 1048576 < u ∨ u ≤ floorF t.F n l) :
    Calls Try.prog 18 #[.pointer (some ⟨r, 0, none⟩), .agg #[.int .u8 n, .int .u16 l], .int .u32 u] W fun e W' => e = .returned (.tuple #[]) ∧ Below W.heap.size W W' := by
  obtain ⟨W1, hW1⟩ : ∃ z, W.alloc (.cells #[.int .u8 n, .int .u16 l] 39) = z := ⟨_, rfl⟩
  have b1 : Below W.heap.size W W1 := by rw [← hW1]; exact (Below.refl _ _).alloc (Nat.le_refl _) _
  obtain ⟨kx, hkx⟩ : ∃ z, W.heap.size = z := ⟨_, rfl⟩
  have R1 : W1.heap[kx]? = some (.cells #[.int .u8 n, .int .u16 l] 39 (0, 0)) := by rw [← hW1, ← hkx]; exact heap_alloc_new _ _
  have D1 := Lib.hid (h.below b1)
  have X1 := Lib.hid R1
  have HW1 := Lib.hid hW1
  have HKX := Lib.hid hkx
  have S1 : Hid (kx < W1.heap.size) := Lib.hid (bltA R1)
  have Z1 : Hid (Below kx W W1) := Lib.hid (hkx ▸ b1)
  have KR : Hid (∀ w : World, Calls Try.prog 44 #[.agg #[.int .u8 n, .int .u16 l]] w fun e W' => e = .returned (.bool (rP n l)) ∧ Below w.heap.size w W') := Lib.hid fun w => (refRightProc n l w).mono fun e W' he => ⟨he.1, by rw [← he.2]; exact (Below.refl _ _).alloc (Nat.le_refl _) _⟩
  have KL : Hid (∀ w : World, DT w r t lv fv → Calls Try.prog 26 #[.pointer (some ⟨r, 0, none⟩), .agg #[.int .u8 n, .int .u16 l]] w fun e W' => e = .returned (.int .u32 (floorF t.F n l)) ∧ Below w.heap.size w W') := Lib.hid fun w hw => floorT w r t _ _ hw n l rn rl
  have x0 := cell_of X1.out 0 (.int .u8 n) rfl
  have x1 := cell_of X1.out 1 (.int .u16 l) rfl
  clear h b1 hW1 R1
  rw [hkx]
  go_enter Try.func18, Try.ntmps18
  by_cases h1 : rP n l = true
  · have KR : Hid (∀ w : World, Calls Try.prog 44 #[.agg #[.int .u8 n, .int .u16 l]] w fun e W' => e = .returned (.bool true) ∧ Below w.heap.size w W') := Lib.hid fun w => h1 ▸ KR.out w
    by_cases h2 : 1048576 < u
    · clear h1 hno
      go_wp2_with (first | rw [HW1.out] | (go_at_call 44; refine (KR.out _).mono ?_; rintro e w2 ⟨rfl, b⟩; have D2 := Lib.hid (D1.out.below b); have X2 := Lib.hid ((b.block kx S1.out).trans X1.out); have Z2 := Lib.hid (Z1.out.trans (b.mono (Nat.le_of_lt S1.out))); have S2 : Hid (kx < w2.heap.size) := Lib.hid (Nat.lt_of_lt_of_le S1.out b.size); clear b; clear x0 x1; have x0 := cell_of X2.out 0 (.int .u8 n) rfl; have x1 := cell_of X2.out 1 (.int .u16 l) rfl) | fail)
      refine bodyPost_ret (results_none rfl _ _ _) rfl ?_
      exact ⟨rfl, Z2.out⟩
    · have h3 : u ≤ floorF t.F n l := by
        rcases hno with h | h | h
        · rw [h1] at h
          cases h
        · exact absurd h h2
        · exact h
      have h2' : u ≤ 1048576 := by omega
      clear h1 hno
      go_wp2_with (first | rw [HW1.out] | (go_at_call 44; refine (KR.out _).mono ?_; rintro e w2 ⟨rfl, b⟩; have D2 := Lib.hid (D1.out.below b); have X2 := Lib.hid ((b.block kx S1.out).trans X1.out); have Z2 := Lib.hid (Z1.out.trans (b.mono (Nat.le_of_lt S1.out))); have S2 : Hid (kx < w2.heap.size) := Lib.hid (Nat.lt_of_lt_of_le S1.out b.size); clear b; clear x0 x1; have x0 := cell_of X2.out 0 (.int .u8 n) rfl; have x1 := cell_of X2.out 1 (.int .u16 l) rfl) | (go_at_call 26; refine (KL.out _ D2.out).mono ?_; rintro e w3 ⟨rfl, b⟩; have D3 := Lib.hid (D2.out.below b); have X3 := Lib.hid ((b.block kx S2.out).trans X2.out); have Z3 := Lib.hid (Z2.out.trans (b.mono (Nat.le_of_lt S2.out))); have S3 : Hid (kx < w3.heap.size) := Lib.hid (Nat.lt_of_lt_of_le S2.out b.size); clear b; clear x0 x1; have x0 := cell_of X3.out 0 (.int .u8 n) rfl; have x1 := cell_of X3.out 1 (.int .u16 l) rfl) | fail)
      refine bodyPost_ret (results_none rfl _ _ _) rfl ?_
      exact ⟨rfl, Z3.out⟩
  · have h1' : rP n l = false := by simpa using h1
    have KR : Hid (∀ w : World, Calls Try.prog 44 #[.agg #[.int .u8 n, .int .u16 l]] w fun e W' => e = .returned (.bool false) ∧ Below w.heap.size w W') := Lib.hid fun w => h1' ▸ KR.out w
    clear h1 h1' hno
    go_wp2_with (first | rw [HW1.out] | (go_at_call 44; refine (KR.out _).mono ?_; rintro e w2 ⟨rfl, b⟩; have D2 := Lib.hid (D1.out.below b); have X2 := Lib.hid ((b.block kx S1.out).trans X1.out); have Z2 := Lib.hid (Z1.out.trans (b.mono (Nat.le_of_lt S1.out))); have S2 : Hid (kx < w2.heap.size) := Lib.hid (Nat.lt_of_lt_of_le S1.out b.size); clear b; clear x0 x1; have x0 := cell_of X2.out 0 (.int .u8 n) rfl; have x1 := cell_of X2.out 1 (.int .u16 l) rfl) | fail)
    refine bodyPost_ret (results_none rfl _ _ _) rfl ?_
    exact ⟨rfl, Z2.out⟩

end Go.Proofs.Ytldbmmganicliaa
