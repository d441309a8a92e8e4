/-
  Conversions between the program's parts and results and the document's, and which of them may be: each by a contract. No condition.
-/
import Derived.Test.YtnkimbmnnhnanaaDoorRows
import Derived.WalkKit
import Derived.WalkSpells
import Derived.WalkLawsBesides
import Derived.Deep.RegionWith
import Derived.Deep.RegionHeld3
import Derived.BigRegion
import Derived.Lib.Hide
import Derived.LoopN
import Derived.Handy
namespace Go.Proofs.YtnkimbmnnhnanaaDoor
set_option linter.unusedSimpArgs false
set_option linter.unusedVariables false
open Go.RowKit

/-- may there be such a part? -/
def rP (g k n : Int) (key val : ByteArray) : Bool :=
  decide (g < 4) && decide (k ≤ 4) && decide (1 ≤ key.size) && decide (key.size ≤ 16) && decide (val.size ≤ 64) && (decide (k = 1) || decide (val.size = 0)) && decide (0 ≤ n) && (decide (k = 2) || decide (k = 3) || decide (n = 0))
/-- may there be such a result? -/
def rR (c : Int) (v : ByteArray) : Bool := decide (c ≤ 5) && decide (v.size ≤ 1000)

theorem emp_eq (s : ByteArray) : s.toList.isEmpty = decide (s.size = 0) := by
  rw [ByteArray.toList_eq]
  show s.data.toList.isEmpty = decide (s.data.size = 0)
  cases h : s.data.toList with
  | nil => have := congrArg List.length h; simp at this; simp [this]
  | cons a l => have := congrArg List.length h; simp at this; simp; intro hh; rw [hh] at this; simp at this
theorem nil_iff (s : ByteArray) : s.toList = [] ↔ s.size = 0 := by
  have h := emp_eq s
  rw [← List.isEmpty_iff, h]
  simp [-ByteArray.size_eq_zero_iff]
theorem ret_bool {a b : Bool} (h : a = b) : Ending.returned (.bool a) = .returned (.bool b) := by rw [h]

set_option maxHeartbeats 400000 in
theorem toPart (g k n : Int) (key val : ByteArray) (w : World) :
    Calls Tryd.prog 49 #[.agg #[.int .u8 g, .int .u8 k, .string key, .string val, .int .i64 n]] w fun e w' => e = .returned (.agg #[.int .u8 g, .int .u8 k, .string key, .string val, .int .i64 n]) ∧ ((w.alloc (.cells #[.int .u8 g, .int .u8 k, .string key, .string val, .int .i64 n] 86)).alloc (.cells #[.int .u8 g, .int .u8 k, .string key, .string val, .int .i64 n] 56)) = w' := by
  go_enter Tryd.func49, Tryd.ntmps49
  go_wp2
  exact bodyPost_ret (v := .agg #[.int .u8 g, .int .u8 k, .string key, .string val, .int .i64 n]) (by simp [results, Tryd.results49, go_sem]) rfl ⟨rfl, by simp⟩

set_option maxHeartbeats 400000 in
theorem toRes (c : Int) (v : ByteArray) (w : World) :
    Calls Tryd.prog 18 #[.agg #[.int .u8 c, .string v]] w fun e w' => e = .returned (.agg #[.int .u8 c, .string v]) ∧ ((w.alloc (.cells #[.int .u8 c, .string v] 33)).alloc (.cells #[.int .u8 c, .string v] 46)) = w' := by
  go_enter Tryd.func18, Tryd.ntmps18
  go_wp2
  exact bodyPost_ret (v := .agg #[.int .u8 c, .string v]) (by simp [results, Tryd.results18, go_sem]) rfl ⟨rfl, by simp⟩

set_option maxHeartbeats 400000 in
theorem refRes (c : Int) (v : ByteArray) (w : World) :
    Calls Tryd.prog 41 #[.agg #[.int .u8 c, .string v]] w fun e w' => e = .returned (.agg #[.int .u8 c, .string v]) ∧ ((w.alloc (.cells #[.int .u8 c, .string v] 46)).alloc (.cells #[.int .u8 c, .string v] 33)) = w' := by
  go_enter Tryd.func41, Tryd.ntmps41
  go_wp2
  exact bodyPost_ret (v := .agg #[.int .u8 c, .string v]) (by simp [results, Tryd.results41, go_sem]) rfl ⟨rfl, by simp⟩

set_option maxHeartbeats 2000000 in
theorem rightPart (g k n : Int) (key val : ByteArray) (w : World) (hk : 0 ≤ k) :
    Calls Tryd.prog 50 #[.agg #[.int .u8 g, .int .u8 k, .string key, .string val, .int .i64 n]] w fun e w' => e = .returned (.bool (rP g k n key val)) ∧ Below w.heap.size w w' := by
  rcases (show g < 4 ∨ 4 ≤ g by omega) with h1 | h1
  all_goals rcases (show (key.size : Int) < 1 ∨ (1 ≤ (key.size : Int) ∧ (key.size : Int) ≤ 16) ∨ (1 ≤ (key.size : Int) ∧ 16 < (key.size : Int)) by omega) with h2 | ⟨h2, h3⟩ | ⟨h2, h3⟩
  all_goals by_cases hn : n = 0
  all_goals
    go_enter Tryd.func50, Tryd.ntmps50
    go_wp2
    all_goals
      go_ret
      refine ⟨ret_bool ?_, (by repeat (first | (with_reducible exact Below.refl _ _) | (with_reducible refine Below.setCell ?_ (by first | (simp; done) | (simp; omega)) _) | (with_reducible refine Below.drew ?_) | (with_reducible refine Below.alloc ?_ (by first | (simp; done) | (simp; omega)) _)))⟩
      try simp only [emp_eq, nil_iff] at *
      rw [Bool.eq_iff_iff]
      unfold rP
      simp [-ByteArray.size_eq_zero_iff] at *
      first | done | omega | (intros; omega)

set_option maxHeartbeats 2000000 in
theorem refRight (g k n : Int) (key val : ByteArray) (w : World) (hk : 0 ≤ k) :
    Calls Tryd.prog 62 #[.agg #[.int .u8 g, .int .u8 k, .string key, .string val, .int .i64 n]] w fun e w' => e = .returned (.bool (rP g k n key val)) ∧ Below w.heap.size w w' := by
  rcases (show g < 4 ∨ 4 ≤ g by omega) with h1 | h1
  all_goals rcases (show (key.size : Int) < 1 ∨ (1 ≤ (key.size : Int) ∧ (key.size : Int) ≤ 16) ∨ (1 ≤ (key.size : Int) ∧ 16 < (key.size : Int)) by omega) with h2 | ⟨h2, h3⟩ | ⟨h2, h3⟩
  all_goals by_cases hn : n = 0
  all_goals
    go_enter Tryd.func62, Tryd.ntmps62
    go_wp2
    all_goals
      go_ret
      refine ⟨ret_bool ?_, (by repeat (first | (with_reducible exact Below.refl _ _) | (with_reducible refine Below.setCell ?_ (by first | (simp; done) | (simp; omega)) _) | (with_reducible refine Below.drew ?_) | (with_reducible refine Below.alloc ?_ (by first | (simp; done) | (simp; omega)) _)))⟩
      try simp only [emp_eq, nil_iff] at *
      rw [Bool.eq_iff_iff]
      unfold rP
      simp [-ByteArray.size_eq_zero_iff] at *
      first | done | omega | (intros; omega)

set_option maxHeartbeats 400000 in
theorem rightRes (c : Int) (v : ByteArray) (w : World) :
    Calls Tryd.prog 26 #[.agg #[.int .u8 c, .string v]] w fun e w' => e = .returned (.bool (rR c v)) ∧ (w.alloc (.cells #[.int .u8 c, .string v] 46)) = w' := by
  by_cases h1 : c ≤ 5
  all_goals by_cases h2 : v.size ≤ 1000
  all_goals
    go_enter Tryd.func26, Tryd.ntmps26
    go_wp2
    go_ret
    refine ⟨?_, rfl⟩
    first | (simp [rR, *]; done) | (simp [rR, *]; omega)

set_option maxHeartbeats 400000 in
theorem refRightRes (c : Int) (v : ByteArray) (w : World) :
    Calls Tryd.prog 31 #[.agg #[.int .u8 c, .string v]] w fun e w' => e = .returned (.bool (rR c v)) ∧ (w.alloc (.cells #[.int .u8 c, .string v] 33)) = w' := by
  by_cases h1 : c ≤ 5
  all_goals by_cases h2 : v.size ≤ 1000
  all_goals
    go_enter Tryd.func31, Tryd.ntmps31
    go_wp2
    go_ret
    refine ⟨?_, rfl⟩
    first | (simp [rR, *]; done) | (simp [rR, *]; omega)

end Go.Proofs.YtnkimbmnnhnanaaDoor
