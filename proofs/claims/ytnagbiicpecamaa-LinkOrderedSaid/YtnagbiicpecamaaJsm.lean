/-
  The program's link: made, New, Waiting, Idle, Want, of any link: by exact answers. Condition: the link lies in memory.
-/
import Derived.Test.YtnagbiicpecamaaJlk
namespace Go.Proofs.Ytnagbiicpecamaa
set_option linter.unusedSimpArgs false
set_option linter.unusedVariables false
open Go.RowKit Go.Maps Go.Sort

theorem neqMap (W : World) (r : Option Nat) : (binOp .neq 62 (.map r) (.map none)).run Try.prog W = .ok (.bool (!r.isNone)) W := by
  cases r <;> kernel_rfl
set_option maxRecDepth 100000 in
set_option maxHeartbeats 1000000 in
theorem made_nil (W : World) : Calls Try.prog 17 #[.pointer none] W fun e W' => e = .returned (.bool false) ∧ W = W' := by
  go_enter Try.func17, Try.ntmps17
  go_wp2
  go_ret
  exact ⟨rfl, rfl⟩
/-- the row of a link that nobody made. -/
def Z10 : Array Value := #[.int .u8 0, .int .u16 0, .int .u8 0, .int .u16 0, .int .i64 0, .int .u64 0, .int .u64 0, .slice none 0 0, .bool false, .map none]
set_option maxRecDepth 100000 in
set_option maxHeartbeats 1000000 in
theorem made_no (b : Nat) (W : World) (h : W.heap[b]? = some (.cells Z10 64 (0, 0))) : Calls Try.prog 17 #[.pointer (some ⟨b, 0, none⟩)] W fun e W' => e = .returned (.bool false) ∧ W = W' := by
  have c9 := cell_of h 9 (.map none) rfl
  clear h
  have hm := neqMap
  go_enter Try.func17, Try.ntmps17
  go_wp2
  go_ret
  exact ⟨rfl, rfl⟩
set_option maxRecDepth 100000 in
set_option maxHeartbeats 1000000 in
theorem made_yes (base : Nat) (W : World) (b m : Nat) (v : Value) (c : Nat) (s : Sc) (L : List Ls) (K : List Kr) (h : PL base W b m v c s L K) : Calls Try.prog 17 #[.pointer (some ⟨b, 0, none⟩)] W fun e W' => e = .returned (.bool true) ∧ W = W' := by
  have c9 := cell_of h.lnk 9 (.map (some m)) rfl
  clear h
  have hm := neqMap
  go_enter Try.func17, Try.ntmps17
  go_wp2
  go_ret
  exact ⟨rfl, rfl⟩

theorem new_pl (W : World) (A B : Obj) (mn ml pn pl : Int) (first : Nat) (again mx : Int) (hx : mx = max again 1) (hf : first ≤ 18446744073709551615) (ha : again ≤ 9223372036854775807) :
    PL W.heap.size ((((W.alloc A).alloc B).alloc (.map #[] 0)).alloc (.cells #[.int .u8 mn, .int .u16 ml, .int .u8 pn, .int .u16 pl, .int .i64 mx, .int .u64 first, .int .u64 first, .slice none 0 0, .bool false, .map (some (W.heap.size + 2))] 64)) (W.heap.size + 3) (W.heap.size + 2) (.slice none 0 0) 0 ⟨mn, ml, pn, pl, max again 1, first, first, false⟩ [] [] := by
  subst hx
  have hs : ((W.alloc A).alloc B).heap.size = W.heap.size + 2 := by simp
  refine ⟨by omega, by omega, fun g hg => by simp [Value.ownBlock] at hg, ?_, RowO.nil _ _ _, fun _ hx => (by cases hx), ⟨0, .map [], Nat.le_refl _, ?_, MapK.nil⟩, fun _ hx => (by cases hx), by simp, hf, hf, ⟨?_, ?_⟩, fun i x hx => by simp at hx, fun _ hx => (by cases hx)⟩
  · have := heap_alloc_new (((W.alloc A).alloc B).alloc (.map #[] 0)) (.cells #[.int .u8 mn, .int .u16 ml, .int .u8 pn, .int .u16 pl, .int .i64 (max again 1), .int .u64 first, .int .u64 first, .slice none 0 0, .bool false, .map (some (W.heap.size + 2))] 64)
    simpa [Sc.cs] using this
  · have := (World.ownsMap_made (P := Try.prog) (k := 22) (R := bdElem) ((W.alloc A).alloc B)).kept (World.grownBy_alloc (((W.alloc A).alloc B).alloc (.map #[] 0)) (.cells #[.int .u8 mn, .int .u16 ml, .int .u8 pn, .int .u16 pl, .int .i64 (max again 1), .int .u64 first, .int .u64 first, .slice none 0 0, .bool false, .map (some (W.heap.size + 2))] 64) none) (by simp)
    rw [hs] at this
    exact this
  · show 1 ≤ max again 1
    omega
  · show max again 1 ≤ 9223372036854775807
    omega
set_option maxRecDepth 100000 in
set_option maxHeartbeats 1000000 in
theorem newL (mn ml pn pl : Int) (first : Nat) (again : Int) (hf : first ≤ 18446744073709551615) (ha : again ≤ 9223372036854775807) (W : World) :
    Calls Try.prog 16 #[.agg #[.int .u8 mn, .int .u16 ml], .agg #[.int .u8 pn, .int .u16 pl], .int .u64 first, .int .i64 again] W fun e W' => e = .returned (.pointer (some ⟨W.heap.size + 3, 0, none⟩)) ∧ PL W.heap.size W' (W.heap.size + 3) (W.heap.size + 2) (.slice none 0 0) 0 ⟨mn, ml, pn, pl, max again 1, first, first, false⟩ [] [] ∧ Below W.heap.size W W' := by
  have hmm := @run_makeMap Try.prog
  go_enter Try.func16, Try.ntmps16
  go_wp2
  all_goals
    go_ret
    exact ⟨by simp, new_pl W _ _ mn ml pn pl first again _ (by omega) hf ha, ((((Below.refl _ _).alloc (Nat.le_refl _) _).alloc (by simp) _).alloc (by simp; omega) _).alloc (by simp; omega) _⟩

set_option maxRecDepth 100000 in
set_option maxHeartbeats 1000000 in
theorem waitingL (base : Nat) (W : World) (b m : Nat) (v : Value) (c : Nat) (s : Sc) (L : List Ls) (K : List Kr) (h : PL base W b m v c s L K) :
    Calls Try.prog 15 #[.pointer (some ⟨b, 0, none⟩)] W fun e W' => e = .returned (.int .i64 L.length) ∧ W = W' := by
  have K1 := made_yes base W b m v c s L K h
  obtain ⟨A, cp, rfl, _, _, _⟩ := h.row.slice
  have c7 := cell_of h.lnk 7 (.slice A L.length cp) rfl
  obtain ⟨n, hn⟩ : ∃ n, L.length = n := ⟨_, rfl⟩
  try simp only [hn] at c7 ⊢
  clear h
  go_enter Try.func15, Try.ntmps15
  go_wp2_with fail
  refine K1.mono ?_
  rintro e w ⟨rfl, rfl⟩
  go_wp2
  go_ret
  exact ⟨rfl, rfl⟩
set_option maxRecDepth 100000 in
set_option maxHeartbeats 1000000 in
theorem wantL (base : Nat) (W : World) (b m : Nat) (v : Value) (c : Nat) (s : Sc) (L : List Ls) (K : List Kr) (h : PL base W b m v c s L K) :
    Calls Try.prog 14 #[.pointer (some ⟨b, 0, none⟩)] W fun e W' => e = .returned (.int .u64 s.want) ∧ W = W' := by
  have K1 := made_yes base W b m v c s L K h
  obtain ⟨A, cp, rfl, _, _, _⟩ := h.row.slice
  have c7 := cell_of h.lnk 6 (.int .u64 s.want) rfl
  obtain ⟨n, hn⟩ : ∃ n, L.length = n := ⟨_, rfl⟩
  try simp only [hn] at c7 ⊢
  clear h
  go_enter Try.func14, Try.ntmps14
  go_wp2_with fail
  refine K1.mono ?_
  rintro e w ⟨rfl, rfl⟩
  go_wp2
  go_ret
  exact ⟨rfl, rfl⟩
set_option maxRecDepth 100000 in
set_option maxHeartbeats 1000000 in
theorem idleL (base : Nat) (W : World) (b m : Nat) (v : Value) (c : Nat) (s : Sc) (L : List Ls) (K : List Kr) (h : PL base W b m v c s L K) :
    Calls Try.prog 10 #[.pointer (some ⟨b, 0, none⟩)] W fun e W' => e = .returned (.bool (decide (L.length = 0))) ∧ W = W' := by
  have K1 := made_yes base W b m v c s L K h
  obtain ⟨A, cp, rfl, _, _, _⟩ := h.row.slice
  have c7 := cell_of h.lnk 7 (.slice A L.length cp) rfl
  obtain ⟨n, hn⟩ : ∃ n, L.length = n := ⟨_, rfl⟩
  simp only [hn] at c7 ⊢
  clear h
  go_enter Try.func10, Try.ntmps10
  go_wp2_with fail
  refine K1.mono ?_
  rintro e w ⟨rfl, rfl⟩
  go_wp2
  go_ret
  refine ⟨?_, rfl⟩
  show Ending.returned (.bool ((n : Int) == 0)) = _
  have e : ((n : Int) == 0) = decide (n = 0) := by
    rw [Bool.eq_iff_iff]
    simp
  rw [e]

end Go.Proofs.Ytnagbiicpecamaa
