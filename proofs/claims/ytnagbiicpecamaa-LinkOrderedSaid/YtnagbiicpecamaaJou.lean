/-
  The program's window, due and packet: by exact answers. Condition: the link lies in memory.
-/
import Derived.Test.YtnagbiicpecamaaJse
namespace Go.Proofs.Ytnagbiicpecamaa
set_option linter.unusedSimpArgs false
set_option linter.unusedVariables false
open Go.RowKit Go.Maps Go.Sort

theorem slWin (A : Option Addr) (n c k : Nat) (hk : k ≤ n) (hc : n ≤ c) (hA : (A = none ∧ c = 0) ∨ ∃ g o, A = some ⟨g, o, none⟩) (w : World) : (Instr.sliceAt 56 (.slice A n c) none (some (.int .i64 (k : Int))) (some (.int .i64 (k : Int)))).run Try.prog w = .ok (.slice A k k) w := by
  have h1 : (0 : Int) ≤ (k : Int) := by omega
  have h2 : (k : Int) ≤ (c : Int) := by omega
  rcases hA with ⟨rfl, rfl⟩ | ⟨g, o, rfl⟩
  · obtain rfl : k = 0 := by omega
    go_simp
  · go_simp
set_option maxRecDepth 100000 in
set_option maxHeartbeats 1000000 in
theorem windowL (base : Nat) (W : World) (b m : Nat) (A : Option Addr) (cp c : Nat) (s : Sc) (L : List Ls) (K : List Kr) (h : PL base W b m (.slice A L.length cp) c s L K) :
    Calls Try.prog 18 #[.pointer (some ⟨b, 0, none⟩)] W fun e W' => e = .returned (.slice A (min L.length 8) (min L.length 8)) ∧ W = W' := by
  obtain ⟨A', cp', e, hn1, hn2, hA⟩ := h.row.slice
  cases e
  have c7 := cell_of h.lnk 7 (.slice A L.length cp) rfl
  obtain ⟨n, hn⟩ : ∃ n, L.length = n := ⟨_, rfl⟩
  simp only [hn] at c7 hn1 ⊢
  clear h
  rcases hA with ⟨rfl, rfl⟩ | ⟨g, o, rfl⟩
  · obtain rfl : n = 0 := by omega
    go_enter Try.func18, Try.ntmps18
    go_wp2
    go_ret
    exact ⟨rfl, rfl⟩
  · by_cases h8 : n ≤ 8
    · have e8 : min n 8 = n := by omega
      rw [e8]
      have f1 : (n : Int) ≤ 8 := by omega
      have f2 : (n : Int) ≤ (cp : Int) := by omega
      have f3 : (0 : Int) ≤ (n : Int) := by omega
      clear hn1 hn2 h8 e8
      go_enter Try.func18, Try.ntmps18
      go_wp2
      go_ret
      exact ⟨rfl, rfl⟩
    · have e8 : min n 8 = 8 := by omega
      rw [e8]
      have f1 : ¬ (n : Int) ≤ 8 := by omega
      have f2 : (8 : Int) ≤ (cp : Int) := by omega
      have f3 : (8 : Int) ≤ (n : Int) := by omega
      clear hn1 hn2 h8 e8
      go_enter Try.func18, Try.ntmps18
      go_wp2
      all_goals first | omega | (go_ret; exact ⟨rfl, rfl⟩)

/-- is it to be told? -/
def dueB (told : Bool) (at_ now again : Int) : Bool := !told || (decide (at_ ≤ now) && decide (again ≤ now - at_))
theorem u64_diff {a b : Int} (h : b ≤ a) (h1 : -9223372036854775808 ≤ b) (h2 : a ≤ 9223372036854775807) : IntKind.u64.wrap (IntKind.u64.wrap a - IntKind.u64.wrap b) = a - b := by
  simp only [IntKind.wrap_u64]
  omega
theorem u64_pos {a : Int} (h : 1 ≤ a ∧ a ≤ 9223372036854775807) : IntKind.u64.wrap a = a := by
  simp only [IntKind.wrap_u64]
  omega
set_option maxRecDepth 100000 in
set_option maxHeartbeats 1000000 in
theorem dueL (g o : Nat) (W : World) (told : Bool) (at_ now again : Int) (h2 : W.cell? ⟨g, o + 2, none⟩ = some (.bool told)) (h3 : W.cell? ⟨g, o + 3, none⟩ = some (.int .i64 at_))
    (ha : -9223372036854775808 ≤ at_ ∧ at_ ≤ 9223372036854775807) (hn : now ≤ 9223372036854775807) (hg : 1 ≤ again ∧ again ≤ 9223372036854775807) :
    Calls Try.prog 19 #[.pointer (some ⟨g, o, none⟩), .int .i64 now, .int .i64 again] W fun e W' => e = .returned (.bool (dueB told at_ now again)) ∧ W = W' := by
  have hp := Lib.hid (u64_pos hg)
  have hd := Lib.hid (fun h : at_ ≤ now => u64_diff h ha.1 hn)
  unfold dueB
  cases told with
  | false =>
    clear ha hn hg
    go_enter Try.func19, Try.ntmps19
    go_wp2
    go_ret
    exact ⟨rfl, rfl⟩
  | true =>
    by_cases hle : at_ ≤ now
    · have hd' := hd.out hle
      clear ha hn hg
      go_enter Try.func19, Try.ntmps19
      go_wp2
      go_ret
      refine ⟨?_, rfl⟩
      show Ending.returned (.bool (decide (IntKind.u64.wrap again ≤ now - at_))) = _
      rw [hp.out]
      simp [hle]
    · clear ha hn hg
      go_enter Try.func19, Try.ntmps19
      go_wp2
      go_ret
      refine ⟨?_, rfl⟩
      show Ending.returned (.bool false) = _
      have e : decide (at_ ≤ now) = false := by simp; omega
      simp [e]

end Go.Proofs.Ytnagbiicpecamaa
