/-
  letters: is a text of small letters alone, by a contract. No condition.
-/
import Derived.Test.YtggaakjimkfliaaDoorPmath
namespace Go.Proofs.YtggaakjimkfliaaDoor
set_option linter.unusedSimpArgs false
set_option linter.unusedVariables false
open Go.RowKit

def lettersB (s : ByteArray) : Bool := s.data.toList.all letB
theorem lettersB_false {s : ByteArray} {k : Nat} (hk : k < s.size) (h : letB s[k] = false) : lettersB s = false := by
  unfold lettersB
  rw [List.all_eq_false]
  have h' : letB (s.data[k]'hk) = false := h
  exact ⟨s.data[k]'hk, by simp, by rw [h']; decide⟩
theorem lettersB_true {s : ByteArray} (h : ∀ k (hk : k < s.size), letB s[k] = true) : lettersB s = true := by
  unfold lettersB
  rw [List.all_eq_true]
  intro c hc
  obtain ⟨k, hk, e⟩ := List.getElem_of_mem hc
  have hk' : k < s.size := by simpa using hk
  have : letB (s.data[k]'hk') = true := h k hk'
  rw [← e]
  simpa using this

set_option maxRecDepth 100000 in
set_option maxHeartbeats 2000000 in
theorem letters (s : ByteArray) (w : World) (hs : s.size ≤ maxLen) :
    Calls Tryd.prog 24 #[.string s] w fun e w' => e = .returned (.bool (lettersB s)) ∧ w = w' := by
  unfold maxLen at hs
  go_enter Tryd.func24, Tryd.ntmps24
  go_wp2
  go_loop [3] (fun i => ∃ k : Nat, k ≤ s.size ∧ i = .int .i64 k ∧ Hid (∀ j (hj : j < s.size), j < k → letB s[j] = true)) (fun i => s.size - (intOf i).toNat)
  case atStart => exact ⟨0, by omega, rfl, Lib.hid (fun j _ hj => absurd hj (by omega))⟩
  case round =>
    obtain ⟨k, hk, rfl, T⟩ := hrel
    by_cases hlt : k < s.size
    · have hji : (k : Int) < (s.size : Int) := by omega
      rcases (show ((s[k].toNat : Int) < 97) ∨ (97 ≤ (s[k].toNat : Int) ∧ (122 : Int) < (s[k].toNat : Int)) ∨ (97 ≤ (s[k].toNat : Int) ∧ (s[k].toNat : Int) ≤ 122) by omega) with h | ⟨h, h2⟩ | ⟨h, h2⟩
      · have HF := Lib.hid (lettersB_false hlt (by simp [letB]; omega))
        go_wp2
        go_ret
        exact ⟨by rw [HF.out]; rfl, rfl⟩
      · have HF := Lib.hid (lettersB_false hlt (by simp [letB]; omega))
        go_wp2
        go_ret
        exact ⟨by rw [HF.out]; rfl, rfl⟩
      · have HT := Lib.hid (show letB s[k] = true by simp [letB]; omega)
        go_wp2
        go_round
        case rel => exact ⟨k + 1, by omega, by go_num, Lib.hid (fun j hj (hjk : j < k + 1) => by
          by_cases e : j = k
          · subst e; exact HT.out
          · exact T.out j hj (by omega))⟩
        case measure => simp [intOf]; omega
    · have hkk : k = s.size := by omega
      subst hkk
      have HT := Lib.hid (lettersB_true fun j hj => T.out j hj hj)
      go_wp2
      go_ret
      exact ⟨by rw [HT.out]; rfl, rfl⟩

end Go.Proofs.YtggaakjimkfliaaDoor
