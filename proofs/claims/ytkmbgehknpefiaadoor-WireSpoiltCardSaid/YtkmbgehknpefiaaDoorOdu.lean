/-
  The document's Reader: its numbers: by exact answers. Condition: it lies in memory.
-/
import Derived.Test.YtkmbgehknpefiaaDoorOda
namespace Go.Proofs.YtkmbgehknpefiaaDoor
set_option linter.unusedSimpArgs false
set_option linter.unusedVariables false
open Go.RowKit

theorem drop_cons_of {L : List UInt8} {k : Nat} {x : UInt8} (h : L[k]? = some x) : L.drop k = x :: L.drop (k + 1) := by
  obtain ⟨hk, hx⟩ := List.getElem?_eq_some_iff.1 h
  rw [List.drop_eq_getElem_cons hk, hx]
theorem d_or (v n k : Nat) (hn : n < 256) (hk : k < 10) (h : ¬ (k = 9 ∧ 1 < n % 128)) (hv : v < 128 ^ k) :
    bits .or .u64 (v : Int) (IntKind.u64.wrap ((n : Int) % 128 * 2 ^ (7 * k))) = ((v + n % 128 * 128 ^ k : Nat) : Int) := by
  have := grp_or v n k hn hk h hv
  rw [andNot8 n (by omega) (by omega)] at this
  rw [Nat.mul_comm 7 k]
  exact this
theorem d_or9 (v : Nat) (hv : v < 128 ^ 9) : bits .or .u64 (v : Int) 9223372036854775808 = ((v + 1 % 128 * 128 ^ 9 : Nat) : Int) := by
  have := d_or v 1 9 (by decide) (by decide) (by decide) hv
  rw [← this]
  congr 1
theorem d_or0 (v : Nat) (hv : v < 128 ^ 0) : bits .or .u64 (v : Int) 0 = ((v + 0 % 128 * 128 ^ 0 : Nat) : Int) := by
  have := d_or v 0 0 (by decide) (by decide) (by decide) hv
  rw [← this]
  congr 1

end Go.Proofs.YtkmbgehknpefiaaDoor
