/-
  Numbers with a sign as numbers without, and back: the program's Zig and Zag, by exact answers. Condition: the number fits its kind.
-/
import Derived.Test.YtkmbgehknpefiaaGreatDoorOws
import Derived.Laws.Bits64
import Derived.Laws.Bits64b
import Derived.Laws.DeepNot64
namespace Go.Proofs.YtkmbgehknpefiaaGreatDoor
set_option linter.unusedSimpArgs false
set_option linter.unusedVariables false
open Go.RowKit

theorem xor_ones (a : Nat) (h : a < 18446744073709551616) : a ^^^ 18446744073709551615 = 18446744073709551615 - a := by
  have e := congrArg BitVec.toNat (BitVec.xor_allOnes (x := BitVec.ofNat 64 a))
  rw [BitVec.toNat_xor, BitVec.toNat_not, BitVec.toNat_ofNat, BitVec.toNat_allOnes, Nat.mod_eq_of_lt (by omega)] at e
  exact e
theorem i64_xor_zero (a : Nat) (ha : a < 9223372036854775808) : bits .xor .i64 (a : Int) 0 = (a : Int) := by
  show IntKind.i64.wrap ((BitVec.ofInt 64 (a : Int) ^^^ BitVec.ofInt 64 0).toNat : Int) = _
  have h1 : BitVec.ofInt 64 0 = 0#64 := by decide
  rw [h1, BitVec.xor_zero, ofInt_u64 a (by omega)]
  simp [IntKind.wrap, IntKind.bits, IntKind.signed]
  omega
theorem neg_wrap (k : Nat) (h : k < 2) : wrap64 (-wrap64 ((k : Nat) : Int)) = -(k : Int) := by
  unfold wrap64
  omega
theorem zig_bits (v : Int) (h0 : -9223372036854775808 ≤ v) (h1 : v ≤ 9223372036854775807) : bits .xor .u64 (IntKind.u64.wrap (IntKind.u64.wrap v * 2)) (IntKind.u64.wrap (v / 9223372036854775808)) = ((zig v : Nat) : Int) := by
  rw [IntKind.wrap_u64, IntKind.wrap_u64, IntKind.wrap_u64]
  unfold zig
  by_cases h : v < 0
  · rw [if_pos h]
    have e1 : v % 18446744073709551616 * 2 % 18446744073709551616 = (((2 * v + 18446744073709551616).toNat : Nat) : Int) := by omega
    have e2 : v / 9223372036854775808 % 18446744073709551616 = ((18446744073709551615 : Nat) : Int) := by omega
    rw [e1, e2, u64_xor_nat _ _ (by omega) (by omega), xor_ones _ (by omega)]
    omega
  · rw [if_neg h]
    have e1 : v % 18446744073709551616 * 2 % 18446744073709551616 = (((2 * v).toNat : Nat) : Int) := by omega
    have e2 : v / 9223372036854775808 % 18446744073709551616 = ((0 : Nat) : Int) := by omega
    rw [e1, e2, u64_xor_nat _ _ (by omega) (by omega), Nat.xor_zero]
theorem zag_bits (v : Nat) (h1 : v < 18446744073709551616) : bits .xor .i64 ((v : Int) / 2) (wrap64 (-wrap64 (bits .and .u64 (v : Int) 1))) = zag v := by
  have e0 : bits .and .u64 (v : Int) 1 = ((v % 2 : Nat) : Int) := by
    rw [show (1 : Int) = ((1 : Nat) : Int) from rfl, bits_and_u64_nat _ _ h1 (by omega), Nat.and_one_is_mod]
  rw [e0]
  unfold zag
  have hd : ((v : Int) / 2) = ((v / 2 : Nat) : Int) := by omega
  rw [hd]
  rcases (show v % 2 = 0 ∨ v % 2 = 1 by omega) with h | h
  · rw [h, if_neg (by omega)]
    rw [neg_wrap 0 (by decide)]
    exact i64_xor_zero _ (by omega)
  · rw [h, if_pos rfl]
    rw [neg_wrap 1 (by decide)]
    have h2 : bits .xor .i64 ((v / 2 : Nat) : Int) (-1) = bits .xor .i64 (-1) ((v / 2 : Nat) : Int) := by
      simp only [bits]
      rw [BitVec.xor_comm]
    show bits .xor .i64 ((v / 2 : Nat) : Int) (-1) = _
    rw [h2, i64_not _ (by omega)]
    omega

set_option maxHeartbeats 400000 in
theorem zigO (v : Int) (w : World) (h0 : -9223372036854775808 ≤ v) (h1 : v ≤ 9223372036854775807) :
    Calls Tryz.prog 191 #[.int .i64 v] w fun e w' => e = .returned (.int .u64 (zig v : Nat)) ∧ w = w' := by
  go_enter Tryz.func191, Tryz.ntmps191
  go_wp2
  go_ret
  refine ⟨?_, rfl⟩
  rw [← zig_bits v h0 h1]
  rfl
set_option maxHeartbeats 400000 in
theorem zagO (v : Nat) (w : World) (h1 : v < 18446744073709551616) :
    Calls Tryz.prog 200 #[.int .u64 v] w fun e w' => e = .returned (.int .i64 (zag v)) ∧ w = w' := by
  go_enter Tryz.func200, Tryz.ntmps200
  go_wp2
  go_ret
  refine ⟨?_, rfl⟩
  rw [← zag_bits v h1]
  rfl

end Go.Proofs.YtkmbgehknpefiaaGreatDoor
