/-
  The arithmetic of a number's groups: plain mathematics. Condition: fewer than ten groups were read.
-/
import Derived.Test.YtkmbgehknpefiaaGreatDoorOma
import Derived.Laws.BitsAllLaws
import Derived.IntWalk
namespace Go.Proofs.YtkmbgehknpefiaaGreatDoor
set_option linter.unusedSimpArgs false
set_option linter.unusedVariables false

theorem andNot8 (n : Int) (h0 : 0 ≤ n) (h1 : n < 256) : IntKind.u64.wrap (bits .andNot .u8 n 128) = n % 128 := by
  rw [u8_andNot n 128 h0 h1 (by decide) (by decide)]
  have e : n.toNat &&& (255 - (128 : Int).toNat) = n.toNat % 128 := Nat.and_two_pow_sub_one_eq_mod n.toNat 7
  rw [e, IntKind.wrap_u64]
  omega
theorem pow27 (k : Nat) : (2 : Int) ^ (k * 7) = ((128 ^ k : Nat) : Int) := by
  have e : (128 : Nat) ^ k = 2 ^ (k * 7) := by
    rw [Nat.mul_comm, Nat.pow_mul]
  rw [e, Int.natCast_pow]
  rfl
theorem pow_le9 {k : Nat} (h : k ≤ 9) : 128 ^ k ≤ 9223372036854775808 := Nat.le_trans (Nat.pow_le_pow_right (by decide) h) (by decide)
theorem pow_le8 {k : Nat} (h : k ≤ 8) : 128 ^ k ≤ 72057594037927936 := Nat.le_trans (Nat.pow_le_pow_right (by decide) h) (by decide)
/-- a group moved to its place. -/
theorem grp_fit (n k : Nat) (hn : n < 256) (hk : k < 10) (h : ¬ (k = 9 ∧ 1 < n % 128)) : n % 128 * 128 ^ k < 18446744073709551616 := by
  by_cases h9 : k = 9
  · have hp := pow_le9 (k := k) (by omega)
    have h1 : n % 128 ≤ 1 := by omega
    have := Nat.mul_le_mul h1 hp
    omega
  · have hp := pow_le8 (k := k) (by omega)
    have h1 : n % 128 ≤ 127 := by omega
    have := Nat.mul_le_mul h1 hp
    omega
theorem grp_wrap (n k : Nat) (hn : n < 256) (hk : k < 10) (h : ¬ (k = 9 ∧ 1 < n % 128)) :
    IntKind.u64.wrap (IntKind.u64.wrap (bits .andNot .u8 (n : Int) 128) * 2 ^ (k * 7)) = ((n % 128 * 128 ^ k : Nat) : Int) := by
  have hf := grp_fit n k hn hk h
  rw [andNot8 n (by omega) (by omega), pow27, show ((n : Int) % 128) = ((n % 128 : Nat) : Int) by omega, ← Int.natCast_mul, IntKind.wrap_u64]
  omega
theorem grp_ovf (n k : Nat) (hn : n < 256) (hk : k < 10) :
    (IntKind.u64.wrap (IntKind.u64.wrap (bits .andNot .u8 (n : Int) 128) * 2 ^ (k * 7)) / 2 ^ (k * 7) != IntKind.u64.wrap (bits .andNot .u8 (n : Int) 128)) = decide (k = 9 ∧ 1 < n % 128) := by
  by_cases h : k = 9 ∧ 1 < n % 128
  · rw [andNot8 n (by omega) (by omega), pow27, IntKind.wrap_u64]
    obtain ⟨rfl, h1⟩ := h
    have e : (128 : Nat) ^ 9 = 9223372036854775808 := by decide
    rw [e]
    simp only [h1, and_self, decide_true, bne_iff_ne, ne_eq]
    omega
  · rw [grp_wrap n k hn hk h, andNot8 n (by omega) (by omega), pow27, Int.natCast_mul, Int.mul_ediv_cancel _ (by have := pow_bound k; omega)]
    simp [h]
theorem grp_or (v n k : Nat) (hn : n < 256) (hk : k < 10) (h : ¬ (k = 9 ∧ 1 < n % 128)) (hv : v < 128 ^ k) :
    bits .or .u64 (v : Int) (IntKind.u64.wrap (IntKind.u64.wrap (bits .andNot .u8 (n : Int) 128) * 2 ^ (k * 7))) = ((v + n % 128 * 128 ^ k : Nat) : Int) := by
  have hf := grp_fit n k hn hk h
  have hp := pow_le9 (k := k) (by omega)
  rw [grp_wrap n k hn hk h, u64_or_nat _ _ (by omega) hf]
  have e : (128 : Nat) ^ k = 2 ^ (k * 7) := by
    rw [Nat.mul_comm, Nat.pow_mul]
  rw [e] at hv ⊢
  rw [Nat.or_comm, ← Nat.shiftLeft_eq, ← Nat.shiftLeft_add_eq_or_of_lt hv, Nat.add_comm]
theorem grp_next (v n k : Nat) (hn : n < 256) (hk : k < 10) (h : ¬ (k = 9 ∧ 1 < n % 128)) (hv : v < 128 ^ k) : v + n % 128 * 128 ^ k < 128 ^ (k + 1) ∧ v + n % 128 * 128 ^ k < 18446744073709551616 := by
  have h1 : v + n % 128 * 128 ^ k < 128 ^ (k + 1) := by
    rw [Nat.pow_succ]
    have h1 : n % 128 ≤ 127 := by omega
    have h2 : n % 128 * 128 ^ k ≤ 127 * 128 ^ k := Nat.mul_le_mul_right _ h1
    omega
  refine ⟨h1, ?_⟩
  by_cases h9 : k = 9
  · have hp := pow_le9 (k := k) (by omega)
    have h1 : n % 128 ≤ 1 := by omega
    have := Nat.mul_le_mul_right (128 ^ k) h1
    omega
  · have := pow_le9 (k := k + 1) (by omega)
    omega
theorem numAt_ten (most v : Nat) (L : List UInt8) : numAt most 10 v L = (0, ⟨[], 6⟩) := by
  cases L with
  | nil => rfl
  | cons x L => unfold numAt; simp
theorem numAt_bad (most k v : Nat) (x : UInt8) (L : List UInt8) (h : (k = 9 ∧ 1 < x.toNat) ∨ (0 < k ∧ x.toNat = 0)) : numAt most k v (x :: L) = (0, ⟨[], 6⟩) := by
  unfold numAt
  rw [if_pos h]
  simp
theorem numAt_low (most k v : Nat) (x : UInt8) (L : List UInt8) (hk : k < 10) (h : ¬ ((k = 9 ∧ 1 < x.toNat) ∨ (0 < k ∧ x.toNat = 0))) (hx : x.toNat < 128) : numAt most k v (x :: L) = (if most < v + x.toNat * 128 ^ k then (0, ⟨[], 5⟩) else (v + x.toNat * 128 ^ k, ⟨L, 0⟩)) := by
  conv => lhs; unfold numAt
  rw [if_neg (by omega), if_neg h, if_pos hx]
theorem numAt_more (most k v : Nat) (x : UInt8) (L : List UInt8) (hk : k < 10) (h : ¬ (k = 9 ∧ 1 < x.toNat % 128)) (hx : ¬ x.toNat < 128) : numAt most k v (x :: L) = numAt most (k + 1) (v + x.toNat % 128 * 128 ^ k) L := by
  by_cases h9 : k = 9
  · subst h9
    rw [numAt_bad most 9 v x L (.inl ⟨rfl, by omega⟩), numAt_ten]
  · conv => lhs; unfold numAt
    rw [if_neg (by omega), if_neg (by omega), if_neg hx]

end Go.Proofs.YtkmbgehknpefiaaGreatDoor
