/-
  The sum of bytes, four bits at a time by a table, and one bit at a time: both are the plain sum. No condition.
-/
import Derived.Test.YtkmbgehknpefiaaGreatDoorOcr
namespace Go.Proofs.YtkmbgehknpefiaaGreatDoor
set_option linter.unusedSimpArgs false
set_option linter.unusedVariables false
namespace Crc

theorem sts_nib (y : BitVec 32) : sts 4 y = (y <<< 4) ^^^ sts 4 ((y >>> 28) <<< 28) := by
  have e : y = ((y >>> 28) <<< 28) ^^^ ((y <<< 4) >>> 4) := by
    apply BitVec.eq_of_getLsbD_eq
    intro i hi
    simp only [BitVec.getLsbD_xor, BitVec.getLsbD_shiftLeft, BitVec.getLsbD_ushiftRight]
    by_cases h : i < 28
    · have h1 : ¬ (28 + (i - 28) = i) := by omega
      have h3 : 4 + i - 4 = i := by omega
      simp [h, h3, hi]
      omega
    · have h2 : 28 + (i - 28) = i := by omega
      have h4 : ¬ (4 + i < 32) := by omega
      simp [h, h2, hi, h4]
  have h : sts 4 ((y <<< 4) >>> 4) = y <<< 4 := by
    rw [sts_up 4 _ (by omega)]
    · apply BitVec.eq_of_getLsbD_eq
      intro i hi
      simp only [BitVec.getLsbD_shiftLeft, BitVec.getLsbD_ushiftRight]
      by_cases h : i < 4
      · simp [h]
      · have e1 : 4 + (i - 4) = i := by omega
        simp [h, hi, e1]
    · rw [BitVec.toNat_ushiftRight, Nat.shiftRight_eq_div_pow]
      have := (y <<< 4).isLt
      omega
  have h2 := sts_xor 4 ((y >>> 28) <<< 28) ((y <<< 4) >>> 4)
  rw [← e, h] at h2
  rw [h2, BitVec.xor_comm]
/-- what four bits that leave bring in. -/
def tab : Nat → Nat
  | 0 => 0x00000000 | 1 => 0x04c11db7 | 2 => 0x09823b6e | 3 => 0x0d4326d9 | 4 => 0x130476dc | 5 => 0x17c56b6b | 6 => 0x1a864db2 | 7 => 0x1e475005
  | 8 => 0x2608edb8 | 9 => 0x22c9f00f | 10 => 0x2f8ad6d6 | 11 => 0x2b4bcb61 | 12 => 0x350c9b64 | 13 => 0x31cd86d3 | 14 => 0x3c8ea00a | 15 => 0x384fbdbd
  | _ => 0
theorem tab_is (k : Nat) (h : k < 16) : (sts 4 (BitVec.ofNat 32 k <<< 28)).toNat = tab k := by
  have : ∀ j : Fin 16, (sts 4 (BitVec.ofNat 32 j.val <<< 28)).toNat = tab j.val := by decide
  exact this ⟨k, h⟩
theorem tab_lt (k : Nat) : tab k < 4294967296 := by
  unfold tab
  split <;> omega
/-- four bits, by the table. -/
def nib (s : Nat) : Nat := s * 16 % 4294967296 ^^^ tab (s / 268435456)
theorem nib_is (s : Nat) (h : s < 4294967296) : nib s = (sts 4 (BitVec.ofNat 32 s)).toNat := by
  rw [sts_nib, BitVec.toNat_xor, BitVec.toNat_shiftLeft, Nat.shiftLeft_eq]
  have e : (BitVec.ofNat 32 s >>> 28) = BitVec.ofNat 32 (s / 268435456) := by
    apply BitVec.eq_of_toNat_eq
    rw [BitVec.toNat_ushiftRight, BitVec.toNat_ofNat, BitVec.toNat_ofNat, Nat.shiftRight_eq_div_pow]
    omega
  rw [e, tab_is _ (by omega), BitVec.toNat_ofNat]
  unfold nib
  congr 1
  omega
theorem nib_lt (s : Nat) (h : s < 4294967296) : nib s < 4294967296 := by
  rw [nib_is s h]
  exact (sts 4 (BitVec.ofNat 32 s)).isLt
/-- a byte, by the table. -/
def cbN (s c : Nat) : Nat := nib (nib (s ^^^ c * 16777216))
theorem ofNat_toNat' (y : BitVec 32) : BitVec.ofNat 32 y.toNat = y := by simp
theorem xc_lt (s c : Nat) (h : s < 4294967296) (hc : c < 256) : s ^^^ c * 16777216 < 4294967296 :=
  Nat.xor_lt_two_pow (n := 32) (by omega) (by omega)
theorem cbN_is (s : Nat) (h : s < 4294967296) (c : UInt8) : cbN s c.toNat = (cb (BitVec.ofNat 32 s) c).toNat := by
  have hc := c.toNat_lt
  have hx := xc_lt s c.toNat h (by omega)
  unfold cbN
  rw [nib_is _ (nib_lt _ hx), nib_is _ hx, ofNat_toNat']
  have e : BitVec.ofNat 32 (s ^^^ c.toNat * 16777216) = BitVec.ofNat 32 s ^^^ (w8 c <<< 24) := by
    apply BitVec.eq_of_toNat_eq
    unfold w8
    rw [BitVec.toNat_xor, BitVec.toNat_shiftLeft, BitVec.toNat_ofNat, BitVec.toNat_ofNat, BitVec.toNat_ofNat, Nat.shiftLeft_eq]
    rw [Nat.mod_eq_of_lt hx, Nat.mod_eq_of_lt (a := s) (by omega), Nat.mod_eq_of_lt (a := c.toNat) (by omega), Nat.mod_eq_of_lt (by omega)]
  rw [e]
  show _ = (sts 8 _).toNat
  rw [show (8 : Nat) = 4 + 4 from rfl, sts_add]
def crcN (s : Nat) (l : List UInt8) : Nat := l.foldl (fun s c => cbN s c.toNat) s
theorem crcN_is : ∀ (l : List UInt8) (s : Nat), s < 4294967296 → crcN s l = (crc (BitVec.ofNat 32 s) l).toNat
  | [], s, h => by
    show s = (BitVec.ofNat 32 s).toNat
    rw [BitVec.toNat_ofNat, Nat.mod_eq_of_lt (by omega)]
  | c :: l, s, h => by
    show crcN (cbN s c.toNat) l = (crc (cb (BitVec.ofNat 32 s) c) l).toNat
    have e := cbN_is s h c
    rw [crcN_is l _ (by rw [e]; exact (cb _ _).isLt), e, ofNat_toNat']
theorem crcN_lt (l : List UInt8) (s : Nat) (h : s < 4294967296) : crcN s l < 4294967296 := by
  rw [crcN_is l s h]
  exact (crc _ l).isLt
/-- the sum as a number. -/
def sumN (l : List UInt8) : Nat := 4294967295 - crcN 4294967295 l
theorem sumN_is (l : List UInt8) : sumN l = (sum l).toNat := by
  unfold sumN
  rw [crcN_is l _ (by omega)]
  show _ = (~~~ (crc (BitVec.allOnes 32) l)).toNat
  rw [BitVec.toNat_not]
  have e : BitVec.ofNat 32 4294967295 = BitVec.allOnes 32 := by decide
  rw [e]
theorem sumN_lt (l : List UInt8) : sumN l < 4294967296 := by
  unfold sumN
  omega

/-! ### one bit at a time -/

/-- a bit goes in. -/
def bitN (s bit : Nat) : Nat := if bit = s / 2147483648 then s * 2 % 4294967296 else s * 2 % 4294967296 ^^^ 0x04c11db7
theorem bitN_lt (s bit : Nat) : bitN s bit < 4294967296 := by
  unfold bitN
  split
  · omega
  · exact Nat.xor_lt_two_pow (n := 32) (by omega) (by omega)
theorem msb_of (y : BitVec 32) : y.msb = decide (y.toNat / 2147483648 = 1) := by
  have := y.isLt
  rw [BitVec.msb_eq_decide, decide_eq_decide]
  omega
theorem st_nat (y : BitVec 32) : (st y).toNat = bitN y.toNat 0 := by
  have hy := y.isLt
  have hd : y.toNat / 2147483648 = 0 ∨ y.toNat / 2147483648 = 1 := by omega
  unfold st bitN
  rw [BitVec.toNat_xor, BitVec.toNat_shiftLeft, Nat.shiftLeft_eq, msb_of]
  rcases hd with h | h
  · rw [h]
    simp
  · rw [h]
    simp [P]
/-- the bits of a byte from the highest on, k of them. -/
def bitsN (s c : Nat) : Nat → Nat
  | 0 => s
  | k + 1 => bitN (bitsN s c k) (c / 2 ^ (7 - k) % 2)
theorem bitsN_lt {s : Nat} (h : s < 4294967296) (c : Nat) : ∀ k, bitsN s c k < 4294967296
  | 0 => h
  | k + 1 => bitN_lt _ _
theorem nxlc (a b c : Nat) : a ^^^ (b ^^^ c) = b ^^^ (a ^^^ c) := by rw [← Nat.xor_assoc, Nat.xor_comm a b, Nat.xor_assoc]
theorem bitN_xor (r u : Nat) (hr : r < 4294967296) (hu : u < 4294967296) : bitN (r ^^^ u) 0 = bitN r (u / 2147483648) ^^^ (u * 2 % 4294967296) := by
  have e1 := st_nat (BitVec.ofNat 32 r ^^^ BitVec.ofNat 32 u)
  rw [st_xor, BitVec.toNat_xor, st_nat, st_nat, BitVec.toNat_xor, BitVec.toNat_ofNat, BitVec.toNat_ofNat, Nat.mod_eq_of_lt hr, Nat.mod_eq_of_lt hu] at e1
  rw [← e1]
  unfold bitN
  have h1 : r / 2147483648 = 0 ∨ r / 2147483648 = 1 := by omega
  have h2 : u / 2147483648 = 0 ∨ u / 2147483648 = 1 := by omega
  rcases h1 with h1 | h1 <;> rcases h2 with h2 | h2 <;> rw [h1, h2] <;> generalize r * 2 % 4294967296 = A <;> generalize u * 2 % 4294967296 = B <;> simp only [if_pos, if_neg, Nat.zero_ne_one, Nat.one_ne_zero, not_false_eq_true, ne_eq, if_true, if_false]
  · rw [Nat.xor_assoc, Nat.xor_comm B]
  · rw [Nat.xor_comm B, Nat.xor_assoc, ← Nat.xor_assoc 79764919, Nat.xor_self, Nat.zero_xor]
theorem bits_step (s c : Nat) (hs : s < 4294967296) (hc : c < 256) : ∀ k, k ≤ 8 → (sts k (BitVec.ofNat 32 (s ^^^ c * 16777216))).toNat = bitsN s c k ^^^ (c * 2 ^ (24 + k) % 4294967296)
  | 0, _ => by
    show (BitVec.ofNat 32 _).toNat = _
    rw [BitVec.toNat_ofNat, Nat.mod_eq_of_lt (xc_lt s c hs hc)]
    show _ = s ^^^ _
    congr 1
    omega
  | k + 1, hk => by
    rw [sts_add k 1]
    show (st _).toNat = _
    rw [st_nat, bits_step s c hs hc k (by omega), bitN_xor _ _ (bitsN_lt hs c k) (Nat.mod_lt _ (by omega))]
    show _ = bitN (bitsN s c k) (c / 2 ^ (7 - k) % 2) ^^^ _
    have hp : 2 ^ (24 + k) * 2 ^ (7 - k) = 2147483648 := by
      rw [← Nat.pow_add, show 24 + k + (7 - k) = 31 by omega]
    have hpos : 0 < 2 ^ (24 + k) := Nat.pow_pos (by decide)
    have e1 : c * 2 ^ (24 + k) % 4294967296 / 2147483648 = c / 2 ^ (7 - k) % 2 := by
      rw [show (4294967296 : Nat) = 2147483648 * 2 from rfl, Nat.mod_mul_right_div_self, ← hp, Nat.mul_comm c, Nat.mul_div_mul_left _ _ hpos]
    have e2 : c * 2 ^ (24 + k) % 4294967296 * 2 % 4294967296 = c * 2 ^ (24 + (k + 1)) % 4294967296 := by
      rw [show 24 + (k + 1) = (24 + k) + 1 by omega, Nat.pow_succ, ← Nat.mul_assoc]
      omega
    rw [e1, e2]
theorem bits_all (s c : Nat) (hs : s < 4294967296) (hc : c < 256) : bitsN s c 8 = cbN s c := by
  have h := bits_step s c hs hc 8 (by omega)
  have e : c * 2 ^ (24 + 8) % 4294967296 = 0 := by omega
  rw [e, Nat.xor_zero] at h
  rw [← h]
  have h2 := cbN_is s hs (UInt8.ofNat c)
  have h3 : (UInt8.ofNat c).toNat = c := by
    simp [UInt8.toNat_ofNat']
    omega
  rw [h3] at h2
  rw [h2]
  unfold cb w8
  rw [h3]
  congr 2
  apply BitVec.eq_of_toNat_eq
  rw [BitVec.toNat_xor, BitVec.toNat_shiftLeft, BitVec.toNat_ofNat, BitVec.toNat_ofNat, BitVec.toNat_ofNat, Nat.shiftLeft_eq]
  rw [Nat.mod_eq_of_lt (xc_lt s c hs hc), Nat.mod_eq_of_lt (a := s) (by omega), Nat.mod_eq_of_lt (a := c) (by omega), Nat.mod_eq_of_lt (by omega)]

end Crc
end Go.Proofs.YtkmbgehknpefiaaGreatDoor
