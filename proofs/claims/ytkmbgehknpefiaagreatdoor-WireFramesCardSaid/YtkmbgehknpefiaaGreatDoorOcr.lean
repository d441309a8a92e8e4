/-
  The sum of bytes: the plain mathematics: it is linear; four bytes that stand side by side and are changed change it so that it does not fit. No condition.
-/
namespace Go.Proofs.YtkmbgehknpefiaaGreatDoor
set_option linter.unusedSimpArgs false
set_option linter.unusedVariables false
namespace Crc

def P : BitVec 32 := 0x04c11db7#32
/-- the register moves by one bit. -/
def st (y : BitVec 32) : BitVec 32 := (y <<< 1) ^^^ (if y.msb then P else 0#32)
theorem xlc (a b c : BitVec 32) : a ^^^ (b ^^^ c) = b ^^^ (a ^^^ c) := by rw [← BitVec.xor_assoc, BitVec.xor_comm a b, BitVec.xor_assoc]
theorem x4 (a b c d : BitVec 32) : (a ^^^ b) ^^^ (c ^^^ d) = (a ^^^ c) ^^^ (b ^^^ d) := by
  rw [BitVec.xor_assoc, BitVec.xor_assoc, xlc b c d]
theorem st_xor (a b : BitVec 32) : st (a ^^^ b) = st a ^^^ st b := by
  unfold st
  rw [BitVec.shiftLeft_xor_distrib, BitVec.msb_xor, x4]
  congr 1
  cases a.msb <;> cases b.msb <;> simp
theorem st_zero {a : BitVec 32} (h : st a = 0#32) : a = 0#32 := by
  unfold st at h
  have h0 : ((a <<< 1) ^^^ (if a.msb then P else 0#32)).getLsbD 0 = false := by rw [h]; rfl
  rw [BitVec.getLsbD_xor] at h0
  have h1 : (a <<< 1).getLsbD 0 = false := by simp
  rw [h1] at h0
  cases hm : a.msb with
  | true =>
    rw [hm] at h0
    have h9 : (false ^^ (if true = true then P else 0#32).getLsbD 0) = true := by decide
    rw [h9] at h0
    cases h0
  | false =>
    rw [hm] at h
    have h2 : a <<< 1 = 0#32 := by simpa using h
    have h3 : a.toNat < 2 ^ 31 := by
      rw [BitVec.msb_eq_decide] at hm
      simpa using hm
    apply BitVec.eq_of_toNat_eq
    have h4 := congrArg BitVec.toNat h2
    rw [BitVec.toNat_shiftLeft, Nat.shiftLeft_eq] at h4
    simp only [BitVec.toNat_ofNat] at h4 ⊢
    omega
/-- .. by n bits. -/
def sts : Nat → BitVec 32 → BitVec 32
  | 0, y => y
  | n + 1, y => sts n (st y)
theorem sts_xor : ∀ (n : Nat) (a b : BitVec 32), sts n (a ^^^ b) = sts n a ^^^ sts n b
  | 0, _, _ => rfl
  | n + 1, a, b => by
    show sts n (st (a ^^^ b)) = _
    rw [st_xor, sts_xor n]
    rfl
theorem sts_zero : ∀ (n : Nat) {a : BitVec 32}, sts n a = 0#32 → a = 0#32
  | 0, _, h => h
  | n + 1, _, h => st_zero (sts_zero n h)
theorem sts_of_zero : ∀ n : Nat, sts n 0#32 = 0#32
  | 0 => rfl
  | n + 1 => by
    show sts n (st 0#32) = _
    rw [show st 0#32 = 0#32 from by decide]
    exact sts_of_zero n
theorem sts_add : ∀ (m n : Nat) (a : BitVec 32), sts (m + n) a = sts n (sts m a)
  | 0, n, a => by rw [Nat.zero_add]; rfl
  | m + 1, n, a => by
    rw [Nat.add_right_comm]
    exact sts_add m n (st a)
/-- what has room moves up. -/
theorem sts_up : ∀ (n : Nat) (z : BitVec 32), n ≤ 32 → z.toNat < 2 ^ (32 - n) → sts n z = z <<< n
  | 0, z, _, _ => by simp [sts]
  | n + 1, z, hn, h => by
    have h31 : z.toNat < 2 ^ 31 := Nat.lt_of_lt_of_le h (Nat.pow_le_pow_right (by decide) (by omega))
    have hm : z.msb = false := by
      rw [BitVec.msb_eq_decide]
      simpa using h31
    have hs : st z = z <<< 1 := by
      unfold st
      rw [hm]
      simp
    have ht : (z <<< 1).toNat < 2 ^ (32 - n) := by
      rw [BitVec.toNat_shiftLeft, Nat.shiftLeft_eq]
      have e : 32 - n = (32 - (n + 1)) + 1 := by omega
      have h2 : z.toNat * 2 ^ 1 < 2 ^ (32 - n) := by
        rw [e, Nat.pow_succ]
        omega
      exact Nat.lt_of_le_of_lt (Nat.mod_le _ _) h2
    show sts n (st z) = _
    rw [hs, sts_up n _ (by omega) ht, ← BitVec.shiftLeft_add, Nat.add_comm]

def w8 (c : UInt8) : BitVec 32 := BitVec.ofNat 32 c.toNat
theorem w8_lt (c : UInt8) : (w8 c).toNat < 256 := by
  have := c.toNat_lt
  unfold w8
  rw [BitVec.toNat_ofNat]
  exact Nat.lt_of_le_of_lt (Nat.mod_le _ _) this
/-- a byte goes in. -/
def cb (s : BitVec 32) (c : UInt8) : BitVec 32 := sts 8 (s ^^^ (w8 c <<< 24))
def crc (s : BitVec 32) (l : List UInt8) : BitVec 32 := l.foldl cb s
/-- the sum. -/
def sum (l : List UInt8) : BitVec 32 := ~~~ (crc (BitVec.allOnes 32) l)
theorem crc_append (s : BitVec 32) (a b : List UInt8) : crc s (a ++ b) = crc (crc s a) b := List.foldl_append ..
/-- four bytes as a word. -/
def word (a b c d : UInt8) : BitVec 32 := (w8 a <<< 24) ^^^ ((w8 b <<< 16) ^^^ ((w8 c <<< 8) ^^^ w8 d))
theorem up8 (c : UInt8) (k : Nat) (hk : k + 8 ≤ 24) : sts 8 (w8 c <<< k) = w8 c <<< (k + 8) := by
  have h := w8_lt c
  rw [sts_up 8 _ (by omega), ← BitVec.shiftLeft_add]
  rw [BitVec.toNat_shiftLeft, Nat.shiftLeft_eq]
  have h1 : 2 ^ k ≤ 2 ^ 16 := Nat.pow_le_pow_right (by decide) (by omega)
  have h2 : (w8 c).toNat * 2 ^ k ≤ 255 * 2 ^ 16 := Nat.mul_le_mul (by omega) h1
  exact Nat.lt_of_le_of_lt (Nat.mod_le _ _) (by omega)
theorem crc_word (s : BitVec 32) (a b c d : UInt8) : crc s [a, b, c, d] = sts 32 (s ^^^ word a b c d) := by
  show sts 8 (sts 8 (sts 8 (sts 8 (s ^^^ (w8 a <<< 24)) ^^^ (w8 b <<< 24)) ^^^ (w8 c <<< 24)) ^^^ (w8 d <<< 24)) = _
  have d1 : w8 d <<< 24 = sts 8 (sts 8 (sts 8 (w8 d))) := by
    have := up8 d 0 (by omega)
    rw [BitVec.shiftLeft_zero] at this
    rw [this, up8 d 8 (by omega), up8 d 16 (by omega)]
  have c1 : w8 c <<< 24 = sts 8 (sts 8 (w8 c <<< 8)) := by rw [up8 c 8 (by omega), up8 c 16 (by omega)]
  have b1 : w8 b <<< 24 = sts 8 (w8 b <<< 16) := by rw [up8 b 16 (by omega)]
  rw [d1, c1, b1]
  rw [← sts_xor, ← sts_xor, ← sts_xor, ← sts_xor, ← sts_xor, ← sts_xor]
  have e32 : ∀ z : BitVec 32, sts 32 z = sts 8 (sts 8 (sts 8 (sts 8 z))) := fun z => by
    have h1 := sts_add 8 24 z
    have h2 := sts_add 8 16 (sts 8 z)
    have h3 := sts_add 8 8 (sts 8 (sts 8 z))
    exact h1.trans (h2.trans h3)
  rw [e32]
  unfold word
  simp only [BitVec.xor_assoc]
/-- it is linear. -/
theorem w8_xor (a b : UInt8) : w8 (a ^^^ b) = w8 a ^^^ w8 b := by
  unfold w8
  apply BitVec.eq_of_toNat_eq
  rw [BitVec.toNat_xor]
  have h1 := a.toNat_lt
  have h2 := b.toNat_lt
  have h3 := (a ^^^ b).toNat_lt
  simp only [BitVec.toNat_ofNat]
  have e : (a ^^^ b).toNat = a.toNat ^^^ b.toNat := by simp
  rw [Nat.mod_eq_of_lt (a := (a ^^^ b).toNat) (by omega), Nat.mod_eq_of_lt (a := a.toNat) (by omega), Nat.mod_eq_of_lt (a := b.toNat) (by omega), e]
theorem xor_cancel {a b : BitVec 32} (h : a ^^^ b = a) : b = 0#32 := by
  have h2 := congrArg (a ^^^ ·) h
  simpa [← BitVec.xor_assoc] using h2
theorem cb_xor (s t : BitVec 32) (a b : UInt8) : cb (s ^^^ t) (a ^^^ b) = cb s a ^^^ cb t b := by
  show sts 8 ((s ^^^ t) ^^^ (w8 (a ^^^ b) <<< 24)) = sts 8 (s ^^^ (w8 a <<< 24)) ^^^ sts 8 (t ^^^ (w8 b <<< 24))
  rw [w8_xor, BitVec.shiftLeft_xor_distrib]
  generalize w8 a <<< 24 = x
  generalize w8 b <<< 24 = y
  rw [← sts_xor, x4]
theorem crc_zip : ∀ (l e : List UInt8) (s t : BitVec 32), l.length = e.length → crc (s ^^^ t) (List.zipWith (· ^^^ ·) l e) = crc s l ^^^ crc t e
  | [], [], _, _, _ => rfl
  | a :: l, b :: e, s, t, h => by
    show crc (cb (s ^^^ t) (a ^^^ b)) (List.zipWith (· ^^^ ·) l e) = crc (cb s a) l ^^^ crc (cb t b) e
    rw [cb_xor]
    exact crc_zip l e _ _ (by simpa using h)
  | [], _ :: _, _, _, h => by simp at h
  | _ :: _, [], _, _, h => by simp at h
theorem crc_zeros : ∀ (n : Nat) (s : BitVec 32), crc s (List.replicate n 0) = sts (8 * n) s
  | 0, _ => rfl
  | n + 1, s => by
    show crc (cb s 0) (List.replicate n 0) = _
    rw [crc_zeros n, show 8 * (n + 1) = 8 + 8 * n by omega, sts_add]
    congr 1
    unfold cb w8
    simp
theorem crc_burst {p q : Nat} {a b c d : UInt8} (h : crc 0#32 (List.replicate p 0 ++ ([a, b, c, d] ++ List.replicate q 0)) = 0#32) : word a b c d = 0#32 := by
  rw [crc_append, crc_zeros, sts_of_zero, crc_append, crc_word, crc_zeros] at h
  have h2 := sts_zero _ (sts_zero _ h)
  simpa using h2
theorem w8_inj {a : UInt8} (h : (w8 a).toNat = 0) : a = 0 := by
  unfold w8 at h
  have := a.toNat_lt
  rw [BitVec.toNat_ofNat, Nat.mod_eq_of_lt (by omega)] at h
  exact UInt8.toNat_inj.1 h
theorem xor_add (x y k : Nat) (h : y < 2 ^ k) : 2 ^ k * x ^^^ y = 2 ^ k * x + y := by
  apply Nat.eq_of_testBit_eq
  intro i
  rw [Nat.testBit_xor, Nat.testBit_two_pow_mul, Nat.testBit_two_pow_mul_add x h]
  by_cases hi : i < k
  · rw [if_pos hi]
    have : decide (i ≥ k) = false := by simpa using hi
    rw [this]
    simp
  · rw [if_neg hi]
    have h1 : decide (i ≥ k) = true := by simpa using hi
    have h2 : y.testBit i = false := Nat.testBit_lt_two_pow (Nat.lt_of_lt_of_le h (Nat.pow_le_pow_right (by decide) (by omega)))
    rw [h1, h2]
    simp
set_option maxHeartbeats 1000000 in
theorem word_nat (a b c d : UInt8) : (word a b c d).toNat = a.toNat * 16777216 + b.toNat * 65536 + c.toNat * 256 + d.toNat := by
  have ha := a.toNat_lt
  have hb := b.toNat_lt
  have hc := c.toNat_lt
  have hd := d.toNat_lt
  unfold word w8
  simp only [BitVec.toNat_xor, BitVec.toNat_shiftLeft, BitVec.toNat_ofNat]
  rw [Nat.mod_eq_of_lt (a := a.toNat) (by omega), Nat.mod_eq_of_lt (a := b.toNat) (by omega), Nat.mod_eq_of_lt (a := c.toNat) (by omega), Nat.mod_eq_of_lt (a := d.toNat) (by omega)]
  simp only [Nat.shiftLeft_eq]
  rw [Nat.mod_eq_of_lt (a := a.toNat * 2 ^ 24) (by omega), Nat.mod_eq_of_lt (a := b.toNat * 2 ^ 16) (by omega), Nat.mod_eq_of_lt (a := c.toNat * 2 ^ 8) (by omega)]
  have x1 : c.toNat * 2 ^ 8 ^^^ d.toNat = c.toNat * 2 ^ 8 + d.toNat := by
    rw [Nat.mul_comm, xor_add _ _ _ (by omega)]
  have x2 : b.toNat * 2 ^ 16 ^^^ (c.toNat * 2 ^ 8 + d.toNat) = b.toNat * 2 ^ 16 + (c.toNat * 2 ^ 8 + d.toNat) := by
    rw [Nat.mul_comm b.toNat, xor_add _ _ _ (by omega)]
  have x3 : a.toNat * 2 ^ 24 ^^^ (b.toNat * 2 ^ 16 + (c.toNat * 2 ^ 8 + d.toNat)) = a.toNat * 2 ^ 24 + (b.toNat * 2 ^ 16 + (c.toNat * 2 ^ 8 + d.toNat)) := by
    rw [Nat.mul_comm a.toNat, xor_add _ _ _ (by omega)]
  rw [x1, x2, x3]
  omega
/-- a sum fits just if the register ends so. -/
theorem fits_iff (l : List UInt8) (a b c d : UInt8) : word a b c d = sum l ↔ crc (BitVec.allOnes 32) (l ++ [a, b, c, d]) = sts 32 (BitVec.allOnes 32) := by
  rw [crc_append, crc_word]
  show word a b c d = ~~~ (crc (BitVec.allOnes 32) l) ↔ _
  generalize crc (BitVec.allOnes 32) l = s
  generalize word a b c d = w
  have hs : s ^^^ ~~~ s = BitVec.allOnes 32 := by rw [BitVec.not_def, xlc, BitVec.xor_self, BitVec.xor_zero]
  generalize BitVec.allOnes 32 = o at *
  constructor
  · intro h
    rw [h, hs]
  · intro h
    have h2 : sts 32 ((s ^^^ w) ^^^ o) = 0#32 := by
      rw [sts_xor, h, BitVec.xor_self]
    have h3 := sts_zero _ h2
    have h4 : s ^^^ w = o := by
      have := congrArg (· ^^^ o) h3
      simpa [BitVec.xor_assoc] using this
    have h5 : s ^^^ (s ^^^ w) = s ^^^ (s ^^^ ~~~ s) := by rw [h4, hs]
    simpa [← BitVec.xor_assoc] using h5
/-- **four bytes side by side that are changed are found.** -/
theorem spoilt {l l' : List UInt8} {a b c d a' b' c' d' m0 m1 m2 m3 : UInt8} {p q : Nat} (h : word a b c d = sum l) (hm : word m0 m1 m2 m3 ≠ 0#32)
    (hl : l'.length = l.length) (hlen : (l ++ [a, b, c, d]).length = p + (4 + q)) (he : l' ++ [a', b', c', d'] = List.zipWith (· ^^^ ·) (l ++ [a, b, c, d]) (List.replicate p 0 ++ ([m0, m1, m2, m3] ++ List.replicate q 0))) : word a' b' c' d' ≠ sum l' := by
  intro h'
  have k := (fits_iff l a b c d).1 h
  have k' := (fits_iff l' a' b' c' d').1 h'
  rw [he] at k'
  have hE : (l ++ [a, b, c, d]).length = (List.replicate p 0 ++ ([m0, m1, m2, m3] ++ List.replicate q 0)).length := by
    rw [hlen, List.length_append, List.length_append, List.length_replicate, List.length_replicate]
    rfl
  have hb := fun e => hm (crc_burst (p := p) (q := q) (a := m0) (b := m1) (c := m2) (d := m3) e)
  generalize List.replicate p 0 ++ ([m0, m1, m2, m3] ++ List.replicate q 0) = E at *
  generalize l ++ [a, b, c, d] = X at *
  have hz := crc_zip X E (BitVec.allOnes 32) 0#32 hE
  have hx : BitVec.allOnes 32 ^^^ 0#32 = BitVec.allOnes 32 := by simp
  rw [hx] at hz
  generalize BitVec.allOnes 32 = o at *
  generalize sts 32 o = C at *
  have hq := hz.symm
  rw [k, k'] at hq
  exact hb (xor_cancel hq)

end Crc
end Go.Proofs.YtkmbgehknpefiaaGreatDoor
