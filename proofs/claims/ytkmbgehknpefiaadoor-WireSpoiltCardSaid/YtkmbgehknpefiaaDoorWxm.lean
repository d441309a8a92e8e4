/-
  Four bytes that stand side by side, changed: the plain mathematics. No condition.
-/
import Derived.Test.YtkmbgehknpefiaaDoorOfn
namespace Go.Proofs.YtkmbgehknpefiaaDoor
set_option linter.unusedSimpArgs false
set_option linter.unusedVariables false

/-- the first k of some bytes from place i on, changed by m. -/
def xorAt (x : List UInt8) (i : Nat) (m : Nat → UInt8) : Nat → List UInt8
  | 0 => x
  | k + 1 => (xorAt x i m k).set (i + k) ((x.getD (i + k) 0) ^^^ m k)
theorem xorAt_length (x : List UInt8) (i : Nat) (m : Nat → UInt8) (k : Nat) : (xorAt x i m k).length = x.length := by
  induction k with
  | zero => rfl
  | succ k ih => rw [xorAt, List.length_set, ih]
theorem xorAt_get (x : List UInt8) (i : Nat) (m : Nat → UInt8) (k : Nat) (hk : i + k ≤ x.length) (t : Nat) : (xorAt x i m k)[t]? = (x[t]?).map (fun b => if i ≤ t ∧ t < i + k then b ^^^ m (t - i) else b) := by
  induction k with
  | zero =>
    rw [xorAt]
    cases x[t]? with
    | none => rfl
    | some b =>
      simp
      intro h1 h2
      omega
  | succ k ih =>
    have ih := ih (by omega)
    rw [xorAt, List.getElem?_set]
    by_cases h : i + k = t
    · subst h
      have hl : i + k < (xorAt x i m k).length := by rw [xorAt_length]; omega
      rw [if_pos rfl, if_pos hl, List.getElem?_eq_getElem (by omega)]
      simp [List.getD, List.getElem?_eq_getElem (show i + k < x.length by omega)]
    · rw [if_neg h, ih]
      cases x[t]? with
      | none => rfl
      | some b =>
        simp only [Option.map_some]
        congr 1
        by_cases h1 : i ≤ t ∧ t < i + k
        · rw [if_pos h1, if_pos ⟨h1.1, by omega⟩]
        · rw [if_neg h1, if_neg (fun h2 => h1 ⟨h2.1, by omega⟩)]
theorem xorAt_next (x : List UInt8) (i : Nat) (m : Nat → UInt8) (k : Nat) (hk : i + k < x.length) : (xorAt x i m k)[i + k]? = some (x.getD (i + k) 0) := by
  rw [xorAt_get x i m k (by omega), List.getElem?_eq_getElem hk]
  simp [List.getD, List.getElem?_eq_getElem hk]
theorem xorAt_zip (x : List UInt8) (i j : Nat) (m : Nat → UInt8) (hl : x.length = i + (4 + j)) :
    xorAt x i m 4 = List.zipWith (· ^^^ ·) x (List.replicate i 0 ++ ([m 0, m 1, m 2, m 3] ++ List.replicate j 0)) := by
  apply List.ext_getElem?
  intro t
  rw [xorAt_get x i m 4 (by omega), List.getElem?_zipWith]
  rcases Nat.lt_or_ge t x.length with ht | ht
  · rw [List.getElem?_eq_getElem ht]
    simp only [Option.map_some]
    rcases Nat.lt_or_ge t i with h1 | h1
    · rw [if_neg (by omega), List.getElem?_append_left (by simpa using h1), List.getElem?_replicate, if_pos h1]
      simp
    · rw [List.getElem?_append_right (by simpa using h1), List.length_replicate]
      rcases Nat.lt_or_ge (t - i) 4 with h2 | h2
      · rw [if_pos (by omega), List.getElem?_append_left (by simpa using h2)]
        rcases (show t - i = 0 ∨ t - i = 1 ∨ t - i = 2 ∨ t - i = 3 by omega) with h | h | h | h <;> rw [h] <;> rfl
      · rw [if_neg (by omega), List.getElem?_append_right (by simpa using h2), List.getElem?_replicate]
        simp only [List.length_cons, List.length_nil]
        rw [if_pos (by omega)]
        simp
  · rw [List.getElem?_eq_none ht]
    rfl
/-- the bytes of a mask. -/
def maskB (mask : Nat) (k : Nat) : UInt8 := UInt8.ofNat (mask / 256 ^ k % 256)
theorem mask_word (mask : Nat) (h0 : mask ≠ 0) (h1 : mask < 4294967296) : Crc.word (maskB mask 0) (maskB mask 1) (maskB mask 2) (maskB mask 3) ≠ 0#32 := by
  intro h
  have h2 := congrArg BitVec.toNat h
  rw [Crc.word_nat] at h2
  unfold maskB at h2
  rw [toNat_of (by omega), toNat_of (by omega), toNat_of (by omega), toNat_of (by omega)] at h2
  simp at h2
  omega
/-- **a frame whose bytes are so changed is refused.** -/
theorem spoilt_refused {p : Pk} {x : List UInt8} {mask i : Nat} (h : p.frame = (x, 0)) (h0 : mask ≠ 0) (h1 : mask < 4294967296) (hi : i + 4 ≤ x.length) : unframe (xorAt x i (maskB mask) 4) = (Pk.zero, 7) :=
  unframe_spoilt (i := i) (j := x.length - i - 4) h (mask_word mask h0 h1) (by omega) (xorAt_zip x i (x.length - i - 4) (maskB mask) (by omega))

end Go.Proofs.YtkmbgehknpefiaaDoor
