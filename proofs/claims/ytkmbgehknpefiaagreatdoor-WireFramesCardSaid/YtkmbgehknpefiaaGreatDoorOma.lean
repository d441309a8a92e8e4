/-
  Numbers and texts as bytes, and what is read of bytes: the plain mathematics, there and back. No condition.
-/
namespace Go.Proofs.YtkmbgehknpefiaaGreatDoor
set_option linter.unusedSimpArgs false
set_option linter.unusedVariables false

/-- a number's bytes. -/
def putU (v : Nat) : List UInt8 := if v < 128 then [UInt8.ofNat v] else UInt8.ofNat (v % 128 + 128) :: putU (v / 128)
termination_by v
decreasing_by omega
theorem putU_small {v : Nat} (h : v < 128) : putU v = [UInt8.ofNat v] := by
  unfold putU
  rw [if_pos h]
theorem putU_big {v : Nat} (h : ¬ v < 128) : putU v = UInt8.ofNat (v % 128 + 128) :: putU (v / 128) := by
  rw [putU, if_neg h]
/-- a reader's state: what is left, and the first error. -/
structure RS where
  L : List UInt8
  E : Nat
  deriving DecidableEq
/-- a number read, from its group i on, v being what was read of it: the number, what is left, an error. -/
def numAt (most : Nat) : Nat → Nat → List UInt8 → Nat × RS
  | _, _, [] => (0, ⟨[], 6⟩)
  | i, v, b :: L =>
    if 10 ≤ i then (0, ⟨[], 6⟩)
    else if (i = 9 ∧ 1 < b.toNat) ∨ (0 < i ∧ b.toNat = 0) then (0, ⟨[], 6⟩)
    else if b.toNat < 128 then (if most < v + b.toNat * 128 ^ i then (0, ⟨[], 5⟩) else (v + b.toNat * 128 ^ i, ⟨L, 0⟩))
    else numAt most (i + 1) (v + b.toNat % 128 * 128 ^ i) L
/-- U, B, Text of a state; an error that a caller notes. -/
def RS.u (most : Nat) (s : RS) : Nat × RS := if s.E = 0 then numAt most 0 0 s.L else (0, s)
def RS.b (s : RS) : Nat × RS := if s.E = 0 then (match s.L with | [] => (0, ⟨[], 6⟩) | x :: L => (x.toNat, ⟨L, 0⟩)) else (0, s)
def RS.fail (e : Nat) (s : RS) : RS := if s.E = 0 ∧ e ≠ 0 then ⟨[], e⟩ else s
def RS.text (most : Nat) (s : RS) : List UInt8 × RS :=
  if (s.u most).2.E = 0 then (if (s.u most).1 ≤ (s.u most).2.L.length then ((s.u most).2.L.take (s.u most).1, ⟨(s.u most).2.L.drop (s.u most).1, 0⟩) else ([], ⟨[], 6⟩)) else ([], (s.u most).2)
/-- a number with a sign, as one without; and back. -/
def zig (v : Int) : Nat := if v < 0 then (2 * (-v) - 1).toNat else (2 * v).toNat
def zag (v : Nat) : Int := if v % 2 = 1 then -((v / 2 : Nat) : Int) - 1 else ((v / 2 : Nat) : Int)
theorem zag_zig (v : Int) : zag (zig v) = v := by
  unfold zag zig
  split <;> split <;> omega
theorem zig_zag (v : Nat) : zig (zag v) = v := by
  unfold zag zig
  split <;> split <;> omega

theorem pow_bound (i : Nat) : 0 < 128 ^ i := Nat.pow_pos (by decide)
theorem toNat_of {n : Nat} (h : n < 256) : (UInt8.ofNat n).toNat = n := by
  simp [UInt8.toNat_ofNat']
  omega
/-- what is read of a number's own bytes. -/
theorem numAt_put (most : Nat) (hm : most < 2 ^ 64) (L : List UInt8) : ∀ (w i v : Nat), (0 < i → 0 < w) → v + w * 128 ^ i ≤ most → i ≤ 9 → numAt most i v (putU w ++ L) = (v + w * 128 ^ i, ⟨L, 0⟩) := by
  intro w
  induction w using Nat.strongRecOn with
  | ind w ih =>
    intro i v hi hv h9
    have h9' : i = 9 → w ≤ 1 := by
      intro e
      subst e
      have h1 : (128 : Nat) ^ 9 = 9223372036854775808 := by decide
      have h2 : (2 : Nat) ^ 64 = 18446744073709551616 := by decide
      rw [h1] at hv
      omega
    by_cases h : w < 128
    · rw [putU_small h, List.singleton_append]
      have hb := toNat_of (n := w) (by omega)
      unfold numAt
      rw [hb, if_neg (by omega), if_neg (by omega), if_pos h, if_neg (by omega)]
    · rw [putU_big h, List.cons_append]
      have hb := toNat_of (n := w % 128 + 128) (by omega)
      have hne : i ≠ 9 := fun e => by have := h9' e; omega
      unfold numAt
      rw [hb, if_neg (by omega), if_neg (by omega), if_neg (by omega)]
      have e : (w % 128 + 128) % 128 = w % 128 := by omega
      have hs : v + w % 128 * 128 ^ i + w / 128 * 128 ^ (i + 1) = v + w * 128 ^ i := by
        rw [Nat.pow_succ, ← Nat.mul_assoc, Nat.mul_right_comm, Nat.add_assoc, ← Nat.add_mul]
        congr 2
        omega
      rw [e, ih (w / 128) (by omega) (i + 1) _ (by omega) (by rw [hs]; exact hv) (by omega), hs]
theorem u_put (most v : Nat) (hm : most < 2 ^ 64) (L : List UInt8) (h : v ≤ most) : RS.u most ⟨putU v ++ L, 0⟩ = (v, ⟨L, 0⟩) := by
  unfold RS.u
  rw [if_pos rfl, numAt_put most hm L v 0 0 (by omega) (by simpa using h) (by omega)]
  simp
/-- what was read of bytes, told again, are the bytes. -/
theorem numAt_back (most : Nat) : ∀ (l : List UInt8) (i v w : Nat) (s : RS), v < 128 ^ i → numAt most i v l = (w, s) → s.E = 0 → ∃ u, w = v + u * 128 ^ i ∧ l = putU u ++ s.L ∧ w ≤ most ∧ (0 < i → 0 < u) := by
  intro l
  induction l with
  | nil =>
    intro i v w s _ h he
    unfold numAt at h
    cases h
    cases he
  | cons b L ih =>
    intro i v w s hv h he
    have hb8 : b.toNat < 256 := by have := b.toNat_lt; omega
    have hbb : UInt8.ofNat b.toNat = b := by simp
    unfold numAt at h
    split at h
    · cases h; cases he
    · split at h
      · cases h; cases he
      · rename_i h10 hno
        split at h
        · rename_i h128
          split at h
          · cases h; cases he
          · rename_i hmost
            cases h
            refine ⟨b.toNat, rfl, ?_, by omega, fun hi => by omega⟩
            rw [putU_small h128, hbb]
            rfl
        · rename_i h128
          have hp := pow_bound i
          have hvv : v + b.toNat % 128 * 128 ^ i < 128 ^ (i + 1) := by
            rw [Nat.pow_succ]
            have h1 : b.toNat % 128 ≤ 127 := by omega
            have h2 : b.toNat % 128 * 128 ^ i ≤ 127 * 128 ^ i := Nat.mul_le_mul_right _ h1
            omega
          obtain ⟨u, hw, hl, hm, hu⟩ := ih (i + 1) _ w s hvv h he
          have hu0 := hu (by omega)
          have h1 : ¬ (b.toNat % 128 + u * 128) < 128 := by omega
          refine ⟨b.toNat % 128 + u * 128, ?_, ?_, hm, fun _ => by omega⟩
          · rw [hw, Nat.pow_succ, Nat.add_mul, Nat.add_assoc]
            congr 2
            rw [Nat.mul_comm (128 ^ i) 128, Nat.mul_assoc]
          · rw [putU_big h1, hl]
            have e1 : (b.toNat % 128 + u * 128) % 128 + 128 = b.toNat := by omega
            have e2 : (b.toNat % 128 + u * 128) / 128 = u := by omega
            rw [e1, e2, hbb]
            rfl
theorem u_back {most : Nat} {s s' : RS} {v : Nat} (h : s.u most = (v, s')) (he : s'.E = 0) : s.E = 0 ∧ s.L = putU v ++ s'.L ∧ v ≤ most := by
  unfold RS.u at h
  split at h
  · rename_i h0
    obtain ⟨u, hw, hl, hm, -⟩ := numAt_back most s.L 0 0 v s' (by simp) h he
    have : v = u := by simpa using hw
    subst this
    exact ⟨h0, hl, hm⟩
  · cases h
    exact absurd he ‹_›
/-- a byte; a text. -/
theorem b_put (x : UInt8) (L : List UInt8) : RS.b ⟨x :: L, 0⟩ = (x.toNat, ⟨L, 0⟩) := rfl
theorem b_back {s s' : RS} {v : Nat} (h : s.b = (v, s')) (he : s'.E = 0) : s.E = 0 ∧ s.L = UInt8.ofNat v :: s'.L ∧ v < 256 := by
  unfold RS.b at h
  split at h
  · rename_i h0
    split at h
    · cases h; cases he
    · rename_i x L hx
      cases h
      exact ⟨h0, by simpa using hx, x.toNat_lt⟩
  · cases h
    exact absurd he ‹_›
def putT (t : List UInt8) : List UInt8 := putU t.length ++ t
theorem text_put (most : Nat) (hm : most < 2 ^ 64) (t L : List UInt8) (h : t.length ≤ most) : RS.text most ⟨putT t ++ L, 0⟩ = (t, ⟨L, 0⟩) := by
  unfold RS.text putT
  rw [List.append_assoc, u_put most t.length hm (t ++ L) h]
  simp
theorem text_back {most : Nat} {s s' : RS} {t : List UInt8} (h : s.text most = (t, s')) (he : s'.E = 0) : s.E = 0 ∧ s.L = putT t ++ s'.L ∧ t.length ≤ most := by
  unfold RS.text at h
  split at h
  · rename_i h0
    split at h
    · rename_i hl
      obtain ⟨h1, h2, h3⟩ := u_back (s := s) (v := (s.u most).1) (s' := (s.u most).2) rfl h0
      cases h
      refine ⟨h1, ?_, by simp; omega⟩
      unfold putT
      rw [List.length_take, Nat.min_eq_left hl, List.append_assoc, List.take_append_drop]
      exact h2
    · cases h; cases he
  · cases h
    exact absurd he ‹_›
/-- behind an error nothing is left of a state that was whole. -/
def RS.ok (s : RS) : Prop := s.E ≠ 0 → s.L = []
theorem numAt_ok (most : Nat) : ∀ (l : List UInt8) (i v : Nat), (numAt most i v l).2.ok := by
  intro l
  induction l with
  | nil => intro i v _; rfl
  | cons b L ih =>
    intro i v
    unfold numAt
    split
    · intro _; rfl
    · split
      · intro _; rfl
      · split
        · split
          · intro _; rfl
          · intro h; exact absurd rfl h
        · exact ih _ _
theorem u_ok {s : RS} (h : s.ok) (most : Nat) : (s.u most).2.ok := by
  unfold RS.u
  split
  · exact numAt_ok _ _ _ _
  · exact h
theorem b_ok {s : RS} (h : s.ok) : s.b.2.ok := by
  unfold RS.b
  split
  · split
    · intro _; rfl
    · intro h; exact absurd rfl h
  · exact h
theorem text_ok {s : RS} (h : s.ok) (most : Nat) : (s.text most).2.ok := by
  unfold RS.text
  split
  · split
    · intro h; exact absurd rfl h
    · intro _; rfl
  · exact u_ok h most
theorem fail_ok {s : RS} (h : s.ok) (e : Nat) : (s.fail e).ok := by
  unfold RS.fail
  split
  · intro _; rfl
  · exact h

end Go.Proofs.YtkmbgehknpefiaaGreatDoor
