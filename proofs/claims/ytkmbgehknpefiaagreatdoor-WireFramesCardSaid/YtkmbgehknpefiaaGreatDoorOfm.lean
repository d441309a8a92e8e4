/-
  A packet as a frame, a frame as a packet: the plain mathematics, there and back. No condition.
-/
import Derived.Test.YtkmbgehknpefiaaGreatDoorOpr
import Derived.Test.YtkmbgehknpefiaaGreatDoorOcb
namespace Go.Proofs.YtkmbgehknpefiaaGreatDoor
set_option linter.unusedSimpArgs false
set_option linter.unusedVariables false

/-- a process there and back. -/
theorem proc_put (n l : Nat) (hn : n < 256) (hl : l ≤ 65535) (L : List UInt8) : RS.proc ⟨putP n l ++ L, 0⟩ = ((n, l), ⟨L, 0⟩) := by
  unfold RS.proc putP
  rw [List.cons_append, b_put, u_put 65535 l (by decide) L hl, toNat_of hn]
theorem proc_back {s s' : RS} {n l : Nat} (h : s.proc = ((n, l), s')) (he : s'.E = 0) : s.E = 0 ∧ s.L = putP n l ++ s'.L ∧ n < 256 ∧ l ≤ 65535 := by
  unfold RS.proc at h
  obtain ⟨⟨n', s1⟩, h1⟩ : ∃ q, s.b = q := ⟨_, rfl⟩
  obtain ⟨⟨l', s2⟩, h2⟩ : ∃ q, RS.u 65535 s1 = q := ⟨_, rfl⟩
  rw [h1] at h
  have h' : ((n', (RS.u 65535 s1).1), (RS.u 65535 s1).2) = ((n, l), s') := h
  rw [h2] at h'
  cases h'
  obtain ⟨e1, e2, e3⟩ := u_back h2 he
  obtain ⟨f1, f2, f3⟩ := b_back h1 e1
  refine ⟨f1, ?_, f3, e3⟩
  rw [f2, e2]
  rfl
theorem proc_ok {s : RS} (h : s.ok) : s.proc.2.ok := u_ok (b_ok h) 65535

/-- a packet. -/
structure Pk where
  fn : Nat
  fl : Nat
  tn : Nat
  tl : Nat
  seq : Nat
  ack : Nat
  has : Bool
  body : List UInt8
  deriving DecidableEq
def Pk.zero : Pk := ⟨0, 0, 0, 0, 0, 0, false, []⟩
/-- may there be such a process? -/
def rp (n l : Nat) : Bool := decide (n < 16) && decide (1 ≤ l)
def flagB (b : Bool) : UInt8 := if b then 1 else 0
/-- a packet's bytes, without the sum. -/
def Pk.plain (p : Pk) : List UInt8 := putP p.fn p.fl ++ (putP p.tn p.tl ++ (putU p.seq ++ (putU p.ack ++ (flagB p.has :: (if p.has then putT p.body else [])))))
/-- a number in four bytes, the highest first. -/
def be4 (x : Nat) : List UInt8 := [UInt8.ofNat (x / 16777216), UInt8.ofNat (x / 65536 % 256), UInt8.ofNat (x / 256 % 256), UInt8.ofNat (x % 256)]
def summed (l : List UInt8) : List UInt8 := l ++ be4 (Crc.sumN l)
def Pk.frame (p : Pk) : List UInt8 × Nat :=
  if rp p.fn p.fl && rp p.tn p.tl && (p.has || p.body.isEmpty) then (if 524288 < (summed p.plain).length then ([], 5) else (summed p.plain, 0)) else ([], 1)
/-- what is read of bytes without a sum. -/
def got (most : Nat) (d : List UInt8) : Pk × (Nat × RS) :=
  let a := RS.proc ⟨d, 0⟩
  let b := a.2.proc
  let c := b.2.u 18446744073709551615
  let e := c.2.u 18446744073709551615
  let h := e.2.b
  let t := if h.1 = 1 then h.2.text most else ([], h.2)
  (⟨a.1.1, a.1.2, b.1.1, b.1.2, c.1, e.1, decide (h.1 = 1), t.1⟩, (h.1, t.2))
def unframe (x : List UInt8) : Pk × Nat :=
  if 524288 < x.length then (Pk.zero, 5)
  else if x.length < 4 then (Pk.zero, 7)
  else if x.drop (x.length - 4) ≠ be4 (Crc.sumN (x.take (x.length - 4))) then (Pk.zero, 7)
  else
    let g := got 524288 (x.take (x.length - 4))
    if g.2.2.fin ≠ 0 then (Pk.zero, g.2.2.fin)
    else if g.2.1 ≤ 1 ∧ rp g.1.fn g.1.fl ∧ rp g.1.tn g.1.tl then (g.1, 0) else (Pk.zero, 6)

theorem fin_zero {s : RS} (h : s.fin = 0) : s.E = 0 ∧ s.L = [] := by
  unfold RS.fin at h
  split at h
  · rename_i h1
    split at h
    · exact ⟨h1, ‹_›⟩
    · cases h
  · exact absurd h ‹_›
theorem be4_length (x : Nat) : (be4 x).length = 4 := rfl
/-- what was put is got. -/
theorem got_plain (most : Nat) (hm : most < 2 ^ 64) (p : Pk) (h1 : p.fn < 256) (h2 : p.fl ≤ 65535) (h3 : p.tn < 256) (h4 : p.tl ≤ 65535) (h5 : p.seq ≤ 18446744073709551615) (h6 : p.ack ≤ 18446744073709551615) (hb : p.has = false → p.body = []) (hl : p.body.length ≤ most) :
    got most p.plain = (p, ((flagB p.has).toNat, ⟨[], 0⟩)) := by
  obtain ⟨fn, fl, tn, tl, seq, ack, has, body⟩ := p
  unfold got Pk.plain
  simp only at h1 h2 h3 h4 h5 h6 hb hl ⊢
  rw [proc_put fn fl h1 h2]
  simp only
  rw [proc_put tn tl h3 h4]
  simp only
  rw [u_put 18446744073709551615 seq (by decide) _ h5]
  simp only
  rw [u_put 18446744073709551615 ack (by decide) _ h6]
  simp only
  rw [b_put]
  cases has with
  | true =>
    have e : (flagB true).toNat = 1 := rfl
    simp only [e, if_true]
    have := text_put most hm body [] hl
    rw [List.append_nil] at this
    rw [this]
    simp
  | false =>
    have e : (flagB false).toNat = 0 := rfl
    simp only [e]
    rw [hb rfl]
    simp
/-- what was got, and is put again, are the bytes. -/
theorem got_back (most : Nat) (d : List UInt8) (he : (got most d).2.2.E = 0) (hl : (got most d).2.2.L = []) (hh : (got most d).2.1 ≤ 1) :
    (got most d).1.plain = d ∧ ((got most d).1.has = false → (got most d).1.body = []) ∧ (got most d).1.body.length ≤ most ∧ (got most d).1.fn < 256 ∧ (got most d).1.fl ≤ 65535 ∧ (got most d).1.tn < 256 ∧ (got most d).1.tl ≤ 65535 ∧ (got most d).1.seq ≤ 18446744073709551615 ∧ (got most d).1.ack ≤ 18446744073709551615 := by
  obtain ⟨⟨⟨fn, fl⟩, s1⟩, e1⟩ : ∃ q, RS.proc ⟨d, 0⟩ = q := ⟨_, rfl⟩
  obtain ⟨⟨⟨tn, tl⟩, s2⟩, e2⟩ : ∃ q, s1.proc = q := ⟨_, rfl⟩
  obtain ⟨⟨seq, s3⟩, e3⟩ : ∃ q, s2.u 18446744073709551615 = q := ⟨_, rfl⟩
  obtain ⟨⟨ack, s4⟩, e4⟩ : ∃ q, s3.u 18446744073709551615 = q := ⟨_, rfl⟩
  obtain ⟨⟨h, s5⟩, e5⟩ : ∃ q, s4.b = q := ⟨_, rfl⟩
  obtain ⟨⟨body, s6⟩, e6⟩ : ∃ q, (if h = 1 then s5.text most else ([], s5)) = q := ⟨_, rfl⟩
  have hg : got most d = (⟨fn, fl, tn, tl, seq, ack, decide (h = 1), body⟩, (h, s6)) := by
    unfold got
    simp only [e1, e2, e3, e4, e5, e6]
  rw [hg] at he hl hh ⊢
  simp only at he hl hh ⊢
  have k6 : s5.E = 0 ∧ s5.L = (if h = 1 then putT body else []) ∧ (h ≠ 1 → body = []) ∧ body.length ≤ most := by
    by_cases h1 : h = 1
    · rw [if_pos h1] at e6 ⊢
      obtain ⟨a, b, c⟩ := text_back e6 he
      rw [hl, List.append_nil] at b
      exact ⟨a, b, fun hn => absurd h1 hn, c⟩
    · rw [if_neg h1] at e6 ⊢
      cases e6
      exact ⟨he, hl, fun _ => rfl, Nat.zero_le _⟩
  obtain ⟨k5, k5L, k5b, k5l⟩ := k6
  obtain ⟨f1, f2, f3⟩ := b_back e5 k5
  obtain ⟨g1, g2, g3⟩ := u_back e4 f1
  obtain ⟨i1, i2, i3⟩ := u_back e3 g1
  obtain ⟨j1, j2, j3, j4⟩ := proc_back e2 i1
  obtain ⟨l1, l2, l3, l4⟩ := proc_back e1 j1
  refine ⟨?_, fun hn => k5b (by simpa using hn), k5l, l3, l4, j3, j4, i3, g3⟩
  have l2' : d = putP fn fl ++ s1.L := l2
  rw [l2', j2, i2, g2, f2, k5L]
  unfold Pk.plain
  simp only
  rcases (show h = 0 ∨ h = 1 by omega) with rfl | rfl
  · rfl
  · rfl

end Go.Proofs.YtkmbgehknpefiaaGreatDoor
