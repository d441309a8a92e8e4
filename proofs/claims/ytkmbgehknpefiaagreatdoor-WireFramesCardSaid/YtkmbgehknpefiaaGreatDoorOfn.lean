/-
  Frames there and back; a spoilt frame is refused: the plain mathematics. No condition.
-/
import Derived.Test.YtkmbgehknpefiaaGreatDoorOfm
namespace Go.Proofs.YtkmbgehknpefiaaGreatDoor
set_option linter.unusedSimpArgs false
set_option linter.unusedVariables false

theorem summed_length (l : List UInt8) : (summed l).length = l.length + 4 := by
  unfold summed
  rw [List.length_append, be4_length]
theorem summed_take (l : List UInt8) : (summed l).take ((summed l).length - 4) = l := by
  rw [summed_length, Nat.add_sub_cancel]
  unfold summed
  exact List.take_left
theorem summed_drop (l : List UInt8) : (summed l).drop ((summed l).length - 4) = be4 (Crc.sumN l) := by
  rw [summed_length, Nat.add_sub_cancel]
  unfold summed
  exact List.drop_left
theorem flag_le (b : Bool) : (flagB b).toNat ≤ 1 := by cases b <;> decide
/-- the numbers of a packet fit their kinds. -/
structure Pk.fits (p : Pk) : Prop where
  fn : p.fn < 256
  fl : p.fl ≤ 65535
  tn : p.tn < 256
  tl : p.tl ≤ 65535
  seq : p.seq ≤ 18446744073709551615
  ack : p.ack ≤ 18446744073709551615
theorem body_le (p : Pk) (h : p.has = true) : p.body.length ≤ p.plain.length := by
  unfold Pk.plain
  rw [h]
  simp only [if_true, putT, List.length_append, List.length_cons]
  omega
/-- **a packet that was framed is read as it was.** -/
theorem unframe_frame {p : Pk} {x : List UInt8} (hp : p.fits) (h : p.frame = (x, 0)) : unframe x = (p, 0) := by
  unfold Pk.frame at h
  split at h
  · rename_i hr
    split at h
    · cases h
    · rename_i hlen
      cases h
      have hb : p.has = false → p.body = [] := by
        intro hh
        rw [hh] at hr
        simp only [Bool.and_eq_true, Bool.or_eq_true, Bool.false_eq_true, false_or] at hr
        exact List.isEmpty_iff.1 hr.2
      have hbl : p.body.length ≤ 524288 := by
        cases hh : p.has with
        | false => rw [hb hh]; exact Nat.zero_le _
        | true =>
          have := body_le p hh
          rw [summed_length] at hlen
          omega
      have hg := got_plain 524288 (by decide) p hp.fn hp.fl hp.tn hp.tl hp.seq hp.ack hb hbl
      unfold unframe
      rw [if_neg hlen, if_neg (by rw [summed_length]; omega), summed_take, summed_drop, if_neg (fun h => h rfl)]
      simp only [hg]
      have hf : RS.fin ⟨[], 0⟩ = 0 := rfl
      rw [hf, if_neg (fun h => h rfl), if_pos]
      simp only [Bool.and_eq_true] at hr
      exact ⟨flag_le _, hr.1.1, hr.1.2⟩
  · cases h
/-- what was read is right. -/
theorem unframe_right {p : Pk} {x : List UInt8} (h : unframe x = (p, 0)) : p.fits ∧ p.frame = (x, 0) := by
  unfold unframe at h
  split at h
  · cases h
  · rename_i h1
    split at h
    · cases h
    · rename_i h2
      split at h
      · cases h
      · rename_i h3
        have h3' : x.drop (x.length - 4) = be4 (Crc.sumN (x.take (x.length - 4))) := by
          rcases Classical.em (x.drop (x.length - 4) = be4 (Crc.sumN (x.take (x.length - 4)))) with h | h
          · exact h
          · exact absurd h h3
        simp only at h
        generalize hd : x.take (x.length - 4) = d at *
        split at h
        · rename_i h4
          have : (got 524288 d).2.2.fin = 0 := (Prod.mk.inj h).2
          exact absurd this h4
        · rename_i h4
          split at h
          · rename_i h5
            have hz : (got 524288 d).2.2.fin = 0 := by
              rcases Nat.eq_zero_or_pos (got 524288 d).2.2.fin with h | h
              · exact h
              · exact absurd (by omega) h4
            obtain ⟨z1, z2⟩ := fin_zero hz
            obtain ⟨k1, k2, k3, k4, k5, k6, k7, k8, k9⟩ := got_back 524288 d z1 z2 h5.1
            have hp : (got 524288 d).1 = p := (Prod.mk.inj h).1
            rw [hp] at k1 k2 k3 k4 k5 k6 k7 k8 k9 h5
            refine ⟨⟨k4, k5, k6, k7, k8, k9⟩, ?_⟩
            have hx : summed p.plain = x := by
              rw [k1]
              unfold summed
              rw [← h3', ← hd, List.take_append_drop]
            unfold Pk.frame
            rw [if_pos, hx, if_neg h1]
            rw [h5.2.1, h5.2.2]
            cases hh : p.has with
            | true => rfl
            | false => rw [k2 hh]; rfl
          · cases h
/-- a refusal hands nothing over. -/
theorem unframe_zero {x : List UInt8} {p : Pk} {e : Nat} (h : unframe x = (p, e)) (he : e ≠ 0) : p = Pk.zero := by
  unfold unframe at h
  split at h
  · cases h; rfl
  · split at h
    · cases h; rfl
    · split at h
      · cases h; rfl
      · simp only at h
        split at h
        · cases h; rfl
        · split at h
          · cases h; exact absurd rfl he
          · cases h; rfl
theorem be4_word (l : List UInt8) : ∃ a b c d, be4 (Crc.sumN l) = [a, b, c, d] ∧ Crc.word a b c d = Crc.sum l := by
  refine ⟨_, _, _, _, rfl, ?_⟩
  apply BitVec.eq_of_toNat_eq
  have h := Crc.sumN_lt l
  rw [Crc.word_nat, ← Crc.sumN_is, toNat_of (by omega), toNat_of (by omega), toNat_of (by omega), toNat_of (by omega)]
  omega
theorem word_be4 {l : List UInt8} {a b c d : UInt8} (h : [a, b, c, d] = be4 (Crc.sumN l)) : Crc.word a b c d = Crc.sum l := by
  obtain ⟨a', b', c', d', e, hw⟩ := be4_word l
  rw [e] at h
  simp only [List.cons.injEq, and_true] at h
  obtain ⟨h1, h2, h3, h4⟩ := h
  rw [h1, h2, h3, h4]
  exact hw
/-- **a frame of which four bytes that stand side by side are changed is refused.** -/
theorem unframe_spoilt {p : Pk} {x x' : List UInt8} {m0 m1 m2 m3 : UInt8} {i j : Nat} (h : p.frame = (x, 0)) (hm : Crc.word m0 m1 m2 m3 ≠ 0#32) (hl : x.length = i + (4 + j))
    (he : x' = List.zipWith (· ^^^ ·) x (List.replicate i 0 ++ ([m0, m1, m2, m3] ++ List.replicate j 0))) : unframe x' = (Pk.zero, 7) := by
  have hx : x = summed p.plain ∧ x.length ≤ 524288 := by
    unfold Pk.frame at h
    split at h
    · split at h
      · cases h
      · rename_i hlen
        cases h
        exact ⟨rfl, by omega⟩
    · cases h
  obtain ⟨hx, hlen⟩ := hx
  have hE : (List.replicate i (0 : UInt8) ++ ([m0, m1, m2, m3] ++ List.replicate j 0)).length = x.length := by
    rw [hl, List.length_append, List.length_append, List.length_replicate, List.length_replicate]
    rfl
  have hlx : x'.length = x.length := by
    rw [he, List.length_zipWith, hE, Nat.min_self]
  have h4 : 4 ≤ x.length := by omega
  unfold unframe
  rw [if_neg (by omega), if_neg (by omega), if_pos]
  intro hfit
  obtain ⟨a, b, c, d, hb, hw⟩ := be4_word p.plain
  have hd4 : (x'.drop (x'.length - 4)).length = 4 := by rw [List.length_drop]; omega
  obtain ⟨a', b', c', d', hd'⟩ : ∃ a' b' c' d', x'.drop (x'.length - 4) = [a', b', c', d'] := by
    match hq : x'.drop (x'.length - 4), hd4 with
    | [a', b', c', d'], _ => exact ⟨a', b', c', d', rfl⟩
  rw [hd'] at hfit
  have hw' := word_be4 hfit
  have hsx : summed p.plain = p.plain ++ [a, b, c, d] := by
    unfold summed
    rw [hb]
  refine Crc.spoilt (l := p.plain) (l' := x'.take (x'.length - 4)) (p := i) (q := j) hw hm ?_ ?_ ?_ hw'
  · rw [List.length_take, hlx, hx, summed_length]
    omega
  · rw [← hsx, ← hx]
    exact hl
  · rw [← hd', List.take_append_drop, ← hsx, ← hx]
    exact he

end Go.Proofs.YtkmbgehknpefiaaGreatDoor
