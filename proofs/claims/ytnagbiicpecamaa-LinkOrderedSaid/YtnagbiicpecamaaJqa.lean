/-
  Both directions of a link, in plain lists: what a packet does to them. Plain mathematics.
-/
import Derived.Test.YtnagbiicpecamaaJpl
namespace Go.Proofs.Ytnagbiicpecamaa
set_option linter.unusedSimpArgs false
set_option linter.unusedVariables false
open Go.RowKit Go.Maps Go.Sort

/-- what is kept of the bodies S, of which c came. -/
def Kp (F : Nat) (S : List (List UInt8)) (lo c : Nat) (K : List KPu) : Prop := ∀ y ∈ K, ∃ j, y.1 = F + j ∧ lo ≤ j ∧ j < c + 8 ∧ S[j]? = some y.2
theorem fP_some {K : List KPu} {q : Nat} {x : KPu} (h : fP K q = some x) : x ∈ K ∧ x.1 = q := by
  have h1 := List.find?_some h
  exact ⟨List.mem_of_find?_eq_some h, by simpa using h1⟩
theorem fP_none {K : List KPu} {q : Nat} (h : fP K q = none) : ∀ y ∈ K, y.1 ≠ q := by
  intro y hy e
  have := List.find?_eq_none.1 h y hy
  simp [e] at this
theorem outP_lt {K : List KPu} {x : KPu} (h : x ∈ K) : (outP K x.1).length < K.length := by
  unfold outP
  induction K with
  | nil => cases h
  | cons a K ih =>
    rw [List.filter_cons]
    by_cases ha : a.1 = x.1
    · rw [if_neg (by simp [ha])]
      have := List.length_filter_le (fun y : KPu => decide (y.1 ≠ x.1)) K
      simp only [List.length_cons]
      omega
    · rw [if_pos (by simp [ha])]
      rcases List.mem_cons.1 h with rfl | h
      · exact absurd rfl ha
      · have := ih h
        simp only [List.length_cons]
        omega
theorem take_step {S : List (List UInt8)} {c c2 : Nat} {B : List UInt8} (hB : S[c]? = some B) (h : c + 1 ≤ c2) : (S.drop c).take (c2 - c) = B :: (S.drop (c + 1)).take (c2 - (c + 1)) := by
  obtain ⟨hc, rfl⟩ := List.getElem?_eq_some_iff.1 hB
  rw [List.drop_eq_getElem_cons hc]
  have e : c2 - c = (c2 - (c + 1)) + 1 := by omega
  rw [e, List.take_succ_cons]
theorem comeP_dir (F : Nat) (S : List (List UInt8)) (hF : F + S.length < 18446744073709551615) : ∀ (f : Nat) (K : List KPu) (c : Nat), K.length ≤ f → Kp F S c c K → c ≤ S.length →
    ∃ c2, (comeP f K (F + c)).2.1 = F + c2 ∧ c ≤ c2 ∧ c2 ≤ S.length ∧ (comeP f K (F + c)).2.2.map (·.2) = (S.drop c).take (c2 - c) ∧ Kp F S (c2 + 1) c2 (comeP f K (F + c)).1 ∧ ((∃ y ∈ K, y.1 = F + c) → c < c2)
  | 0, K, c, hl, hK, hc => by
    obtain rfl : K = [] := List.length_eq_zero_iff.1 (by omega)
    exact ⟨c, rfl, Nat.le_refl _, hc, by simp [comeP], fun y hy => by simp [comeP] at hy, fun ⟨y, hy, _⟩ => by cases hy⟩
  | f + 1, K, c, hl, hK, hc => by
    cases hf : fP K (F + c) with
    | none =>
      have e : comeP (f + 1) K (F + c) = (K, F + c, []) := by simp [comeP, hf]
      rw [e]
      refine ⟨c, rfl, Nat.le_refl _, hc, by simp, fun y hy => ?_, fun ⟨y, hy, h⟩ => absurd h (fP_none hf y hy)⟩
      obtain ⟨j, h1, h2, h3, h4⟩ := hK y hy
      have := fP_none hf y hy
      exact ⟨j, h1, by omega, h3, h4⟩
    | some x =>
      obtain ⟨hx, hq⟩ := fP_some hf
      obtain ⟨j, h1, h2, h3, h4⟩ := hK x hx
      obtain rfl : j = c := by omega
      have hlt : j < S.length := (List.getElem?_eq_some_iff.1 h4).1
      have e : comeP (f + 1) K (F + j) = ((comeP f (outP K (F + j)) (F + (j + 1))).1, (comeP f (outP K (F + j)) (F + (j + 1))).2.1, x :: (comeP f (outP K (F + j)) (F + (j + 1))).2.2) := by
        have hi : inc (F + j) = F + (j + 1) := by unfold inc; omega
        simp [comeP, hf, hi]
      have hlen : (outP K (F + j)).length ≤ f := by
        have := outP_lt hx
        rw [hq] at this
        omega
      have hK2 : Kp F S (j + 1) (j + 1) (outP K (F + j)) := fun y hy => by
        unfold outP at hy
        obtain ⟨hy1, hy2⟩ := List.mem_filter.1 hy
        obtain ⟨i, g1, g2, g3, g4⟩ := hK y hy1
        have : y.1 ≠ F + j := by simpa using hy2
        exact ⟨i, g1, by omega, by omega, g4⟩
      obtain ⟨c2, r1, r2, r3, r4, r5, _⟩ := comeP_dir F S hF f (outP K (F + j)) (j + 1) hlen hK2 hlt
      rw [e]
      refine ⟨c2, r1, by omega, r3, ?_, r5, fun _ => by omega⟩
      rw [List.map_cons, r4, take_step h4 r2]

/-- one direction: the bodies S from number F on; a of them acknowledged, c of them come. -/
structure Dir (F : Nat) (S : List (List UInt8)) (ss : Sc) (L : List LPu) (sr : Sc) (K : List KPu) (a c : Nat) : Prop where
  nx : ss.next = F + S.length
  ln : L.length + a = S.length
  lx : ∀ i x, L[i]? = some x → x.1 = F + a + i ∧ S[a + i]? = some x.2.1
  wn : sr.want = F + c
  ac : a ≤ c
  cS : c ≤ S.length
  kp : Kp F S (c + 1) c K
/-- a packet of one direction (bodies S) that acknowledges at most the number F + r of the other one. -/
structure Good (F : Nat) (S : List (List UInt8)) (r : Nat) (p : Hp) : Prop where
  has_ : p.has = true → ∃ j, p.seq = F + j ∧ S[j]? = some p.B
  ack_ : p.ack ≤ F + r
theorem Good.mono {F : Nat} {S : List (List UInt8)} {r r' : Nat} {p : Hp} (h : Good F S r p) (hr : r ≤ r') : Good F S r' p := ⟨h.has_, Nat.le_trans h.ack_ (by omega)⟩
theorem Good.grow {F : Nat} {S : List (List UInt8)} {r : Nat} {p : Hp} (h : Good F S r p) (X : List UInt8) : Good F (S ++ [X]) r p :=
  ⟨fun hh => by obtain ⟨j, h1, h2⟩ := h.has_ hh; exact ⟨j, h1, by rw [List.getElem?_append_left (List.getElem?_eq_some_iff.1 h2).1]; exact h2⟩, h.ack_⟩
/-- a body is kept: still of S. -/
theorem keepP_dir {F : Nat} {S : List (List UInt8)} {c : Nat} {K : List KPu} {q : Nat} {B : List UInt8} (hK : Kp F S (c + 1) c K) {j : Nat} (hq : q = F + j) (hB : S[j]? = some B) : Kp F S c c (keepP (F + c) K q B) ∧ (j = c → ∃ y ∈ keepP (F + c) K q B, y.1 = F + c) := by
  have hw : Kp F S c c K := fun y hy => by
    obtain ⟨i, h1, h2, h3, h4⟩ := hK y hy
    exact ⟨i, h1, by omega, h3, h4⟩
  unfold keepP
  split
  · rename_i hs
    refine ⟨hw, fun e => ?_⟩
    rcases hs with hs | hs | hs
    · omega
    · omega
    · cases hf : fP K q with
      | none => rw [hf] at hs; cases hs
      | some y =>
        obtain ⟨hy, hyq⟩ := fP_some hf
        exact ⟨y, hy, by omega⟩
  · rename_i hs
    have h1 : ¬ q < F + c := fun h => hs (Or.inl h)
    have h2 : ¬ 8 ≤ q - (F + c) := fun h => hs (Or.inr (Or.inl h))
    refine ⟨fun y hy => ?_, fun e => ⟨(q, B), by simp, by show q = F + c; omega⟩⟩
    rcases List.mem_append.1 hy with hy | hy
    · exact hw y hy
    · obtain rfl : y = (q, B) := by simpa using hy
      exact ⟨j, hq, by omega, by omega, hB⟩
/-- a packet comes: what the hearing end's two directions are then. -/
theorem hear_dir {F : Nat} {S S' : List (List UInt8)} {sx sy : Sc} {Lx Ly : List LPu} {Kx Ky : List KPu} {a c a' c' : Nat} (hF : F + S.length < 18446744073709551615) (h : Dir F S sx Lx sy Ky a c) (h' : Dir F S' sy Ly sx Kx a' c') {p : Hp} (hm : p.mine sy) (hg : Good F S c' p) :
    ∃ a2 c2, Dir F S sx Lx (hearP sy Ly Ky p).1 (hearP sy Ly Ky p).2.2.1 a c2 ∧ Dir F S' (hearP sy Ly Ky p).1 (hearP sy Ly Ky p).2.1 sx Kx a2 c' ∧ (hearP sy Ly Ky p).2.2.2.map (·.2) = (S.drop c).take (c2 - c) ∧ c ≤ c2 ∧ a' ≤ a2 ∧ F + a2 ≥ p.ack ∧
      (p.has = true → p.seq ≤ F + c → p.seq + 1 ≤ F + c2) ∧ (hearP sy Ly Ky p).1 = { sy with want := F + c2, owed := sy.owed || p.has } := by
  have hdrop : ∀ (sy2 : Sc), sy2.next = sy.next → ∃ a2, Dir F S' sy2 (Ly.drop (ackN sy.next p.ack Ly.length)) sx Kx a2 c' ∧ a' ≤ a2 ∧ F + a2 ≥ p.ack := fun sy2 hn => by
    have h1 := hg.ack_
    have h2 := h'.nx
    have h3 := h'.ln
    have h4 := h'.ac
    have h5 := h'.cS
    have ek : ackN sy.next p.ack Ly.length = p.ack - (F + a') := by
      unfold ackN
      split <;> omega
    rw [ek]
    refine ⟨a' + (p.ack - (F + a')), ⟨by rw [hn, h2], by rw [List.length_drop]; omega, fun i x hx => ?_, h'.wn, by omega, h5, h'.kp⟩, by omega, by omega⟩
    rw [List.getElem?_drop] at hx
    obtain ⟨g1, g2⟩ := h'.lx _ _ hx
    refine ⟨by omega, ?_⟩
    rw [← g2]
    congr 1
    omega
  cases hh : p.has with
  | false =>
    have e : hearP sy Ly Ky p = (sy, Ly.drop (ackN sy.next p.ack Ly.length), Ky, []) := by
      unfold hearP
      rw [if_pos hm, if_neg (by simp [hh])]
    rw [e]
    obtain ⟨a2, d2, g1, g2⟩ := hdrop sy rfl
    have hw := h.wn
    refine ⟨a2, c, h, d2, by simp, Nat.le_refl _, g1, g2, fun x => by simp at x, ?_⟩
    rw [← hw, Bool.or_false]
  | true =>
    obtain ⟨j, hq, hB⟩ := hg.has_ hh
    obtain ⟨k1, k2⟩ := keepP_dir h.kp hq hB
    obtain ⟨c2, r1, r2, r3, r4, r5, r6⟩ := comeP_dir F S hF (keepP (F + c) Ky p.seq p.B).length (keepP (F + c) Ky p.seq p.B) c (Nat.le_refl _) k1 h.cS
    have e : hearP sy Ly Ky p = ({ sy with owed := true, want := F + c2 }, Ly.drop (ackN sy.next p.ack Ly.length), (comeP (keepP (F + c) Ky p.seq p.B).length (keepP (F + c) Ky p.seq p.B) (F + c)).1, (comeP (keepP (F + c) Ky p.seq p.B).length (keepP (F + c) Ky p.seq p.B) (F + c)).2.2) := by
      unfold hearP
      rw [if_pos hm, if_pos hh, h.wn, r1]
    rw [e]
    obtain ⟨a2, d2, g1, g2⟩ := hdrop { sy with owed := true, want := F + c2 } rfl
    refine ⟨a2, c2, ⟨h.nx, h.ln, h.lx, rfl, Nat.le_trans h.ac r2, r3, r5⟩, d2, r4, r2, g1, g2, fun _ hs => ?_, ?_⟩
    · rcases Nat.lt_or_ge j c with hj | hj
      · omega
      · obtain rfl : j = c := by omega
        have := r6 (k2 rfl)
        omega
    · simp

end Go.Proofs.Ytnagbiicpecamaa
