/-
  The document's Hear, its plain side and what it shares. Condition: the link lies in memory.
-/
import Derived.Test.YtnagbiicpecamaaJdk
import Derived.Test.YtnagbiicpecamaaJah
namespace Go.Proofs.Ytnagbiicpecamaa
set_option linter.unusedSimpArgs false
set_option linter.unusedVariables false
open Go.RowKit Go.Maps Go.Sort

/-- what is kept is ahead of what is wanted, by less than eight. -/
structure KW (w : Nat) (K : List Kr) : Prop where
  ap : K.Pairwise fun x y => x.seq ≠ y.seq
  rg : ∀ x ∈ K, w < x.seq ∧ x.seq < w + 8 ∧ x.seq ≤ 18446744073709551615
theorem KW.none {w : Nat} {K : List Kr} (h : KW w K) : fK K w = none := fK_out fun y hy => by have := (h.rg y hy).1; omega
theorem fKp_none {K : List Kr} {q : Nat} (h : fK K q = none) : fP (K.map Kr.p) q = none := by rw [fP_map, h]; rfl
theorem comeP_none {f : Nat} {K : List KPu} {w : Nat} (h : fP K w = none) : comeP f K w = (K, w, []) := by
  cases f with
  | zero => rfl
  | succ f => simp [comeP, h]
theorem hear_no {s : Sc} {L : List Ls} {K : List Kr} {p : Hp} (h : ¬ p.mine s) : hearP s L (K.map Kr.p) p = (s, L, K.map Kr.p, []) := by
  unfold hearP
  rw [if_neg h]
theorem hear_bare {s : Sc} {L : List Ls} {K : List Kr} {p : Hp} (h : p.mine s) (hh : p.has = false) : hearP s L (K.map Kr.p) p = (s, L.drop (ackN s.next p.ack L.length), K.map Kr.p, []) := by
  unfold hearP
  rw [if_pos h, if_neg (by simp [hh])]
/-- a body that is out of reach, or kept already. -/
theorem hear_same {s : Sc} {L : List Ls} {K : List Kr} {p : Hp} (h : p.mine s) (hh : p.has = true) (hK : KW s.want K) (hs : p.seq < s.want ∨ 8 ≤ p.seq - s.want ∨ (fK K p.seq).isSome = true) :
    hearP s L (K.map Kr.p) p = ({ s with owed := true }, L.drop (ackN s.next p.ack L.length), K.map Kr.p, []) := by
  have e : keepP s.want (K.map Kr.p) p.seq p.B = K.map Kr.p := by
    unfold keepP
    rw [if_pos]
    rw [fP_map]
    simpa using hs
  unfold hearP
  rw [if_pos h, if_pos hh, e, comeP_none (fKp_none hK.none)]
/-- a body that is kept from now on. -/
theorem hear_keep {s : Sc} {L : List Ls} {K : List Kr} {p : Hp} (h : p.mine s) (hh : p.has = true) (hK : KW s.want K) (h1 : s.want < p.seq) (h2 : p.seq - s.want < 8) (h3 : fK K p.seq = none) (x : Kr) (hx : x.p = (p.seq, p.B)) :
    hearP s L (K.map Kr.p) p = ({ s with owed := true }, L.drop (ackN s.next p.ack L.length), (K ++ [x]).map Kr.p, []) := by
  have e : keepP s.want (K.map Kr.p) p.seq p.B = (K ++ [x]).map Kr.p := by
    unfold keepP
    rw [if_neg]
    · rw [List.map_append, List.map_cons, hx]
      rfl
    · rw [fP_map, h3]
      simp
      omega
  have hn : fK (K ++ [x]) s.want = none := fK_out fun y hy => by
    rcases List.mem_append.1 hy with hy | hy
    · have := (hK.rg y hy).1
      omega
    · obtain rfl : y = x := by simpa using hy
      have : y.seq = p.seq := congrArg Prod.fst hx
      omega
  unfold hearP
  rw [if_pos h, if_pos hh, e, comeP_none (fKp_none hn)]
/-- the body that is wanted. -/
theorem hear_come {s : Sc} {L : List Ls} {K : List Kr} {p : Hp} (h : p.mine s) (hh : p.has = true) (hK : KW s.want K) (h1 : p.seq = s.want) (x : Kr) (hx : x.p = (p.seq, p.B)) :
    hearP s L (K.map Kr.p) p = ({ s with owed := true, want := (comeF K.length K (inc s.want)).2.1 }, L.drop (ackN s.next p.ack L.length), (comeF K.length K (inc s.want)).1.map Kr.p, (x :: (comeF K.length K (inc s.want)).2.2).map Kr.p) := by
  have e : keepP s.want (K.map Kr.p) p.seq p.B = (K ++ [x]).map Kr.p := by
    unfold keepP
    rw [if_neg]
    · rw [List.map_append, List.map_cons, hx]
      rfl
    · rw [fP_map, h1, hK.none]
      simp
  have hxs : x.seq = s.want := (congrArg Prod.fst hx).trans h1
  have hf : fK (K ++ [x]) s.want = some x := by
    unfold fK
    rw [List.find?_append]
    have := hK.none
    unfold fK at this
    rw [this]
    simp [hxs]
  have ho : outN (K ++ [x]) s.want = K := by
    unfold outN
    rw [List.filter_append]
    have e1 : K.filter (fun y => decide (y.seq ≠ s.want)) = K := List.filter_eq_self.2 fun y hy => by have := (hK.rg y hy).1; simp; omega
    rw [e1]
    simp [hxs]
  have hl : ((K ++ [x]).map Kr.p).length = K.length + 1 := by simp
  unfold hearP
  rw [if_pos h, if_pos hh, e, hl, comeP_map, comeF_some hf, ho]
theorem inc_small {w : Nat} (h : w < 18446744073709551615) : inc w = w + 1 := by unfold inc; omega
/-- how the kept ones stand while they come. -/
structure CW (w i : Nat) (K : List Kr) : Prop where
  ap : K.Pairwise fun x y => x.seq ≠ y.seq
  rg : ∀ x ∈ K, w + i < x.seq ∧ x.seq < w + 8 ∧ x.seq ≤ 18446744073709551615
theorem CW.step {w i u : Nat} {K : List Kr} {x : Kr} (h : CW w i K) (hu : u = (w + 1 + i) % 18446744073709551616) (hf : fK K u = some x) : CW w (i + 1) (outN K u) ∧ inc u = (w + 1 + (i + 1)) % 18446744073709551616 ∧ i < 7 := by
  obtain ⟨hx, hxu⟩ := fK_some hf
  have h1 := h.rg x hx
  have hlt : w + 1 + i ≤ 18446744073709551615 := by omega
  have hue : u = w + 1 + i := by omega
  refine ⟨⟨h.ap.filter _, fun y hy => ?_⟩, by unfold inc; omega, by omega⟩
  obtain ⟨h2, h3⟩ := mem_outN.1 hy
  have := h.rg y h2
  omega
/-- the same, once what came has come. -/
theorem comeF_KW : ∀ (f i w u : Nat) (K : List Kr), K.length ≤ f → CW w i K → u = (w + 1 + i) % 18446744073709551616 → w ≤ 18446744073709551615 → KW (comeF f K u).2.1 (comeF f K u).1 ∧ (comeF f K u).2.1 ≤ 18446744073709551615 ∧ (comeF f K u).1.length ≤ K.length
  | f, i, w, u, K, hl, hC, hu, hw => by
    cases hf : fK K u with
    | none =>
      rw [comeF_none hf]
      refine ⟨⟨hC.ap, fun x hx => ?_⟩, by show u ≤ _; omega, Nat.le_refl _⟩
      have h1 := hC.rg x hx
      have h2 := fK_none hf x hx
      show u < x.seq ∧ x.seq < u + 8 ∧ _
      have : w + 1 + i ≤ 18446744073709551615 := by omega
      omega
    | some x =>
      obtain ⟨hx, hxu⟩ := fK_some hf
      obtain ⟨h1, h2, h3⟩ := hC.step hu hf
      have hlen := outN_len hC.ap hx
      rw [hxu] at hlen
      cases f with
      | zero => omega
      | succ f =>
        rw [comeF_some hf]
        obtain ⟨r1, r2, r3⟩ := comeF_KW f (i + 1) w (inc u) (outN K u) (by omega) h1 h2 hw
        exact ⟨r1, r2, by show (comeF f (outN K u) (inc u)).1.length ≤ _; omega⟩
theorem KW.cw {w : Nat} {K : List Kr} (h : KW w K) : CW w 0 K := ⟨h.ap, fun x hx => by have := h.rg x hx; omega⟩
end Go.Proofs.Ytnagbiicpecamaa
