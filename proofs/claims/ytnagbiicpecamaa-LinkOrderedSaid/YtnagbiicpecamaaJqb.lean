/-
  A field of two ends, in plain lists: Send, Out, Hear. Plain mathematics.
-/
import Derived.Test.YtnagbiicpecamaaJqa
namespace Go.Proofs.Ytnagbiicpecamaa
set_option linter.unusedSimpArgs false
set_option linter.unusedVariables false
open Go.RowKit Go.Maps Go.Sort

def dueP (now again : Int) (x : LPu) : Bool := dueB x.2.2.1 x.2.2.2 now again
def updP (now again : Int) (y : LPu) : LPu := if dueB y.2.2.1 y.2.2.2 now again then (y.1, y.2.1, true, now) else y
def outLp (now again : Int) (L : List LPu) (k : Nat) : List LPu := (L.take k).map (updP now again) ++ L.drop k
def puP (s : Sc) (x : LPu) : Pu := (s.mn, s.ml, s.pn, s.pl, x.1, s.want, true, x.2.1)
def fOutP (s : Sc) (now : Int) (L : List LPu) : List Pu :=
  if ((L.take 8).filter (dueP now s.again)).length = 0 ∧ s.owed = true then [(s.mn, s.ml, s.pn, s.pl, 0, s.want, false, [])] else ((L.take 8).filter (dueP now s.again)).map (puP s)
theorem outL_lp (now again : Int) (L : List Ls) (k : Nat) : (outL now again L k).map Ls.p = outLp now again (L.map Ls.p) k := by
  have hu : ∀ x : Ls, (upd now again x).p = updP now again x.p := fun x => by
    unfold upd updP
    show _ = if dueB x.told x.at_ now again = true then _ else _
    split <;> rfl
  unfold outL outLp
  rw [List.map_append, List.map_drop, List.map_map, ← List.map_take, List.map_map]
  congr 1
  apply List.map_congr_left
  intro x _
  exact hu x
theorem fOut_lp (s : Sc) (now : Int) (L : List Ls) : fOut s now L = fOutP s now (L.map Ls.p) := by
  have hf : (dueL' now s.again L 8).map Ls.p = ((L.map Ls.p).take 8).filter (dueP now s.again) := by
    unfold dueL'
    rw [← List.map_take, List.filter_map]
    rfl
  have hl : (dueL' now s.again L 8).length = (((L.map Ls.p).take 8).filter (dueP now s.again)).length := by rw [← hf, List.length_map]
  have hp : (dueL' now s.again L 8).map (puOf s) = ((dueL' now s.again L 8).map Ls.p).map (puP s) := by rw [List.map_map]; rfl
  unfold fOut fOutP
  rw [hl, hp, hf]
/-- what a packet says. -/
def Hp.pu (p : Hp) : Pu := (p.fn, p.fl, p.tn, p.tl, p.seq, p.ack, p.has, p.B)
structure En where
  s : Sc
  L : List LPu
  K : List KPu
structure Fl (F : Nat) (S S' : List (List UInt8)) (x y : En) (a c a' c' : Nat) (now : Int) : Prop where
  d : Dir F S x.s x.L y.s y.K a c
  d' : Dir F S' y.s y.L x.s x.K a' c'
  l : x.L.length ≤ 32
  l' : y.L.length ≤ 32
  t : ∀ z ∈ x.L, z.2.2.2 ≤ now
  t' : ∀ z ∈ y.L, z.2.2.2 ≤ now
  nm : x.s.mn = y.s.pn ∧ x.s.ml = y.s.pl ∧ y.s.mn = x.s.pn ∧ y.s.ml = x.s.pl
  ag : x.s.again = y.s.again
theorem Fl.swap {F : Nat} {S S' : List (List UInt8)} {x y : En} {a c a' c' : Nat} {now : Int} (h : Fl F S S' x y a c a' c' now) : Fl F S' S y x a' c' a c now :=
  ⟨h.d', h.d, h.l', h.l, h.t', h.t, ⟨h.nm.2.2.1, h.nm.2.2.2, h.nm.1, h.nm.2.1⟩, h.ag.symm⟩
theorem Fl.later {F : Nat} {S S' : List (List UInt8)} {x y : En} {a c a' c' : Nat} {now now' : Int} (h : Fl F S S' x y a c a' c' now) (hn : now ≤ now') : Fl F S S' x y a c a' c' now' :=
  ⟨h.d, h.d', h.l, h.l', fun z hz => Int.le_trans (h.t z hz) hn, fun z hz => Int.le_trans (h.t' z hz) hn, h.nm, h.ag⟩
def En.send (x : En) (X : List UInt8) : En := ⟨sSend x.s x.L.length, lSend x.s x.L X, x.K⟩
def En.out (x : En) (now : Int) : En := ⟨{ x.s with owed := false }, outLp now x.s.again x.L 8, x.K⟩
def En.hear (y : En) (p : Hp) : En := ⟨(hearP y.s y.L y.K p).1, (hearP y.s y.L y.K p).2.1, (hearP y.s y.L y.K p).2.2.1⟩
theorem Fl.send {F : Nat} {S S' : List (List UInt8)} {x y : En} {a c a' c' : Nat} {now : Int} (h : Fl F S S' x y a c a' c' now) (hn : 0 ≤ now) (X : List UInt8) (hr : fSendR x.s x.L.length = 0) : Fl F (S ++ [X]) S' (x.send X) y a c a' c' now := by
  have e1 : (x.send X).s = { x.s with next := x.s.next + 1 } := by show sSend _ _ = _; unfold sSend; rw [if_pos hr]
  have e2 : (x.send X).L = x.L ++ [(x.s.next, X, false, 0)] := by show lSend _ _ _ = _; unfold lSend; rw [if_pos hr]
  have h32 : ¬ 32 ≤ x.L.length := by
    intro h2
    unfold fSendR at hr
    by_cases h1 : x.s.next = 18446744073709551615
    · rw [if_pos h1] at hr
      exact absurd hr (by decide)
    · rw [if_neg h1, if_pos h2] at hr
      exact absurd hr (by decide)
  have hnx := h.d.nx
  have hln := h.d.ln
  refine ⟨⟨?_, ?_, fun i z hz => ?_, h.d.wn, h.d.ac, ?_, fun z hz => ?_⟩, ?_, ?_, h.l', fun z hz => ?_, h.t', ?_, ?_⟩
  · rw [e1]
    show x.s.next + 1 = _
    simp
    omega
  · rw [e2]
    simp
    omega
  · rw [e2] at hz
    rcases Nat.lt_or_ge i x.L.length with hi | hi
    · rw [List.getElem?_append_left hi] at hz
      obtain ⟨g1, g2⟩ := h.d.lx i z hz
      exact ⟨g1, by rw [List.getElem?_append_left (by omega)]; exact g2⟩
    · rw [List.getElem?_append_right hi] at hz
      obtain ⟨hi0, rfl⟩ : i - x.L.length = 0 ∧ z = (x.s.next, X, false, 0) := by
        cases hk : i - x.L.length with
        | zero => rw [hk] at hz; exact ⟨rfl, by simpa using hz.symm⟩
        | succ k => rw [hk] at hz; simp at hz
      have ei : a + i = S.length := by omega
      refine ⟨by show x.s.next = _; omega, ?_⟩
      rw [ei]
      simp
  · have := h.d.cS
    simp
    omega
  · obtain ⟨j, g1, g2, g3, g4⟩ := h.d.kp z hz
    exact ⟨j, g1, g2, g3, by rw [List.getElem?_append_left (List.getElem?_eq_some_iff.1 g4).1]; exact g4⟩
  · rw [e1]
    exact ⟨h.d'.nx, h.d'.ln, h.d'.lx, h.d'.wn, h.d'.ac, h.d'.cS, h.d'.kp⟩
  · rw [e2]
    simp
    omega
  · rw [e2] at hz
    rcases List.mem_append.1 hz with hz | hz
    · exact h.t z hz
    · obtain rfl : z = (x.s.next, X, false, 0) := by simpa using hz
      exact hn
  · rw [e1]
    exact h.nm
  · rw [e1]
    exact h.ag
theorem Fl.nosend {F : Nat} {S S' : List (List UInt8)} {x y : En} {a c a' c' : Nat} {now : Int} (h : Fl F S S' x y a c a' c' now) (X : List UInt8) (hr : fSendR x.s x.L.length ≠ 0) : Fl F S S' (x.send X) y a c a' c' now := by
  have e : x.send X = x := by
    show En.mk (sSend _ _) (lSend _ _ _) _ = _
    unfold sSend lSend
    rw [if_neg hr, if_neg hr]
  rw [e]
  exact h
theorem outLp_get {now again : Int} {L : List LPu} {i : Nat} {z : LPu} (h : (outLp now again L 8)[i]? = some z) : ∃ w, L[i]? = some w ∧ z.1 = w.1 ∧ z.2.1 = w.2.1 ∧ (z.2.2.2 = w.2.2.2 ∨ z.2.2.2 = now) := by
  unfold outLp at h
  rcases Nat.lt_or_ge i (L.take 8).length with hi | hi
  · rw [List.getElem?_append_left (by simpa using hi), List.getElem?_map] at h
    cases hw : (L.take 8)[i]? with
    | none => rw [hw] at h; cases h
    | some w =>
      rw [hw] at h
      obtain rfl : updP now again w = z := by simpa using h
      refine ⟨w, ?_, ?_⟩
      · rw [← hw, List.getElem?_take, if_pos (by rw [List.length_take] at hi; omega)]
      · unfold updP
        split
        · exact ⟨rfl, rfl, Or.inr rfl⟩
        · exact ⟨rfl, rfl, Or.inl rfl⟩
  · rw [List.getElem?_append_right (by simpa using hi), List.getElem?_drop] at h
    refine ⟨z, ?_, rfl, rfl, Or.inl rfl⟩
    rw [← h]
    rw [List.length_take] at hi
    rw [List.length_map, List.length_take]
    rcases Nat.lt_or_ge L.length 8 with h8 | h8
    · have : L.length ≤ i := by omega
      rw [List.getElem?_eq_none this, List.getElem?_eq_none (by omega)]
    · congr 1
      omega
theorem outLp_len (now again : Int) (L : List LPu) : (outLp now again L 8).length = L.length := by
  unfold outLp
  rw [List.length_append, List.length_map, List.length_take, List.length_drop]
  omega
theorem Fl.out {F : Nat} {S S' : List (List UInt8)} {x y : En} {a c a' c' : Nat} {now : Int} (h : Fl F S S' x y a c a' c' now) : Fl F S S' (x.out now) y a c a' c' now := by
  refine ⟨⟨h.d.nx, ?_, fun i z hz => ?_, h.d.wn, h.d.ac, h.d.cS, h.d.kp⟩, ⟨h.d'.nx, h.d'.ln, h.d'.lx, h.d'.wn, h.d'.ac, h.d'.cS, h.d'.kp⟩, ?_, h.l', fun z hz => ?_, h.t', h.nm, h.ag⟩
  · show (outLp _ _ _ _).length + a = _
    rw [outLp_len]
    exact h.d.ln
  · obtain ⟨w, hw, g1, g2, _⟩ := outLp_get hz
    rw [g1, g2]
    exact h.d.lx i w hw
  · show (outLp _ _ _ _).length ≤ _
    rw [outLp_len]
    exact h.l
  · obtain ⟨i, hi⟩ := List.getElem?_of_mem hz
    obtain ⟨w, hw, _, _, g⟩ := outLp_get hi
    rcases g with g | g
    · rw [g]
      exact h.t w (List.mem_of_getElem? hw)
    · rw [g]
      exact Int.le_refl _
/-- what an end tells is good. -/
theorem Fl.told {F : Nat} {S S' : List (List UInt8)} {x y : En} {a c a' c' : Nat} {now : Int} (h : Fl F S S' x y a c a' c' now) {p : Hp} (hp : p.pu ∈ fOutP x.s now x.L) : Good F S c' p ∧ p.mine y.s ∧ p.ack = F + c' := by
  have hw := h.d'.wn
  obtain ⟨n1, n2, n3, n4⟩ := h.nm
  have key : ∀ {u : Pu}, p.pu = u → (u.1 = x.s.mn ∧ u.2.1 = x.s.ml ∧ u.2.2.1 = x.s.pn ∧ u.2.2.2.1 = x.s.pl ∧ u.2.2.2.2.2.1 = x.s.want) → p.mine y.s ∧ p.ack = F + c' := by
    rintro u rfl ⟨g1, g2, g3, g4, g5⟩
    exact ⟨⟨g1.trans n1, g2.trans n2, g3.trans n3.symm, g4.trans n4.symm⟩, g5.trans hw⟩
  unfold fOutP at hp
  split at hp
  · have e : p.pu = (x.s.mn, x.s.ml, x.s.pn, x.s.pl, 0, x.s.want, false, []) := by simpa using hp
    obtain ⟨k1, k2⟩ := key e ⟨rfl, rfl, rfl, rfl, rfl⟩
    have hh : p.has = false := congrArg (fun u : Pu => u.2.2.2.2.2.2.1) e
    exact ⟨⟨fun hc => (by rw [hh] at hc; cases hc), Nat.le_of_eq k2⟩, k1, k2⟩
  · obtain ⟨z, hz, e⟩ := List.mem_map.1 hp
    obtain ⟨k1, k2⟩ := key e.symm ⟨rfl, rfl, rfl, rfl, rfl⟩
    have hq : p.seq = z.1 := (congrArg (fun u : Pu => u.2.2.2.2.1) e).symm
    have hB : p.B = z.2.1 := (congrArg (fun u : Pu => u.2.2.2.2.2.2.2) e).symm
    obtain ⟨i, hi⟩ := List.getElem?_of_mem (List.mem_of_mem_take (List.mem_filter.1 hz).1)
    obtain ⟨g1, g2⟩ := h.d.lx i z hi
    exact ⟨⟨fun _ => ⟨a + i, by omega, by rw [g2, hB]⟩, Nat.le_of_eq k2⟩, k1, k2⟩
theorem Fl.hear {F : Nat} {S S' : List (List UInt8)} {x y : En} {a c a' c' : Nat} {now : Int} (h : Fl F S S' x y a c a' c' now) (hF : F + S.length < 18446744073709551615) {p : Hp} (hm : p.mine y.s) (hg : Good F S c' p) :
    ∃ a2 c2, Fl F S S' x (y.hear p) a c2 a2 c' now ∧ (hearP y.s y.L y.K p).2.2.2.map (·.2) = (S.drop c).take (c2 - c) ∧ c ≤ c2 ∧ a' ≤ a2 ∧ F + a2 ≥ p.ack ∧ (p.has = true → p.seq ≤ F + c → p.seq + 1 ≤ F + c2) ∧ (y.hear p).s = { y.s with want := F + c2, owed := y.s.owed || p.has } := by
  obtain ⟨a2, c2, r1, r2, r3, r4, r5, r6, r7, r8⟩ := hear_dir hF h.d h.d' hm hg
  have hL : (y.hear p).L.length ≤ y.L.length ∧ ∀ z ∈ (y.hear p).L, z ∈ y.L := by
    have : (y.hear p).L = y.L ∨ ∃ k, (y.hear p).L = y.L.drop k := by
      show (hearP y.s y.L y.K p).2.1 = _ ∨ ∃ k, (hearP y.s y.L y.K p).2.1 = _
      unfold hearP
      rw [if_pos hm]
      cases p.has with
      | true => exact Or.inr ⟨_, rfl⟩
      | false => exact Or.inr ⟨_, rfl⟩
    rcases this with e | ⟨k, e⟩
    · rw [e]
      exact ⟨Nat.le_refl _, fun z hz => hz⟩
    · rw [e]
      exact ⟨by rw [List.length_drop]; omega, fun z hz => List.mem_of_mem_drop hz⟩
  refine ⟨a2, c2, ⟨r1, r2, h.l, Nat.le_trans hL.1 h.l', h.t, fun z hz => h.t' z (hL.2 z hz), ?_, ?_⟩, r3, r4, r5, r6, r7, r8⟩
  · rw [show (y.hear p).s = _ from r8]
    exact h.nm
  · rw [show (y.hear p).s = _ from r8]
    exact h.ag
theorem take_more {S : List (List UInt8)} {c c2 : Nat} (h : c ≤ c2) : S.take c2 = S.take c ++ (S.drop c).take (c2 - c) := by
  have e : c2 = c + (c2 - c) := by omega
  rw [e, List.take_add]
  congr 2
  omega

end Go.Proofs.Ytnagbiicpecamaa
