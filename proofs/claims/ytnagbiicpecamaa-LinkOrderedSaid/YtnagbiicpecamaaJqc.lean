/-
  The closing rounds: told and heard in turns, all comes. Plain mathematics.
-/
import Derived.Test.YtnagbiicpecamaaJqb
namespace Go.Proofs.Ytnagbiicpecamaa
set_option linter.unusedSimpArgs false
set_option linter.unusedVariables false
open Go.RowKit Go.Maps Go.Sort

def En.due (x : En) (now : Int) : Prop := ∀ z ∈ x.L, dueP now x.s.again z = true
theorem due_later {x : En} {now now' : Int} (h : ∀ z ∈ x.L, z.2.2.2 ≤ now) (hn : now + 6 ≤ now') (ha : x.s.again ≤ 6) : x.due now' := by
  intro z hz
  have := h z hz
  unfold dueP dueB
  simp
  right
  omega
theorem fOutP_due {x : En} {now : Int} (h : x.due now) : fOutP x.s now x.L = if x.L = [] ∧ x.s.owed = true then [(x.s.mn, x.s.ml, x.s.pn, x.s.pl, 0, x.s.want, false, [])] else (x.L.take 8).map (puP x.s) := by
  have e : (x.L.take 8).filter (dueP now x.s.again) = x.L.take 8 := List.filter_eq_self.2 fun z hz => h z (List.mem_of_mem_take hz)
  unfold fOutP
  rw [e]
  have e2 : ((x.L.take 8).length = 0) = (x.L = []) := by
    apply propext
    rw [List.length_take]
    constructor
    · intro h
      exact List.length_eq_zero_iff.1 (by omega)
    · intro h
      rw [h]
      rfl
  have e3 : ((x.L.take 8).length = 0 ∧ x.s.owed = true) ↔ (x.L = [] ∧ x.s.owed = true) := by rw [e2]
  by_cases hc : x.L = [] ∧ x.s.owed = true
  · rw [if_pos hc, if_pos (e3.2 hc)]
  · rw [if_neg hc, if_neg (fun h => hc (e3.1 h))]
theorem fOutP_len {x : En} {now : Int} (h : x.due now) : (fOutP x.s now x.L).length = if x.L = [] then (if x.s.owed = true then 1 else 0) else min 8 x.L.length := by
  rw [fOutP_due h]
  by_cases hl : x.L = []
  · rw [if_pos hl]
    cases ho : x.s.owed with
    | true => simp [hl]
    | false => simp [hl]
  · rw [if_neg (fun hc => hl hc.1), if_neg hl, List.length_map, List.length_take]
/-- one end tells at a time, the other one hears: behind k packets. -/
structure Hf (F : Nat) (S S' : List (List UInt8)) (x y : En) (a c a' c' : Nat) (now : Int) (k : Nat) (yk : En) (ck ak : Nat) : Prop where
  fl : Fl F S S' (x.out now) yk a ck ak c' now
  cc : c ≤ ck
  aa : a' ≤ ak
  pr : a + min k x.L.length ≤ ck
  ak : 1 ≤ k → c' ≤ ak
  ow : 1 ≤ k → x.L ≠ [] → yk.s.owed = true
theorem Hf.start {F : Nat} {S S' : List (List UInt8)} {x y : En} {a c a' c' : Nat} {now : Int} (h : Fl F S S' x y a c a' c' now) : Hf F S S' x y a c a' c' now 0 y c a' :=
  ⟨h.out, Nat.le_refl _, Nat.le_refl _, by have := h.d.ac; omega, fun h => by omega, fun h => by omega⟩
theorem Hf.step {F : Nat} {S S' : List (List UInt8)} {x y : En} {a c a' c' : Nat} {now : Int} {k : Nat} {yk : En} {ck ak : Nat} (hF : F + S.length < 18446744073709551615) (h0 : Fl F S S' x y a c a' c' now) (hd : x.due now) (h : Hf F S S' x y a c a' c' now k yk ck ak) {p : Hp} (hp : (fOutP x.s now x.L)[k]? = some p.pu) :
    p.mine yk.s ∧ ∃ ak2 ck2, Hf F S S' x y a c a' c' now (k + 1) (yk.hear p) ck2 ak2 ∧ (hearP yk.s yk.L yk.K p).2.2.2.map (·.2) = (S.drop ck).take (ck2 - ck) ∧ ck ≤ ck2 := by
  obtain ⟨hg, _, hak⟩ := h0.told (List.mem_of_getElem? hp)
  have hm : p.mine yk.s := by
    obtain ⟨_, hm, _⟩ := h0.told (List.mem_of_getElem? hp)
    obtain ⟨m1, m2, m3, m4⟩ := hm
    have n0 := h0.nm
    have n1 := h.fl.nm
    have e1 : x.s.mn = yk.s.pn := n1.1
    have e2 : x.s.ml = yk.s.pl := n1.2.1
    have e3 : yk.s.mn = x.s.pn := n1.2.2.1
    have e4 : yk.s.ml = x.s.pl := n1.2.2.2
    exact ⟨m1.trans (n0.1.symm.trans e1), m2.trans (n0.2.1.symm.trans e2), m3.trans (n0.2.2.1.trans e3.symm), m4.trans (n0.2.2.2.trans e4.symm)⟩
  obtain ⟨a2, c2, r1, r2, r3, r4, r5, r6, r7⟩ := h.fl.hear hF hm hg
  refine ⟨hm, a2, c2, ⟨r1, Nat.le_trans h.cc r3, Nat.le_trans h.aa r4, ?_, fun _ => by omega, fun _ hl => ?_⟩, r2, r3⟩
  · rcases Nat.lt_or_ge k x.L.length with hk | hk
    · have hne : x.L ≠ [] := fun e => by rw [e] at hk; simp at hk
      rw [fOutP_due hd, if_neg (fun hc => hne hc.1), List.getElem?_map] at hp
      cases hw : (x.L.take 8)[k]? with
      | none => rw [hw] at hp; cases hp
      | some z =>
        rw [hw] at hp
        have e : puP x.s z = p.pu := by simpa using hp
        have hz : x.L[k]? = some z := by
          rw [List.getElem?_take] at hw
          split at hw
          · exact hw
          · cases hw
        obtain ⟨g1, g2⟩ := h0.d.lx k z hz
        have q1 : p.seq = z.1 := (congrArg (fun u : Pu => u.2.2.2.2.1) e).symm
        have q2 : p.has = true := (congrArg (fun u : Pu => u.2.2.2.2.2.2.1) e).symm
        have hpr := h.pr
        have := r6 q2 (by omega)
        omega
    · have := h.pr
      omega
  · rw [fOutP_due hd, if_neg (fun hc => hl hc.1), List.getElem?_map] at hp
    cases hw : (x.L.take 8)[k]? with
    | none => rw [hw] at hp; cases hp
    | some z =>
      rw [hw] at hp
      have e : puP x.s z = p.pu := by simpa using hp
      have q2 : p.has = true := (congrArg (fun u : Pu => u.2.2.2.2.2.2.1) e).symm
      rw [r7, q2]
      simp
/-- behind all of them. -/
structure Hz (F : Nat) (S S' : List (List UInt8)) (x y : En) (a c a' c' : Nat) (now : Int) (y2 : En) (c2 a2 : Nat) : Prop where
  fl : Fl F S S' (x.out now) y2 a c2 a2 c' now
  cc : c ≤ c2
  aa : a' ≤ a2
  pr : a + min 8 x.L.length ≤ c2
  ak : x.s.owed = true ∨ x.L ≠ [] → c' ≤ a2
  ow : x.L ≠ [] → y2.s.owed = true
theorem Hf.done {F : Nat} {S S' : List (List UInt8)} {x y : En} {a c a' c' : Nat} {now : Int} {yk : En} {ck ak : Nat} (hd : x.due now) (h : Hf F S S' x y a c a' c' now (fOutP x.s now x.L).length yk ck ak) : Hz F S S' x y a c a' c' now yk ck ak := by
  have hl := fOutP_len hd
  by_cases he : x.L = []
  · rw [if_pos he] at hl
    refine ⟨h.fl, h.cc, h.aa, by have := h.pr; rw [he] at this ⊢; simp at this ⊢; omega, fun ho => ?_, fun hn => absurd he hn⟩
    rcases ho with ho | ho
    · rw [if_pos ho] at hl
      exact h.ak (by omega)
    · exact absurd he ho
  · rw [if_neg he] at hl
    have h1 : 1 ≤ x.L.length := by
      cases hx : x.L with
      | nil => exact absurd hx he
      | cons z l => simp
    have := h.pr
    rw [hl] at this
    exact ⟨h.fl, h.cc, h.aa, by omega, fun _ => h.ak (by omega), fun _ => h.ow (by omega) he⟩
/-- behind i rounds. -/
structure Rd (F : Nat) (S S' : List (List UInt8)) (x y : En) (a c a' c' : Nat) (now : Int) (i : Nat) : Prop where
  fl : Fl F S S' x y a c a' c' now
  p0 : S.length ≤ a + (32 - 8 * i)
  p1 : S'.length ≤ c' + (32 - 8 * i)
  q1 : 1 ≤ i → x.s.owed = true ∨ S'.length ≤ a'
  q2 : 1 ≤ i → S'.length ≤ a' + (32 - 8 * (i - 1))
theorem Rd.start {F : Nat} {S S' : List (List UInt8)} {x y : En} {a c a' c' : Nat} {now : Int} (h : Fl F S S' x y a c a' c' now) : Rd F S S' x y a c a' c' now 0 := by
  have h1 := h.d.ln
  have h2 := h.d'.ln
  have h3 := h.l
  have h4 := h.l'
  have h5 := h.d'.ac
  exact ⟨h, by omega, by omega, fun h => by omega, fun h => by omega⟩
theorem nil_of {L : List LPu} (h : L.length = 0) : L = [] := List.length_eq_zero_iff.1 h
theorem Rd.step {F : Nat} {S S' : List (List UInt8)} {x y y2 x2 : En} {a c a' c' c2 a2 c2' a3 : Nat} {now now' : Int} {i : Nat} (h : Rd F S S' x y a c a' c' now i)
    (h1 : Hz F S S' x y a c a' c' now' y2 c2 a2) (h2 : Hz F S' S y2 (x.out now') a2 c' a c2 now' x2 c2' a3) : Rd F S S' x2 (y2.out now') a3 c2 a2 c2' now' (i + 1) := by
  have n0 := h.fl.d.ln
  have n1 := h1.fl.d'.ln
  have n2 := h1.fl.l'
  have p0 := h.p0
  have p1 := h.p1
  have k1 := h1.pr
  have k2 := h2.pr
  have k3 := h1.aa
  have k4 := h2.aa
  have key : S'.length ≤ a2 + (32 - 8 * i) := by
    rcases Nat.eq_zero_or_pos i with rfl | hi
    · omega
    · rcases h.q1 hi with ho | ho
      · have := h1.ak (Or.inl ho)
        omega
      · omega
  refine ⟨h2.fl.swap, ?_, by omega, fun _ => ?_, fun _ => by simpa using key⟩
  · rcases Nat.eq_zero_or_pos x.L.length with hz | hz
    · omega
    · have hne : x.L ≠ [] := fun e => by rw [e] at hz; simp at hz
      have := h2.ak (Or.inl (h1.ow hne))
      omega
  · rcases Nat.eq_zero_or_pos y2.L.length with hz | hz
    · right
      omega
    · left
      exact h2.ow fun e => by rw [e] at hz; simp at hz
theorem Rd.done {F : Nat} {S S' : List (List UInt8)} {x y : En} {a c a' c' : Nat} {now : Int} {i : Nat} (h : Rd F S S' x y a c a' c' now i) (hi : 5 ≤ i) : c = S.length ∧ c' = S'.length ∧ x.L = [] ∧ y.L = [] := by
  have n0 := h.fl.d.ln
  have n1 := h.fl.d'.ln
  have c0 := h.fl.d.cS
  have c1 := h.fl.d'.cS
  have a0 := h.fl.d.ac
  have a1 := h.fl.d'.ac
  have p0 := h.p0
  have q2 := h.q2 (by omega)
  exact ⟨by omega, by omega, nil_of (by omega), nil_of (by omega)⟩

end Go.Proofs.Ytnagbiicpecamaa
