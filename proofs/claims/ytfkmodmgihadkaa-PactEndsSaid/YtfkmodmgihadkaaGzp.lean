/-
  The protocol of the pact over plain states: what was chosen by a majority is what each later ballot proposes. Whatever the values are. No condition.
-/
import Derived.RowKit
namespace Go.Proofs.Ytfkmodmgihadkaa
set_option linter.unusedSimpArgs false
set_option linter.unusedVariables false

namespace Z
def up {α : Type} (R : Nat → α) (x : Nat) (d : α) : Nat → α := fun i => if i = x then d else R i
theorem up_same {α : Type} (R : Nat → α) (x : Nat) (d : α) : up R x d x = d := by simp [up]
theorem up_ne {α : Type} (R : Nat → α) {x i : Nat} (d : α) (h : i ≠ x) : up R x d i = R i := by simp [up, h]
def many (n : Nat) (p : Nat → Bool) : Nat := ((List.range n).filter p).length
theorem many_mono {n : Nat} {p q : Nat → Bool} (h : ∀ i, i < n → p i = true → q i = true) : many n p ≤ many n q := by
  unfold many
  have : ∀ L : List Nat, (∀ i ∈ L, i < n) → (L.filter p).length ≤ (L.filter q).length := by
    intro L
    induction L with
    | nil => intro _; exact Nat.le_refl _
    | cons a L ih =>
      intro hL
      have ih := ih fun i hi => hL i (List.mem_cons_of_mem _ hi)
      have ha := hL a (List.mem_cons_self ..)
      by_cases hp : p a = true
      · rw [List.filter_cons_of_pos hp, List.filter_cons_of_pos (h a ha hp)]
        simp
        exact ih
      · rw [List.filter_cons_of_neg hp]
        by_cases hq : q a = true
        · rw [List.filter_cons_of_pos hq, List.length_cons]
          omega
        · rw [List.filter_cons_of_neg hq]
          exact ih
  exact this _ fun i hi => List.mem_range.1 hi
theorem many_meet {n : Nat} {p q : Nat → Bool} (h : n < many n p + many n q) : ∃ i, i < n ∧ p i = true ∧ q i = true := by
  refine Classical.byContradiction fun hc => ?_
  have hno : ∀ i, i < n → p i = true → q i = true → False := fun i hi hp hq => hc ⟨i, hi, hp, hq⟩
  unfold many at h
  have : ∀ L : List Nat, (∀ i ∈ L, i < n) → (L.filter p).length + (L.filter q).length ≤ L.length := by
    intro L
    induction L with
    | nil => intro _; exact Nat.le_refl _
    | cons a L ih =>
      intro hL
      have ih := ih fun i hi => hL i (List.mem_cons_of_mem _ hi)
      have ha := hL a (List.mem_cons_self ..)
      by_cases hp : p a = true
      · have hq : ¬ q a = true := fun hq => hno a ha hp hq
        rw [List.filter_cons_of_pos hp, List.filter_cons_of_neg hq]
        simp
        omega
      · rw [List.filter_cons_of_neg hp]
        by_cases hq : q a = true
        · rw [List.filter_cons_of_pos hq]
          simp
          omega
        · rw [List.filter_cons_of_neg hq]
          simp
          omega
  have := this _ fun i hi => List.mem_range.1 hi
  rw [List.length_range] at this
  omega

section
variable {V : Type}
/-- an acceptor. -/
structure Xa (V : Type) where
  pr : Int
  bal : Int
  vd : V
  has : Bool
/-- a proposer: its counted ones by a letter. -/
structure Xp (V : Type) where
  bal : Int
  ph : Nat
  C : Nat → Bool
  hb : Int
  hd : V
  hh : Bool
  vd : V
/-- what was ever proposed, and who ever accepted it. -/
structure Xg (V : Type) where
  P : Int → Option V
  T : Int → Nat → Bool
def upI {α : Type} (R : Int → α) (x : Int) (d : α) : Int → α := fun i => if i = x then d else R i
theorem upI_same {α : Type} (R : Int → α) (x : Int) (d : α) : upI R x d x = d := by simp [upI]
theorem upI_ne {α : Type} (R : Int → α) {x i : Int} (d : α) (h : i ≠ x) : upI R x d i = R i := by simp [upI, h]
/-- nothing else was, or will be, chosen below. -/
def Safe (n : Nat) (A : Nat → Xa V) (g : Xg V) (b : Int) (v : V) : Prop :=
  ∃ S : Nat → Bool, n < 2 * many n S ∧ (∀ i, i < n → S i = true → b ≤ (A i).pr) ∧
    ((∀ i, i < n → S i = true → ∀ c, c < b → g.T c i = false) ∨ ∃ c, c < b ∧ g.P c = some v ∧ ∀ i, i < n → S i = true → ∀ e, c < e → e < b → g.T e i = false)
/-- what one who asks was told. -/
structure Asked (n : Nat) (A : Nat → Xa V) (g : Xg V) (d : Xp V) : Prop where
  none : g.P d.bal = none
  pr : ∀ i, i < n → d.C i = true → d.bal ≤ (A i).pr
  no : d.hh = false → ∀ i, i < n → d.C i = true → ∀ c, c < d.bal → g.T c i = false
  yes : d.hh = true → d.hb < d.bal ∧ g.P d.hb = some d.hd ∧ ∀ i, i < n → d.C i = true → ∀ e, d.hb < e → e < d.bal → g.T e i = false
structure Xinv (n : Nat) (A : Nat → Xa V) (Q : Nat → Option (Xp V)) (B : Int) (g : Xg V) : Prop where
  vote : ∀ b i, g.T b i = true → i < n ∧ (A i).has = true ∧ b ≤ (A i).bal ∧ ∃ v, g.P b = some v
  acc : ∀ i, i < n → (A i).has = true → g.T (A i).bal i = true ∧ g.P (A i).bal = some (A i).vd
  prm : ∀ i, i < n → (A i).bal ≤ (A i).pr
  safe : ∀ b v, g.P b = some v → Safe n A g b v
  asks : ∀ x d, Q x = some d → d.ph = 0 → Asked n A g d
  props : ∀ x d, Q x = some d → d.ph ≠ 0 → g.P d.bal = some d.vd ∧ ∀ i, i < n → d.C i = true → g.T d.bal i = true
  dec : ∀ x d, Q x = some d → d.ph = 2 → n < 2 * many n d.C
  uniq : ∀ x y d e, Q x = some d → Q y = some e → d.bal = e.bal → x = y
  top : ∀ x d, Q x = some d → d.bal ≤ B
  topP : ∀ b v, g.P b = some v → b ≤ B
def Chosen (n : Nat) (g : Xg V) (b : Int) (v : V) : Prop := g.P b = some v ∧ ∃ S : Nat → Bool, n < 2 * many n S ∧ ∀ i, i < n → S i = true → g.T b i = true
/-- what is proposed later is what was chosen. -/
theorem Xinv.later {n : Nat} {A : Nat → Xa V} {Q : Nat → Option (Xp V)} {B : Int} {g : Xg V} (h : Xinv n A Q B g) {b0 : Int} {v0 : V} (hc : Chosen n g b0 v0) : ∀ (k : Nat) (b : Int) (v : V), b = b0 + k → g.P b = some v → v = v0 := by
  intro k
  induction k using Nat.strongRecOn with
  | _ k ih =>
    intro b v hb hP
    by_cases h0 : k = 0
    · subst h0
      rw [show b = b0 by omega, hc.1] at hP
      injection hP with hP
      exact hP.symm
    obtain ⟨S, hS, hpr, hcase⟩ := h.safe b v hP
    obtain ⟨hP0, S0, hS0, hT0⟩ := hc
    obtain ⟨i, hi, h1, h2⟩ := many_meet (n := n) (p := S) (q := S0) (by omega)
    have hv := hT0 i hi h2
    rcases hcase with hno | ⟨c, hcb, hPc, hno⟩
    · rw [hno i hi h1 b0 (by omega)] at hv
      cases hv
    · by_cases hlt : c < b0
      · rw [hno i hi h1 b0 hlt (by omega)] at hv
        cases hv
      · exact ih (c - b0).toNat (by omega) c v (by omega) hPc
theorem Xinv.one {n : Nat} {A : Nat → Xa V} {Q : Nat → Option (Xp V)} {B : Int} {g : Xg V} (h : Xinv n A Q B g) {b0 b1 : Int} {v0 v1 : V} (h0 : Chosen n g b0 v0) (h1 : Chosen n g b1 v1) : v0 = v1 := by
  by_cases e : b0 ≤ b1
  · exact (h.later h0 (b1 - b0).toNat b1 v1 (by omega) h1.1).symm
  · exact h.later h1 (b0 - b1).toNat b0 v0 (by omega) h0.1
theorem Xinv.decided {n : Nat} {A : Nat → Xa V} {Q : Nat → Option (Xp V)} {B : Int} {g : Xg V} (h : Xinv n A Q B g) {x : Nat} {d : Xp V} (hx : Q x = some d) (hd : d.ph = 2) : Chosen n g d.bal d.vd :=
  ⟨(h.props x d hx (by omega)).1, d.C, h.dec x d hx hd, (h.props x d hx (by omega)).2⟩
theorem Xinv.start (n : Nat) (A : Nat → Xa V) (hA : ∀ i, i < n → (A i).has = false ∧ (A i).bal ≤ (A i).pr) (B : Int) : Xinv n A (fun _ => none) B ⟨fun _ => none, fun _ _ => false⟩ :=
  ⟨(fun b i h => by cases h), (fun i hi h => by rw [(hA i hi).1] at h; cases h), (fun i hi => (hA i hi).2), (fun b v h => by cases h), (fun x d h => by cases h), (fun x d h => by cases h), (fun x d h => by cases h), (fun x y d e h => by cases h), (fun x d h => by cases h), (fun b v h => by cases h)⟩
/-- a ballot begins. -/
theorem Xinv.begin {n : Nat} {A : Nat → Xa V} {Q : Nat → Option (Xp V)} {B : Int} {g : Xg V} (h : Xinv n A Q B g) (x : Nat) (d : Xp V) (hb : B < d.bal) (hph : d.ph = 0) (hC : ∀ i, d.C i = false) (hh : d.hh = false) : Xinv n A (up Q x (some d)) d.bal g := by
  have hN : g.P d.bal = none := by
    cases hP : g.P d.bal with
    | none => rfl
    | some v => have := h.topP _ _ hP; omega
  have cs : ∀ y e, up Q x (some d) y = some e → (y = x ∧ e = d) ∨ (y ≠ x ∧ Q y = some e) := fun y e he => by
    by_cases hy : y = x
    · subst hy
      rw [up_same] at he
      injection he with he
      exact .inl ⟨rfl, he.symm⟩
    · rw [up_ne _ _ hy] at he
      exact .inr ⟨hy, he⟩
  refine ⟨h.vote, h.acc, h.prm, h.safe, fun y e he h0 => ?_, fun y e he h0 => ?_, fun y e he h0 => ?_, fun y z e e' he he' hbal => ?_, fun y e he => ?_, fun b v hP => by have := h.topP b v hP; omega⟩
  · rcases cs y e he with ⟨rfl, rfl⟩ | ⟨hy, he⟩
    · exact ⟨hN, (fun i _ hi => by rw [hC] at hi; cases hi), (fun _ i _ hi => by rw [hC] at hi; cases hi), (fun h1 => by rw [hh] at h1; cases h1)⟩
    · exact h.asks y e he h0
  · rcases cs y e he with ⟨rfl, rfl⟩ | ⟨hy, he⟩
    · exact absurd hph h0
    · exact h.props y e he h0
  · rcases cs y e he with ⟨rfl, rfl⟩ | ⟨hy, he⟩
    · omega
    · exact h.dec y e he h0
  · rcases cs y e he with ⟨rfl, rfl⟩ | ⟨hy, he1⟩ <;> rcases cs z e' he' with ⟨rfl, rfl⟩ | ⟨hz, he2⟩
    · rfl
    · have := h.top z e' he2; omega
    · have := h.top y e he1; omega
    · exact h.uniq y z e e' he1 he2 hbal
  · rcases cs y e he with ⟨rfl, rfl⟩ | ⟨hy, he⟩
    · exact Int.le_refl _
    · have := h.top y e he; omega
/-- an acceptor promises more, or not: nothing else of it changes. -/
theorem Xinv.prep {n : Nat} {A : Nat → Xa V} {Q : Nat → Option (Xp V)} {B : Int} {g : Xg V} (h : Xinv n A Q B g) (i : Nat) (b : Int) (hb : (A i).pr ≤ b) : Xinv n (up A i { A i with pr := b }) Q B g := by
  have e : ∀ j, (up A i { A i with pr := b } j).has = (A j).has ∧ (up A i { A i with pr := b } j).bal = (A j).bal ∧ (up A i { A i with pr := b } j).vd = (A j).vd ∧ (A j).pr ≤ (up A i { A i with pr := b } j).pr := fun j => by
    by_cases hj : j = i
    · subst hj
      rw [up_same]
      exact ⟨rfl, rfl, rfl, hb⟩
    · rw [up_ne _ _ hj]
      exact ⟨rfl, rfl, rfl, Int.le_refl _⟩
  refine ⟨fun c j hT => ?_, fun j hj hh => ?_, fun j hj => ?_, fun c v hP => ?_, fun x d hx h0 => ?_, h.props, h.dec, h.uniq, h.top, h.topP⟩
  · rw [(e j).1, (e j).2.1]
    exact h.vote c j hT
  · rw [(e j).1] at hh
    rw [(e j).2.1, (e j).2.2.1]
    exact h.acc j hj hh
  · rw [(e j).2.1]
    exact Int.le_trans (h.prm j hj) (e j).2.2.2
  · obtain ⟨S, h1, h2, h3⟩ := h.safe c v hP
    exact ⟨S, h1, fun j hj hs => Int.le_trans (h2 j hj hs) (e j).2.2.2, h3⟩
  · have ha := h.asks x d hx h0
    exact ⟨ha.none, fun j hj hs => Int.le_trans (ha.pr j hj hs) (e j).2.2.2, ha.no, ha.yes⟩
/-- a promise is counted. -/
theorem Xinv.promise {n : Nat} {A : Nat → Xa V} {Q : Nat → Option (Xp V)} {B : Int} {g : Xg V} (h : Xinv n A Q B g) (x i : Nat) (d d' : Xp V) (hi : i < n) (hx : Q x = some d) (hph : d.ph = 0) (hpr : (A i).pr = d.bal) (hb : d'.bal = d.bal) (hph' : d'.ph = 0) (hC : d'.C = up d.C i true)
    (hold : (d'.hb, d'.hd, d'.hh) = if ((A i).has && (!d.hh || decide (d.hb < (A i).bal))) = true then ((A i).bal, (A i).vd, true) else (d.hb, d.hd, d.hh)) : Xinv n A (up Q x (some d')) B g := by
  have ha := h.asks x d hx hph
  have hlt : (A i).has = true → (A i).bal < d.bal := fun hh => by
    have h1 := h.prm i hi
    have h2 := (h.acc i hi hh).2
    by_cases e : (A i).bal = d.bal
    · rw [e, ha.none] at h2
      cases h2
    · omega
  have cs : ∀ y e, up Q x (some d') y = some e → (y = x ∧ e = d') ∨ (y ≠ x ∧ Q y = some e) := fun y e he => by
    by_cases hy : y = x
    · subst hy
      rw [up_same] at he
      injection he with he
      exact .inl ⟨rfl, he.symm⟩
    · rw [up_ne _ _ hy] at he
      exact .inr ⟨hy, he⟩
  have cm : ∀ j, d'.C j = true → j = i ∨ d.C j = true := fun j hj => by
    rw [hC] at hj
    by_cases e : j = i
    · exact .inl e
    · rw [up_ne _ _ e] at hj
      exact .inr hj
  have hA : Asked n A g d' := by
    refine ⟨by rw [hb]; exact ha.none, fun j hj hc => ?_, fun hh j hj hc c hc' => ?_, fun hh => ?_⟩
    · rw [hb]
      rcases cm j hc with rfl | hc
      · omega
      · exact ha.pr j hj hc
    · rw [hb] at hc'
      by_cases hq : ((A i).has && (!d.hh || decide (d.hb < (A i).bal))) = true
      · rw [if_pos hq] at hold
        rw [show d'.hh = true from congrArg (fun z => z.2.2) hold] at hh
        cases hh
      · rw [if_neg hq] at hold
        have hdh : d.hh = false := by rw [← hh]; exact (congrArg (fun z => z.2.2) hold).symm
        rw [hdh] at hq
        have hno : (A i).has = false := by
          cases hx2 : (A i).has with
          | false => rfl
          | true => rw [hx2] at hq; simp at hq
        rcases cm j hc with rfl | hc
        · cases hT : g.T c j with
          | false => rfl
          | true => have := (h.vote c j hT).2.1; rw [hno] at this; cases this
        · exact ha.no hdh j hj hc c hc'
    · by_cases hq : ((A i).has && (!d.hh || decide (d.hb < (A i).bal))) = true
      · rw [if_pos hq] at hold
        have e1 : d'.hb = (A i).bal := congrArg (fun z => z.1) hold
        have e2 : d'.hd = (A i).vd := congrArg (fun z => z.2.1) hold
        simp only [Bool.and_eq_true, Bool.or_eq_true, Bool.not_eq_true', decide_eq_true_eq] at hq
        rw [hb, e1, e2]
        refine ⟨hlt hq.1, (h.acc i hi hq.1).2, fun j hj hc e he1 he2 => ?_⟩
        rcases cm j hc with rfl | hc
        · cases hT : g.T e j with
          | false => rfl
          | true => have := (h.vote e j hT).2.2.1; omega
        · rcases hq.2 with h1 | h1
          · exact ha.no h1 j hj hc e he2
          · cases hdh : d.hh with
            | false => exact ha.no hdh j hj hc e he2
            | true => exact (ha.yes hdh).2.2 j hj hc e (by omega) he2
      · rw [if_neg hq] at hold
        have e1 : d'.hb = d.hb := congrArg (fun z => z.1) hold
        have e2 : d'.hd = d.hd := congrArg (fun z => z.2.1) hold
        have e3 : d.hh = true := by rw [← hh]; exact (congrArg (fun z => z.2.2) hold).symm
        rw [hb, e1, e2]
        obtain ⟨y1, y2, y3⟩ := ha.yes e3
        refine ⟨y1, y2, fun j hj hc e he1 he2 => ?_⟩
        rcases cm j hc with rfl | hc
        · cases hT : g.T e j with
          | false => rfl
          | true =>
            obtain ⟨_, v1, v2, _⟩ := h.vote e j hT
            rw [v1, e3] at hq
            simp at hq
            omega
        · exact y3 j hj hc e he1 he2
  refine ⟨h.vote, h.acc, h.prm, h.safe, fun y e he h0 => ?_, fun y e he h0 => ?_, fun y e he h0 => ?_, fun y z e e' he he' hbal => ?_, fun y e he => ?_, h.topP⟩
  · rcases cs y e he with ⟨rfl, rfl⟩ | ⟨hy, he⟩
    · exact hA
    · exact h.asks y e he h0
  · rcases cs y e he with ⟨rfl, rfl⟩ | ⟨hy, he⟩
    · exact absurd hph' h0
    · exact h.props y e he h0
  · rcases cs y e he with ⟨rfl, rfl⟩ | ⟨hy, he⟩
    · omega
    · exact h.dec y e he h0
  · rcases cs y e he with ⟨rfl, rfl⟩ | ⟨hy, he1⟩ <;> rcases cs z e' he' with ⟨rfl, rfl⟩ | ⟨hz, he2⟩
    · rfl
    · exact h.uniq _ z d e' hx he2 (by omega)
    · exact h.uniq y _ e d he1 hx (by omega)
    · exact h.uniq y z e e' he1 he2 hbal
  · rcases cs y e he with ⟨rfl, rfl⟩ | ⟨hy, he⟩
    · rw [hb]; exact h.top _ d hx
    · exact h.top y e he
/-- one who asked a majority proposes. -/
theorem Xinv.propose {n : Nat} {A : Nat → Xa V} {Q : Nat → Option (Xp V)} {B : Int} {g : Xg V} (h : Xinv n A Q B g) (x : Nat) (d d' : Xp V) (hx : Q x = some d) (hph : d.ph = 0) (hm : n < 2 * many n d.C) (hb : d'.bal = d.bal) (hph' : d'.ph = 1) (hC : ∀ i, d'.C i = false) (hv : d.hh = true → d'.vd = d.hd) :
    Xinv n A (up Q x (some d')) B { g with P := upI g.P d.bal (some d'.vd) } := by
  have ha := h.asks x d hx hph
  have keep : ∀ c v, g.P c = some v → upI g.P d.bal (some d'.vd) c = some v := fun c v hc => by
    rw [upI_ne _ _ (fun e => by rw [e, ha.none] at hc; cases hc)]
    exact hc
  have cs : ∀ y e, up Q x (some d') y = some e → (y = x ∧ e = d') ∨ (y ≠ x ∧ Q y = some e) := fun y e he => by
    by_cases hy : y = x
    · subst hy
      rw [up_same] at he
      injection he with he
      exact .inl ⟨rfl, he.symm⟩
    · rw [up_ne _ _ hy] at he
      exact .inr ⟨hy, he⟩
  refine ⟨fun b i hT => ?_, fun i hi hh => ⟨(h.acc i hi hh).1, keep _ _ (h.acc i hi hh).2⟩, h.prm, fun b v hP => ?_, fun y e he h0 => ?_, fun y e he h0 => ?_, fun y e he h0 => ?_, fun y z e e' he he' hbal => ?_, fun y e he => ?_, fun b v hP => ?_⟩
  · obtain ⟨h1, h2, h3, v, h4⟩ := h.vote b i hT
    exact ⟨h1, h2, h3, v, keep b v h4⟩
  · by_cases e : b = d.bal
    · subst e
      have hP' : some d'.vd = some v := (upI_same g.P d.bal (some d'.vd)).symm.trans hP
      injection hP' with hP'
      refine ⟨d.C, hm, ha.pr, ?_⟩
      cases hh : d.hh with
      | false => exact .inl (ha.no hh)
      | true =>
        obtain ⟨y1, y2, y3⟩ := ha.yes hh
        exact .inr ⟨d.hb, y1, keep _ _ (by rw [y2, ← hv hh, hP']), y3⟩
    · have hP' : g.P b = some v := (upI_ne g.P (some d'.vd) e).symm.trans hP
      obtain ⟨S, h1, h2, h3⟩ := h.safe b v hP'
      refine ⟨S, h1, h2, ?_⟩
      rcases h3 with h3 | ⟨c, c1, c2, c3⟩
      · exact .inl h3
      · exact .inr ⟨c, c1, keep c v c2, c3⟩
  · rcases cs y e he with ⟨rfl, rfl⟩ | ⟨hy, he⟩
    · omega
    · have h1 := h.asks y e he h0
      have hne : e.bal ≠ d.bal := fun eb => hy (h.uniq y x e d he hx eb)
      exact ⟨(upI_ne g.P _ hne).trans h1.none, h1.pr, h1.no, fun hh => ⟨(h1.yes hh).1, keep _ _ (h1.yes hh).2.1, (h1.yes hh).2.2⟩⟩
  · rcases cs y e he with ⟨rfl, rfl⟩ | ⟨hy, he⟩
    · exact ⟨by rw [hb]; exact upI_same _ _ _, fun i _ hi => by rw [hC] at hi; cases hi⟩
    · exact ⟨keep _ _ (h.props y e he h0).1, (h.props y e he h0).2⟩
  · rcases cs y e he with ⟨rfl, rfl⟩ | ⟨hy, he⟩
    · omega
    · exact h.dec y e he h0
  · rcases cs y e he with ⟨rfl, rfl⟩ | ⟨hy, he1⟩ <;> rcases cs z e' he' with ⟨rfl, rfl⟩ | ⟨hz, he2⟩
    · rfl
    · exact h.uniq _ z d e' hx he2 (by omega)
    · exact h.uniq y _ e d he1 hx (by omega)
    · exact h.uniq y z e e' he1 he2 hbal
  · rcases cs y e he with ⟨rfl, rfl⟩ | ⟨hy, he⟩
    · rw [hb]; exact h.top _ d hx
    · exact h.top y e he
  · by_cases e : b = d.bal
    · rw [e]; exact h.top x d hx
    · exact h.topP b v ((upI_ne g.P (some d'.vd) e).symm.trans hP)
/-- an acceptor accepts what was proposed. -/
theorem Xinv.accept {n : Nat} {A : Nat → Xa V} {Q : Nat → Option (Xp V)} {B : Int} {g : Xg V} (h : Xinv n A Q B g) (i : Nat) (hi : i < n) (b : Int) (v : V) (hP : g.P b = some v) (hb : (A i).pr ≤ b) :
    Xinv n (up A i ⟨b, b, v, true⟩) Q B { g with T := upI g.T b (up (g.T b) i true) } := by
  have old : ∀ c j, upI g.T b (up (g.T b) i true) c j = true → (c = b ∧ j = i) ∨ g.T c j = true := fun c j hT => by
    by_cases e : c = b
    · subst e
      rw [upI_same] at hT
      by_cases ej : j = i
      · exact .inl ⟨rfl, ej⟩
      · rw [up_ne _ _ ej] at hT
        exact .inr hT
    · rw [upI_ne _ _ e] at hT
      exact .inr hT
  have keep : ∀ c j, g.T c j = true → upI g.T b (up (g.T b) i true) c j = true := fun c j hT => by
    by_cases e : c = b
    · subst e
      rw [upI_same]
      by_cases ej : j = i
      · subst ej; exact up_same _ _ _
      · rw [up_ne _ _ ej]; exact hT
    · rw [upI_ne _ _ e]; exact hT
  have no : ∀ c j, g.T c j = false → (c = b → j ≠ i) → upI g.T b (up (g.T b) i true) c j = false := fun c j hT hne => by
    cases hx : upI g.T b (up (g.T b) i true) c j with
    | false => rfl
    | true =>
      rcases old c j hx with ⟨e1, e2⟩ | h1
      · exact absurd e2 (hne e1)
      · rw [h1] at hT; cases hT
  have prs : ∀ j, (A j).pr ≤ (up A i ⟨b, b, v, true⟩ j).pr := fun j => by
    by_cases ej : j = i
    · subst ej; rw [up_same]; exact hb
    · rw [up_ne _ _ ej]; exact Int.le_refl _
  refine ⟨fun c j hT => ?_, fun j hj hh => ?_, fun j hj => ?_, fun c w hP' => ?_, fun x d hx h0 => ?_, fun x d hx h0 => ⟨(h.props x d hx h0).1, fun j hj hc => keep _ _ ((h.props x d hx h0).2 j hj hc)⟩, h.dec, h.uniq, h.top, h.topP⟩
  · rcases old c j hT with ⟨rfl, rfl⟩ | h1
    · rw [up_same]
      exact ⟨hi, rfl, Int.le_refl _, v, hP⟩
    · obtain ⟨g1, g2, g3, g4⟩ := h.vote c j h1
      by_cases ej : j = i
      · subst ej
        rw [up_same]
        exact ⟨g1, rfl, by have := h.prm j g1; show c ≤ b; omega, g4⟩
      · rw [up_ne _ _ ej]
        exact ⟨g1, g2, g3, g4⟩
  · by_cases ej : j = i
    · subst ej
      rw [up_same]
      exact ⟨by show upI g.T b (up (g.T b) j true) b j = true; rw [upI_same, up_same], hP⟩
    · rw [up_ne _ _ ej] at hh ⊢
      exact ⟨keep _ _ (h.acc j hj hh).1, (h.acc j hj hh).2⟩
  · by_cases ej : j = i
    · subst ej; rw [up_same]; exact Int.le_refl _
    · rw [up_ne _ _ ej]; exact h.prm j hj
  · obtain ⟨S, h1, h2, h3⟩ := h.safe c w hP'
    refine ⟨S, h1, fun j hj hs => Int.le_trans (h2 j hj hs) (prs j), ?_⟩
    rcases h3 with h3 | ⟨e, e1, e2, e3⟩
    · refine .inl fun j hj hs f hf => no f j (h3 j hj hs f hf) fun ef ej => ?_
      subst ej
      have := h2 j hj hs
      omega
    · refine .inr ⟨e, e1, e2, fun j hj hs f hf1 hf2 => no f j (e3 j hj hs f hf1 hf2) fun ef ej => ?_⟩
      subst ej
      have := h2 j hj hs
      omega
  · have ha := h.asks x d hx h0
    refine ⟨ha.none, fun j hj hc => Int.le_trans (ha.pr j hj hc) (prs j), fun hh j hj hc f hf => no f j (ha.no hh j hj hc f hf) fun ef ej => ?_, fun hh => ⟨(ha.yes hh).1, (ha.yes hh).2.1, fun j hj hc f hf1 hf2 => no f j ((ha.yes hh).2.2 j hj hc f hf1 hf2) fun ef ej => ?_⟩⟩
    · subst ej
      have := ha.pr j hj hc
      omega
    · subst ej
      have := ha.pr j hj hc
      omega
/-- an acceptance is counted. -/
theorem Xinv.accepted {n : Nat} {A : Nat → Xa V} {Q : Nat → Option (Xp V)} {B : Int} {g : Xg V} (h : Xinv n A Q B g) (x i : Nat) (d d' : Xp V) (hx : Q x = some d) (hph : d.ph = 1) (hT : g.T d.bal i = true) (hb : d'.bal = d.bal) (hv : d'.vd = d.vd) (hC : d'.C = up d.C i true) (hph' : d'.ph = 1 ∨ (d'.ph = 2 ∧ n < 2 * many n d'.C)) : Xinv n A (up Q x (some d')) B g := by
  have cs : ∀ y e, up Q x (some d') y = some e → (y = x ∧ e = d') ∨ (y ≠ x ∧ Q y = some e) := fun y e he => by
    by_cases hy : y = x
    · subst hy
      rw [up_same] at he
      injection he with he
      exact .inl ⟨rfl, he.symm⟩
    · rw [up_ne _ _ hy] at he
      exact .inr ⟨hy, he⟩
  refine ⟨h.vote, h.acc, h.prm, h.safe, fun y e he h0 => ?_, fun y e he h0 => ?_, fun y e he h0 => ?_, fun y z e e' he he' hbal => ?_, fun y e he => ?_, h.topP⟩
  · rcases cs y e he with ⟨rfl, rfl⟩ | ⟨hy, he⟩
    · omega
    · exact h.asks y e he h0
  · rcases cs y e he with ⟨rfl, rfl⟩ | ⟨hy, he⟩
    · obtain ⟨h1, h2⟩ := h.props _ d hx (by omega)
      refine ⟨by rw [hb, hv]; exact h1, fun j hj hc => ?_⟩
      rw [hC] at hc
      rw [hb]
      by_cases ej : j = i
      · subst ej; exact hT
      · rw [up_ne _ _ ej] at hc; exact h2 j hj hc
    · exact h.props y e he h0
  · rcases cs y e he with ⟨rfl, rfl⟩ | ⟨hy, he⟩
    · rcases hph' with h1 | h1
      · omega
      · exact h1.2
    · exact h.dec y e he h0
  · rcases cs y e he with ⟨rfl, rfl⟩ | ⟨hy, he1⟩ <;> rcases cs z e' he' with ⟨rfl, rfl⟩ | ⟨hz, he2⟩
    · rfl
    · exact h.uniq _ z d e' hx he2 (by omega)
    · exact h.uniq y _ e d he1 hx (by omega)
    · exact h.uniq y z e e' he1 he2 hbal
  · rcases cs y e he with ⟨rfl, rfl⟩ | ⟨hy, he⟩
    · rw [hb]; exact h.top _ d hx
    · exact h.top y e he
/-- what was chosen stays chosen. -/
theorem Chosen.mono {n : Nat} {g g' : Xg V} {b : Int} {v : V} (h : Chosen n g b v) (hP : ∀ c w, g.P c = some w → g'.P c = some w) (hT : ∀ c j, g.T c j = true → g'.T c j = true) : Chosen n g' b v := by
  obtain ⟨h1, S, h2, h3⟩ := h
  exact ⟨hP _ _ h1, S, h2, fun i hi hs => hT _ _ (h3 i hi hs)⟩
end
end Z

end Go.Proofs.Ytfkmodmgihadkaa
