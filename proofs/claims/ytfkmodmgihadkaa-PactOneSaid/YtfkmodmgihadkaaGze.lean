/-
  The law's field as plain states: what each step makes of them, and how a proposer that all hear decides. No condition on any program.
-/
import Derived.Test.YtfkmodmgihadkaaGzc
namespace Go.Proofs.Ytfkmodmgihadkaa
set_option linter.unusedSimpArgs false
set_option linter.unusedVariables false
open Go.RowKit Go.Maps Go.Sort
open V (P2)

open Z (up up_same up_ne many Xa Xp Xg Xinv Chosen)
/-- no acceptor has promised more than any proposer has. -/
def PrB (n : Nat) (A : Nat → Ad) (top : Nat) : Prop := ∀ i, i < n → (A i).pr ≤ ((top * 256 + 255 : Nat) : Int)
theorem PrB.rise {n : Nat} {A : Nat → Ad} {top : Nat} (h : PrB n A top) : PrB n A (top + 1) := fun i hi => by
  have := h i hi
  exact Int.le_trans this (Int.ofNat_le.2 (by omega))
theorem PrB.prep {n : Nat} {A : Nat → Ad} {top : Nat} (h : PrB n A top) (x : Nat) {b : Int} (hb : b ≤ ((top * 256 + 255 : Nat) : Int)) : PrB n (up A x ((A x).prep b)) top := fun i hi => by
  by_cases e : i = x
  · subst e
    rw [up_same]
    unfold Ad.prep
    split
    · exact hb
    · exact h i hi
  · rw [up_ne _ _ e]
    exact h i hi
theorem PrB.acc {n : Nat} {A : Nat → Ad} {top : Nat} (h : PrB n A top) (x : Nat) {b : Int} (y : VD) (hb : b ≤ ((top * 256 + 255 : Nat) : Int)) : PrB n (up A x ((A x).acc b y)) top := fun i hi => by
  by_cases e : i = x
  · subst e
    rw [up_same]
    unfold Ad.acc
    split
    · exact hb
    · exact h i hi
  · rw [up_ne _ _ e]
    exact h i hi
theorem PInv.bal {n : Nat} {A : Nat → Ad} {Q : Nat → Option Pd} {v : Nat → VD} {w : Nat → Bool} {top : Nat} {g : Xg VD} (h : PInv n A Q v w top g) {x : Nat} {d : Pd} (hx : Q x = some d) : d.bal ≤ ((top * 256 + 255 : Nat) : Int) := h.z.top x d.z (zo hx)
/-- what a step makes of the plain states. -/
structure StR (n : Nat) (kd : Int) (x y : Nat) (v : Nat → VD) (w : Nat → Bool) (A : Nat → Ad) (Q : Nat → Option Pd) (top : Nat) (v' : Nat → VD) (w' : Nat → Bool) (A' : Nat → Ad) (Q' : Nat → Option Pd) (top' : Nat) : Prop where
  s0 : kd = 0 → A' = A ∧ Q' = up Q x (some (Pd.init 0 1 (memP n) (((top + 1) * 256 + x : Nat) : Int))) ∧ top' = top + 1
  s1 : kd = 1 → ∀ d, Q y = some d → (A x).may d.bal = true → A' = up A x ((A x).prep d.bal) ∧ ∃ T : List EV, T.length = x ∧ ∃ acc vd, Q' = up Q y (some (d.promise (prp x) T acc vd (A x).has))
  s2 : kd = 2 → ∀ d, Q x = some d → d.ready = true → A' = A ∧ ∃ p, Q' = up Q x (some (d.propose [p])) ∧ w' = up w x true
  s3 : kd = 3 → ∀ d, Q y = some d → w y = true → (A x).may d.bal = true → A' = up A x ((A x).acc d.bal (v y)) ∧ Q' = up Q y (some (d.accepted (prp x))) ∧ w' = w
  pr : PrB n A top → PrB n A' top'
/-- may still be promised. -/
theorem Ad.prep_may {a : Ad} {b : Int} (h : a.may b = true) : (a.prep b).may b = true := by
  rw [Ad.prep_yes h]
  simp only [Ad.may, Bool.and_eq_true, decide_eq_true_eq] at h ⊢
  exact ⟨h.1, Int.le_refl _⟩
theorem Ad.acc_may {a : Ad} {b : Int} {y : VD} (h : a.may b = true) : (a.acc b y).may b = true := by
  rw [Ad.acc_yes h]
  simp only [Ad.may, Bool.and_eq_true, decide_eq_true_eq] at h ⊢
  exact ⟨h.1, Int.le_refl _⟩
theorem Ad.prep_has {a : Ad} {b : Int} : (a.prep b).has = a.has := by
  unfold Ad.prep
  split <;> rfl
theorem may_up {n : Nat} {A : Nat → Ad} {B : Int} (h : ∀ j, j < n → (A j).may B = true) (x : Nat) {a : Ad} (ha : a.may B = true) : ∀ j, j < n → (up A x a j).may B = true := fun j hj => by
  by_cases e : j = x
  · subst e
    rw [up_same]
    exact ha
  · rw [up_ne _ _ e]
    exact h j hj
theorem memP_succ (n : Nat) : memP (n + 1) = memP n ++ [prp n] := by simp [memP, List.range_succ]
theorem memP_len (n : Nat) : (memP n).length = n := by simp [memP]
/-- the last proposer has asked some. -/
structure EA (n i : Nat) (B : Int) (H : Nat → Bool) (A : Nat → Ad) (Q : Nat → Option Pd) : Prop where
  may : ∀ j, j < n → (A j).may B = true
  has : ∀ j, j < n → (A j).has = H j
  q : ∃ d, Q 0 = some d ∧ d.ph = 0 ∧ d.bal = B ∧ d.M = memP n ∧ d.C = memP i ∧ d.Lg.length = i - 1 ∧ (d.hh = true → ∃ j, j < n ∧ H j = true)
theorem EA.start {n : Nat} {A : Nat → Ad} {Q : Nat → Option Pd} {v v' : Nat → VD} {w w' : Nat → Bool} {top top' : Nat} {A' : Nat → Ad} {Q' : Nat → Option Pd} (hm : ∀ i, i < n → (A i).made = true) (hp : PrB n A top) (h : StR n 0 0 0 v w A Q top v' w' A' Q' top') :
    EA n 0 (((top + 1) * 256 + 0 : Nat) : Int) (fun i => (A i).has) A' Q' := by
  obtain ⟨rfl, rfl, -⟩ := h.s0 rfl
  refine ⟨fun j hj => ?_, fun j hj => rfl, _, up_same _ _ _, rfl, rfl, rfl, rfl, rfl, fun e => by cases e⟩
  have h1 := hp j hj
  have h2 := hm j hj
  simp only [Ad.may, Bool.and_eq_true, decide_eq_true_eq]
  exact ⟨⟨h2, by omega⟩, by omega⟩
theorem EA.step {n i : Nat} {B : Int} {H : Nat → Bool} {A : Nat → Ad} {Q : Nat → Option Pd} {v v' : Nat → VD} {w w' : Nat → Bool} {top top' : Nat} {A' : Nat → Ad} {Q' : Nat → Option Pd} (hE : EA n i B H A Q) (hi : i < n) (h : StR n 1 i 0 v w A Q top v' w' A' Q' top') : EA n (i + 1) B H A' Q' := by
  obtain ⟨d, hQ, h0, hb, hM, hC, hL, hh⟩ := hE.q
  have hmay := hE.may i hi
  obtain ⟨rfl, T, hT, acc, vd, rfl⟩ := h.s1 rfl d hQ (hb.symm ▸ hmay)
  rw [hb]
  refine ⟨may_up hE.may i (Ad.prep_may hmay), fun j hj => ?_, _, up_same _ _ _, ?_⟩
  · by_cases e : j = i
    · subst e
      rw [up_same, Ad.prep_has]
      exact hE.has j hj
    · rw [up_ne _ _ e]
      exact hE.has j hj
  have hc : d.cnt (prp i) = true := by
    simp only [Pd.cnt, Bool.and_eq_true, decide_eq_true_eq]
    rw [hC, hM]
    refine ⟨fun hm => ?_, mem_memP.2 hi⟩
    have := mem_memP.1 hm
    omega
  unfold Pd.promise
  rw [if_pos (by rw [hc, decide_eq_true h0]; rfl)]
  have hl : ∀ e : Pd, (e.longer T).C = e.C ∧ (e.longer T).bal = e.bal ∧ (e.longer T).ph = e.ph ∧ (e.longer T).M = e.M ∧ (e.longer T).hh = e.hh ∧ (e.longer T).Lg.length = max e.Lg.length T.length := fun e => by
    unfold Pd.longer
    split
    · exact ⟨rfl, rfl, rfl, rfl, rfl, by show T.length = _; omega⟩
    · exact ⟨rfl, rfl, rfl, rfl, rfl, by omega⟩
  have hh2 : ∀ (e : Pd) acc yv hs, (e.hold acc yv hs).C = e.C ∧ (e.hold acc yv hs).bal = e.bal ∧ (e.hold acc yv hs).ph = e.ph ∧ (e.hold acc yv hs).M = e.M ∧ (e.hold acc yv hs).Lg = e.Lg ∧ ((e.hold acc yv hs).hh = true → e.hh = true ∨ hs = true) := fun e acc yv hs => by
    unfold Pd.hold
    split
    · rename_i hc
      refine ⟨rfl, rfl, rfl, rfl, rfl, fun _ => .inr ?_⟩
      simp only [Bool.and_eq_true] at hc
      exact hc.1
    · exact ⟨rfl, rfl, rfl, rfl, rfl, fun h => .inl h⟩
  obtain ⟨l1, l2, l3, l4, l5, l6⟩ := hl (d.add (prp i))
  obtain ⟨k1, k2, k3, k4, k5, k6⟩ := hh2 ((d.add (prp i)).longer T) acc vd (A i).has
  refine ⟨(k3.trans l3).trans h0, (k2.trans l2).trans hb, (k4.trans l4).trans hM, (k1.trans l1).trans ?_, ?_, fun e => ?_⟩
  · show d.C ++ [prp i] = _
    rw [hC, memP_succ]
  · rw [k5, l6, hT]
    show max d.Lg.length i = _
    omega
  · rcases k6 e with e | e
    · rw [l5] at e
      exact hh e
    · exact ⟨i, hi, by rw [← hE.has i hi]; exact e⟩
/-- it has proposed, and some have accepted. -/
structure EB (n i : Nat) (B : Int) (H : Nat → Bool) (A : Nat → Ad) (Q : Nat → Option Pd) (w : Nat → Bool) : Prop where
  may : ∀ j, j < n → (A j).may B = true
  hw : w 0 = true
  q : ∃ d, Q 0 = some d ∧ d.bal = B ∧ d.M = memP n ∧ ((d.ph = 1 ∧ d.C = memP i ∧ i < n / 2 + 1) ∨ d.ph = 2) ∧ ((∃ j, j < n ∧ H j = true) ∨ (d.vd.1.length = 1 ∧ d.vd.2.length = n - 1))
theorem EB.start {n : Nat} {B : Int} {H : Nat → Bool} {A : Nat → Ad} {Q : Nat → Option Pd} {v v' : Nat → VD} {w w' : Nat → Bool} {top top' : Nat} {A' : Nat → Ad} {Q' : Nat → Option Pd} (hE : EA n n B H A Q) (hn : 0 < n) (h : StR n 2 0 0 v w A Q top v' w' A' Q' top') : EB n 0 B H A' Q' w' := by
  obtain ⟨d, hQ, h0, hb, hM, hC, hL, hh⟩ := hE.q
  have hr : d.ready = true := by
    simp only [Pd.ready, Pd.enough, Bool.and_eq_true, decide_eq_true_eq]
    rw [hM, hC, memP_len]
    exact ⟨h0, by omega⟩
  obtain ⟨rfl, p, rfl, rfl⟩ := h.s2 rfl d hQ hr
  refine ⟨hE.may, up_same _ _ _, _, up_same _ _ _, hb, hM, .inl ⟨rfl, rfl, by omega⟩, ?_⟩
  by_cases e : d.hh = true
  · exact .inl (hh e)
  · right
    show (d.choose [p]).1.length = 1 ∧ (d.choose [p]).2.length = n - 1
    unfold Pd.choose
    rw [if_neg e]
    exact ⟨rfl, hL⟩
theorem EB.step {n i : Nat} {B : Int} {H : Nat → Bool} {A : Nat → Ad} {Q : Nat → Option Pd} {v v' : Nat → VD} {w w' : Nat → Bool} {top top' : Nat} {A' : Nat → Ad} {Q' : Nat → Option Pd} (hE : EB n i B H A Q w) (hi : i < n) (h : StR n 3 i 0 v w A Q top v' w' A' Q' top') : EB n (i + 1) B H A' Q' w' := by
  obtain ⟨d, hQ, hb, hM, hC, hv⟩ := hE.q
  have hmay := hE.may i hi
  obtain ⟨rfl, rfl, rfl⟩ := h.s3 rfl d hQ hE.hw (hb.symm ▸ hmay)
  rw [hb]
  refine ⟨may_up hE.may i (Ad.acc_may hmay), hE.hw, _, up_same _ _ _, ?_⟩
  rcases hC with ⟨h1, hC, hlt⟩ | h2
  · have hc : d.cnt (prp i) = true := by
      simp only [Pd.cnt, Bool.and_eq_true, decide_eq_true_eq]
      rw [hC, hM]
      refine ⟨fun hm => ?_, mem_memP.2 hi⟩
      have := mem_memP.1 hm
      omega
    have hcc : (d.add (prp i)).C = memP (i + 1) := by
      show d.C ++ [prp i] = _
      rw [hC, memP_succ]
    have hen : (d.add (prp i)).enough = decide (n / 2 + 1 ≤ i + 1) := by
      unfold Pd.enough
      rw [hcc, show (d.add (prp i)).M = memP n from hM, memP_len, memP_len]
    unfold Pd.accepted Pd.accept1
    by_cases he : (d.add (prp i)).enough = true
    · rw [if_pos (by rw [hc, he, decide_eq_true h1]; rfl)]
      exact ⟨hb, hM, .inr rfl, hv⟩
    · rw [if_neg (by rw [hc, Bool.eq_false_iff.2 he]; simp), if_pos (by rw [hc, decide_eq_true h1]; rfl)]
      refine ⟨hb, hM, .inl ⟨h1, hcc, ?_⟩, hv⟩
      rw [hen] at he
      have := of_decide_eq_false (Bool.eq_false_iff.2 he)
      omega
  · have : d.accepted (prp i) = d := by
      unfold Pd.accepted Pd.accept1
      rw [if_neg (by simp [h2]), if_neg (by simp [h2])]
    rw [this]
    exact ⟨hb, hM, .inr h2, hv⟩
theorem EB.done {n : Nat} {B : Int} {H : Nat → Bool} {A : Nat → Ad} {Q : Nat → Option Pd} {w : Nat → Bool} (hE : EB n n B H A Q w) (hn : 0 < n) : ∃ d, Q 0 = some d ∧ d.ph = 2 ∧ d.missing = [] ∧ ((∃ j, j < n ∧ H j = true) ∨ (d.vd.1.length = 1 ∧ d.vd.2.length = n - 1)) := by
  obtain ⟨d, hQ, hb, hM, hC, hv⟩ := hE.q
  have h2 : d.ph = 2 := by
    rcases hC with ⟨_, _, h⟩ | h
    · omega
    · exact h
  exact ⟨d, hQ, h2, by simp [Pd.missing, h2], hv⟩
/-- the remainder of a number that is one of the few. -/
theorem rem_self {n i : Nat} (h : i < n) : ((i : Int).tmod n + n).tmod n = (i : Int) := by
  have h1 : (i : Int).tmod n = i := Int.tmod_eq_of_lt (by omega) (by omega)
  rw [h1, Int.tmod_eq_emod_of_nonneg (by omega), Int.add_emod_right]
  exact Int.emod_eq_of_lt (by omega) (by omega)

end Go.Proofs.Ytfkmodmgihadkaa
