/-
  The walk of the law WheelOnce: timers that are set once are each due once. No condition.
-/
import Derived.Test.YtfekkfphogjpeaaYar
import Derived.Test.YtfekkfphogjpeaaYds
namespace Go.Proofs.Ytfekkfphogjpeaa
set_option linter.unusedSimpArgs false
set_option linter.unusedVariables false
open Go.RowKit Go.Maps Go.Sort

/-- the timers set so far. -/
structure SetJ (L : List Int) (k : Nat) (T : List Tm) : Prop where
  mem : ∀ t ∈ T, ∃ j : Nat, j < k ∧ L[j]? = some t.at_ ∧ t.k = kk j
  all : ∀ (j : Nat) a, j < k → L[j]? = some a → (⟨a, kk j⟩ : Tm) ∈ T
  len : T.length = k
theorem kk_inj {a b : Nat} (h : kk a = kk b) : a = b := by
  have := congrArg K13.k h
  have e : (a : Int) = b := this
  omega
theorem SetJ.zero (L : List Int) : SetJ L 0 [] := ⟨fun t h => (by cases h), fun j a h => (by omega), rfl⟩
theorem SetJ.free {L : List Int} {k : Nat} {T : List Tm} (h : SetJ L k T) : ∀ t ∈ T, t.k ≠ kk k := fun t ht e => by
  obtain ⟨j, hj, -, e2⟩ := h.mem t ht
  have := kk_inj (e2.symm.trans e)
  omega
theorem SetJ.succ {L : List Int} {k : Nat} {T : List Tm} {a : Int} (h : SetJ L k T) (ha : L[k]? = some a) : SetJ L (k + 1) (⟨a, kk k⟩ :: outK T (kk k)) := by
  rw [outK_none h.free]
  refine ⟨fun t ht => ?_, fun j b hj hb => ?_, by simp [h.len]⟩
  · rcases List.mem_cons.1 ht with rfl | ht
    · exact ⟨k, by omega, ha, rfl⟩
    · obtain ⟨j, hj, r⟩ := h.mem t ht
      exact ⟨j, by omega, r⟩
  · rcases Nat.lt_or_eq_of_le (Nat.le_of_lt_succ hj) with h1 | rfl
    · exact List.mem_cons_of_mem _ (h.all j b h1 hb)
    · rw [ha] at hb
      cases hb
      exact List.mem_cons_self ..
/-- which timers are still ahead: those that were not met. -/
structure OnJ (L : List Int) (f : Nat → Bool) (T : List Tm) : Prop where
  mem : ∀ t ∈ T, ∃ j : Nat, L[j]? = some t.at_ ∧ t.k = kk j ∧ f j = false
  all : ∀ (j : Nat) a, L[j]? = some a → f j = false → (⟨a, kk j⟩ : Tm) ∈ T
  len : T.length ≤ 60
theorem SetJ.on {L : List Int} {T : List Tm} (h : SetJ L L.length T) (h6 : L.length ≤ 60) : OnJ L (fun _ => false) T :=
  ⟨fun t ht => (let ⟨j, _, h1, h2⟩ := h.mem t ht; ⟨j, h1, h2, rfl⟩), fun j a ha _ => h.all j a (List.getElem?_eq_some_iff.1 ha).1 ha, by rw [h.len]; exact h6⟩
/-- what is met after q of the list. -/
def metF (f : Nat → Bool) (S : List Tm) (j : Nat) : Bool := f j || S.any fun t => decide (t.k.k = (j : Int))
theorem metF_nil (f : Nat → Bool) : metF f [] = f := by funext j; simp [metF]
theorem metF_snoc (f : Nat → Bool) (S : List Tm) (t : Tm) (n : Nat) (h : t.k.k = (n : Int)) : metF f (S ++ [t]) = fun j => metF f S j || (j == n) := by
  funext j
  have e : decide (t.k.k = (j : Int)) = (j == n) := by
    rw [h, Bool.eq_iff_iff]
    simp
    omega
  simp [metF, e, Bool.or_assoc]
theorem OnJ.next {L : List Int} {f : Nat → Bool} {T S : List Tm} {now : Int} (h : OnJ L f T) (ap : T.Pairwise fun x y => x.k ≠ y.k) (hS : S.Perm (due now T)) : OnJ L (metF f S) (late now T) := by
  refine ⟨fun t ht => ?_, fun j a ha hf => ?_, ?_⟩
  · obtain ⟨h1, h2⟩ := List.mem_filter.1 ht
    have h2' : now < t.at_ := by simpa using h2
    obtain ⟨j, hj, hk, hf⟩ := h.mem t h1
    refine ⟨j, hj, hk, ?_⟩
    simp only [metF, hf, Bool.false_or]
    rw [List.any_eq_false]
    intro s hs
    obtain ⟨s1, s2⟩ := List.mem_filter.1 (hS.mem_iff.1 hs)
    have s2' : s.at_ ≤ now := by simpa using s2
    obtain ⟨i, hi, ik, _⟩ := h.mem s s1
    intro e
    have e : s.k.k = (j : Int) := by simpa using e
    rw [ik] at e
    have e' : (i : Int) = j := e
    obtain rfl : i = j := by omega
    have := pw_key ap s1 h1 (ik.trans hk.symm)
    subst this
    omega
  · simp only [metF, Bool.or_eq_false_iff] at hf
    have hT := h.all j a ha hf.1
    refine List.mem_filter.2 ⟨hT, ?_⟩
    simp only [decide_eq_true_eq]
    rcases Int.lt_or_le now a with h1 | h1
    · exact h1
    · have := List.any_eq_false.1 hf.2 ⟨a, kk j⟩ (hS.mem_iff.2 (List.mem_filter.2 ⟨hT, by simpa using h1⟩))
      simp [kk] at this
  · exact Nat.le_trans (List.length_filter_le _ _) h.len
theorem OnJ.done {L : List Int} {f : Nat → Bool} {T S : List Tm} {now : Int} (h : OnJ L f T) (hS : S.Perm (due now T)) {j : Nat} {a : Int} (ha : L[j]? = some a) (hf : metF f S j = false) : now < a := by
  simp only [metF, Bool.or_eq_false_iff] at hf
  have hT := h.all j a ha hf.1
  rcases Int.lt_or_le now a with h1 | h1
  · exact h1
  · have := List.any_eq_false.1 hf.2 ⟨a, kk j⟩ (hS.mem_iff.2 (List.mem_filter.2 ⟨hT, by simpa using h1⟩))
    simp [kk] at this
/-- the q-th of the list. -/
theorem OnJ.at_ {L : List Int} {f : Nat → Bool} {T S : List Tm} {now : Int} (h : OnJ L f T) (ap : T.Pairwise fun x y => x.k ≠ y.k) (hS : S.Perm (due now T)) {q : Nat} {t : Tm} (hq : S[q]? = some t) :
    ∃ j : Nat, L[j]? = some t.at_ ∧ t.k = kk j ∧ t.at_ ≤ now ∧ metF f (S.take q) j = false := by
  obtain ⟨h1, h2⟩ := List.mem_filter.1 (hS.mem_iff.1 (List.mem_of_getElem? hq))
  obtain ⟨j, hj, hk, hf⟩ := h.mem t h1
  refine ⟨j, hj, hk, by simpa using h2, ?_⟩
  simp only [metF, hf, Bool.false_or]
  rw [List.any_eq_false]
  intro s hs
  have hs1 := (List.mem_filter.1 (hS.mem_iff.1 (List.mem_of_mem_take hs))).1
  obtain ⟨i, hi, ik, _⟩ := h.mem s hs1
  intro e
  have e : s.k.k = (j : Int) := by simpa using e
  rw [ik] at e
  have e' : (i : Int) = j := e
  obtain rfl : i = j := by omega
  have e2 := pw_key ap hs1 h1 (ik.trans hk.symm)
  subst e2
  obtain ⟨p, hp⟩ := List.getElem?_of_mem hs
  have hpq : p < q := by
    have := (List.getElem?_eq_some_iff.1 hp).1
    rw [List.length_take] at this
    omega
  rw [List.getElem?_take, if_pos hpq] at hp
  have nd : S.Nodup := hS.symm.nodup (List.Pairwise.filter _ (nodup_of_apart ap))
  have := (List.getElem?_inj (List.getElem?_eq_some_iff.1 hp).1 nd).1 (hp.trans hq.symm)
  omega
/-- the row of what was met. -/
def metR (f : Nat → Bool) : Array Value := ((List.range 60).map fun i => Value.bool (f i)).toArray
theorem metR_get (f : Nat → Bool) {j : Nat} (h : j < 60) : (metR f)[j]? = some (.bool (f j)) := by
  simp [metR, h]
theorem metR_set (f : Nat → Bool) {j : Nat} (h : j < 60) : (metR f).setIfInBounds j (.bool true) = metR (fun i => f i || (i == j)) := by
  apply Array.ext
  · simp [metR]
  · intro i h1 h2
    have h2' : i < 60 := by simpa [metR] using h2
    have e1 : (metR f).size = 60 := by simp [metR]
    rw [Array.getElem_setIfInBounds (by rw [e1]; exact h2')]
    by_cases e : j = i
    · subst e; simp [metR]
    · rw [if_neg e]
      have : (i == j) = false := by simp; omega
      simp [metR, this]
theorem ints_at {W X : World} {A : Option Addr} {L : List Int} (h : arg_intsR W A L) (hb : Below W.heap.size W X) {i : Nat} {a : Int} (ha : L[i]? = some a) : ∃ b o, A = some ⟨b, o, none⟩ ∧ X.cell? ⟨b, o + i, none⟩ = some (.int .i64 a) := by
  obtain ⟨⟨b, o, e, _, hc⟩, _⟩ := (h.below hb) i a ha
  exact ⟨b, o, e, by have := hc 0 _ rfl; simpa using this⟩

end Go.Proofs.Ytfekkfphogjpeaa
