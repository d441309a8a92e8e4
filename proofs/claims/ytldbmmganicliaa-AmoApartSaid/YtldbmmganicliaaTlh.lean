/-
  One statement whose order is open: its first n operations under a word S on the world that holds behind each of them, its last ones, which wait for all of these, in their own order, free of S. No condition on any program.
-/
import Derived.Test.YtldbmmganicliaaTail
import Derived.OrdersHeld
namespace Go.Proofs.Ytldbmmganicliaa
set_option linter.unusedSimpArgs false
set_option linter.unusedVariables false
open Go.RowKit Go.Sort

section
variable {P : Program} {ops : Array Oper} {md : Region.Mode} {S : World → Prop} {Q : Exit → Act → World → Prop}

/-- Whatever comes up now is one of the first n, and S holds behind it; after f of them: L. -/
def FirstH (P : Program) (md : Region.Mode) (ops : Array Oper) (Q : Exit → Act → World → Prop) (S : World → Prop) (n : Nat) (L : Array Bool → Act → World → Prop) : Nat → Array Bool → Act → World → Prop
  | 0, done, a, w => L done a w
  | f + 1, done, a, w => Region.ready md ops done ≠ [] ∧ ∀ i ∈ Region.ready md ops done, i < n ∧ wpOp P ops Q i (fun a' w' => S w' ∧ FirstH P md ops Q S n L f (done.setIfInBounds i true) a' w') a w

theorem FirstH.any {n g : Nat} {L : Array Bool → Act → World → Prop} (hL : ∀ done a w, L done a w → wpAny P md ops Q g done a w) (f : Nat) :
    ∀ (done : Array Bool) (a : Act) (w : World), FirstH P md ops Q S n L f done a w → wpAny P md ops Q (f + g) done a w := by
  induction f with
  | zero => intro done a w h; rw [Nat.zero_add]; exact hL _ _ _ h
  | succ f ih =>
    intro done a w h
    have e : f + 1 + g = f + g + 1 := by omega
    rw [e]
    exact ⟨fun h0 => absurd h0 h.1, fun i hi => wpOp_mono (fun a' w' h' => ih _ a' w' h'.2) (h.2 i hi).2⟩

theorem FirstH.take {n i : Nat} {oi : Oper} {v : Value} {L : Array Bool → Act → World → Prop} (hi : ops[i]? = some oi) (hsel : ∀ (j : Nat) (o : Oper) cs b, ops[j]? = some o → o.op ≠ .select cs b)
    (hQ : ∀ c a w, Q (.panic c) (a.put oi.dst v) w → Q (.panic c) a w)
    (hs : Region.sinkB md ops n = true) (hc : Region.chainB md ops n = true) (hn : n < ops.size) (hin : i < n) (hend : ∀ done a w, L done a w → ∀ j ∈ Region.ready md ops done, n ≤ j) (f : Nat) :
    ∀ (done : Array Bool) (a : Act) (w : World), HeadInv md ops n done →
      (∀ j oj, ops[j]? = some oj → j ≠ i → done.getD j true = false → (∀ e ∈ oj.after, Region.binds md e = true → e.on ≠ i) → oi.apart ops oj = true) →
      i ∈ Region.ready md ops done → YieldsIf P ops S oi v a → S w →
      FirstH P md ops Q S n L f (done.setIfInBounds i true) (a.put oi.dst v) w → FirstH P md ops Q S n L (f + 1) done a w := by
  induction f with
  | zero =>
    intro done a w inv _ hr hy hS H
    have hun := (mem_ready.1 hr).1
    refine ⟨List.ne_nil_of_mem hr, fun j hj => ⟨before hs hc hn inv hin hun hj, ?_⟩⟩
    rcases Decidable.em (j = i) with rfl | hne
    · exact hy.wpOp hi hS ⟨hS, H⟩
    · have h1 := hend _ _ _ H j (ready_mono hj hne)
      have h2 := before hs hc hn inv hin hun hj
      omega
  | succ f ih =>
    intro done a w inv hfree hr hy hS H
    have hun := (mem_ready.1 hr).1
    refine ⟨List.ne_nil_of_mem hr, fun j hj => ⟨before hs hc hn inv hin hun hj, ?_⟩⟩
    rcases Decidable.em (j = i) with rfl | hne
    · exact hy.wpOp hi hS ⟨hS, H⟩
    obtain ⟨hjun, oj, hoj, hall⟩ := mem_ready.1 hj
    have free : ∀ e ∈ oj.after, Region.binds md e = true → e.on ≠ i := by
      intro e he hb heq
      have h1 := hall e he hb
      rw [heq, getD_both hun] at h1
      exact Bool.noConfusion h1
    have h1 := (H.2 j (ready_mono hj hne)).2
    have h2 := wpOp_putIf hoj (hfree j oj hoj hne hjun free) (fun cs b => hsel i oi cs b hi) (fun cs b => hsel j oj cs b hoj) hQ hy h1
    refine wpOp_mono (fun a' w' h3 => ⟨h3.2.1, ih _ a' w' (inv.set hj (before hs hc hn inv hin hun hj)) ?_ (ready_mono hr (Ne.symm hne)) h3.1 h3.2.1 ?_⟩) h2
    · intro k ok hk hki hkun hno
      refine hfree k ok hk hki ?_ hno
      rcases Decidable.em (j = k) with rfl | hjk
      · exact hjun
      · rwa [getD_set_ne true hjk] at hkun
    · rw [Array.setIfInBounds_comm _ _ hne]
      exact h3.2.2

/-- One step: number i, which yields v in every world that meets S, is taken now. (The invariant of the head is handed on.) -/
theorem FirstH.step {n i : Nat} {oi : Oper} {v : Value} {L : Array Bool → Act → World → Prop} {f : Nat} {done : Array Bool} {a : Act} {w : World} (hi : ops[i]? = some oi)
    (hns : Region.noSelect ops = true) (hf : Region.free md ops done i = true) (hr : (Region.ready md ops done).contains i = true)
    (hQ : ∀ c a w, Q (.panic c) (a.put oi.dst v) w → Q (.panic c) a w)
    (hs : Region.sinkB md ops n = true) (hc : Region.chainB md ops n = true) (hn : n < ops.size) (hin : i < n) (hend : ∀ done a w, L done a w → ∀ j ∈ Region.ready md ops done, n ≤ j)
    (inv : HeadInv md ops n done) (hy : YieldsIf P ops S oi v a) (hS : S w)
    (H : HeadInv md ops n (done.setIfInBounds i true) → FirstH P md ops Q S n L f (done.setIfInBounds i true) (a.put oi.dst v) w) : FirstH P md ops Q S n L (f + 1) done a w :=
  FirstH.take hi (Region.noSelect_spec hns) hQ hs hc hn hin hend f done a w inv (Region.free_spec hi hf) (by simpa using hr) hy hS (H (inv.set (by simpa using hr) hin))

/-- One step: number i is the only one that may come up; it is carried out. -/
theorem FirstH.only {n i : Nat} {L : Array Bool → Act → World → Prop} {f : Nat} {done : Array Bool} {a : Act} {w : World} (hr : Region.ready md ops done = [i]) (hin : i < n) (inv : HeadInv md ops n done)
    (H : HeadInv md ops n (done.setIfInBounds i true) → wpOp P ops Q i (fun a' w' => S w' ∧ FirstH P md ops Q S n L f (done.setIfInBounds i true) a' w') a w) : FirstH P md ops Q S n L (f + 1) done a w :=
  ⟨by rw [hr]; simp, fun j hj => by
    rw [hr] at hj
    obtain rfl : j = i := by simpa using hj
    exact ⟨hin, H (inv.set (by rw [hr]; simp) hin)⟩⟩

/-- **A region whose first n operations are walked under S, and whose last ones come in their own order, free of S.** -/
theorem region_heldT {id : Nat} {a : Act} {w : World} {l : List Oper} (n : Nat) (hm : P.follows .mixedOrders = true) (hn : n < l.length)
    (h : HeadInv .any l.toArray n (Array.replicate l.toArray.size false) → FirstH P .any l.toArray Q S n (fun done' a' w' => Region.seqB .any l.toArray (l.toArray.size - n) n done' = true ∧ wpList P l.toArray Q (l.drop n) a' w') n (Array.replicate l.toArray.size false) a { w with drawn := w.drawn + 1 }) :
    (Code.region id l.toArray true).wp P Q a w := by
  have e2 : (l.drop n).length = l.toArray.size - n := List.length_drop
  have inv0 : HeadInv .any l.toArray n (Array.replicate l.toArray.size false) := by
    refine ⟨Array.size_replicate, fun j oj _ hl => ?_, fun t _ ht => ?_⟩
    · rw [getD_replicate_false] at hl
      exact Bool.noConfusion hl
    · exact getD_in (by rw [Array.size_replicate]; exact ht) (getD_replicate_false _ _)
  refine wp_region_any hm ?_
  have R := FirstH.any (P := P) (md := .any) (ops := l.toArray) (S := S) (Q := Q) (n := n) (g := l.toArray.size - n) (fun done a' w' hL => by
    have := wpAny_of_seq (md := .any) (Q' := Q) (l.drop n) n done a' w' (fun j => by rw [List.getElem?_drop]; simp) (by rw [e2]; exact hL.1) hL.2
    rwa [e2] at this) _ _ a _ (h inv0)
  rw [show n + (l.toArray.size - n) = l.toArray.size from by have : n < l.toArray.size := hn; omega] at R
  exact R

end
end Go.Proofs.Ytldbmmganicliaa
