/-
  One statement whose order is open: an invariant that each of its operations keeps, whenever it comes up, holds at its end, whatever the order. No condition on any program.
-/
import Derived.Orders
import Derived.RegionTactic
namespace Go.Proofs.Ytjdaejklegenbaa
set_option linter.unusedSimpArgs false
set_option linter.unusedVariables false

theorem countP_less {α : Type} {p q : α → Bool} {x : α} : ∀ (l : List α), (∀ y ∈ l, q y = true → p y = true) → x ∈ l → p x = true → q x = false → l.countP q < l.countP p
  | [], _, hx, _, _ => absurd hx (by simp)
  | y :: l, h, hx, hp, hq => by
    have hm : l.countP q ≤ l.countP p := List.countP_mono_left fun z hz => h z (List.mem_cons_of_mem _ hz)
    rcases List.mem_cons.1 hx with rfl | hx
    · rw [List.countP_cons_of_pos hp, List.countP_cons_of_neg (by rw [hq]; decide)]
      omega
    · have ih := countP_less l (fun z hz => h z (List.mem_cons_of_mem _ hz)) hx hp hq
      rw [List.countP_cons, List.countP_cons]
      have hy := h y List.mem_cons_self
      by_cases hqy : q y = true
      · rw [if_pos hqy, if_pos (hy hqy)]
        omega
      · rw [if_neg hqy]
        omega

theorem least_false {L : Nat → Bool} : ∀ (n : Nat), (∃ i, i < n ∧ L i = false) → ∃ i, i < n ∧ L i = false ∧ ∀ j, j < i → L j = true
  | 0, ⟨i, hi, _⟩ => absurd hi (Nat.not_lt_zero _)
  | n + 1, ⟨i, hi, hL⟩ => by
    by_cases h : ∃ i, i < n ∧ L i = false
    · obtain ⟨k, hk, h1, h2⟩ := least_false n h
      exact ⟨k, by omega, h1, h2⟩
    · have hin : i = n := by
        by_cases e : i = n
        · exact e
        · exact absurd ⟨i, by omega, hL⟩ h
      refine ⟨i, hi, hL, fun j hj => ?_⟩
      cases hLj : L j with
      | true => rfl
      | false => exact absurd ⟨j, by omega, hLj⟩ h

/-- each operation waits for earlier ones alone. -/
def backB (l : List Oper) : Bool :=
  (List.range l.length).all fun i => match l[i]? with
    | some o => o.after.toList.all fun e => decide (e.on < i)
    | none => true
theorem backB_spec {l : List Oper} (h : backB l = true) {i : Nat} {o : Oper} (ho : l[i]? = some o) : ∀ e ∈ o.after, e.on < i := by
  intro e he
  have hi : i < l.length := (List.getElem?_eq_some_iff.1 ho).1
  have h1 := List.all_eq_true.1 h i (List.mem_range.2 hi)
  simp only [ho] at h1
  simpa using List.all_eq_true.1 h1 e (by simpa using he)

theorem region_inv {P : Program} {id : Nat} {Q : Exit → Act → World → Prop} {a : Act} {w : World} {l : List Oper} (hm : P.follows .mixedOrders = true) (hB : backB l = true)
    (Inv : (Nat → Bool) → Act → World → Prop) (h0 : Inv (fun _ => false) a { w with drawn := w.drawn + 1 })
    (hstep : ∀ (L : Nat → Bool) (a : Act) (w : World) (i : Nat) (o : Oper), Inv L a w → l[i]? = some o → L i = false → (∀ e ∈ o.after, Region.binds .any e = true → L e.on = true) →
      ∀ K : Act → World → Prop, (∀ a' w', Inv (fun j => if j = i then true else L j) a' w' → K a' w') → if Region.wanted o (yielded l.toArray a.tmps) = true then Oper.wp P o a w K Q else K (a.put o.dst undef) w)
    (hend : ∀ (L : Nat → Bool) (a : Act) (w : World), Inv L a w → (∀ i, i < l.length → L i = true) → Q .normal a w) : (Code.region id l.toArray true).wp P Q a w := by
  have key : ∀ (f : Nat) (L : Nat → Bool) (done : Array Bool) (a : Act) (w : World), done.size = l.length → (∀ i, i < l.length → done.getD i true = L i ∧ done.getD i false = L i) →
      (List.range l.length).countP (fun i => !(L i)) ≤ f → Inv L a w → wpAny P .any l.toArray Q f done a w := by
    intro f
    induction f with
    | zero =>
      intro L done a w hs hd hc hI
      have all : ∀ i, i < l.length → L i = true := by
        intro i hi
        cases hL : L i with
        | true => rfl
        | false =>
          have h1 : 0 < (List.range l.length).countP (fun i => !(L i)) := List.countP_pos_iff.2 ⟨i, List.mem_range.2 hi, by rw [hL]; rfl⟩
          omega
      refine ⟨List.eq_nil_iff_forall_not_mem.2 fun j hj => ?_, hend L a w hI all⟩
      obtain ⟨h1, o, ho, _⟩ := mem_ready.1 hj
      have hjl : j < l.length := (List.getElem?_eq_some_iff.1 (by simpa using ho)).1
      rw [(hd j hjl).1, all j hjl] at h1
      exact Bool.noConfusion h1
    | succ f ih =>
      intro L done a w hs hd hc hI
      refine ⟨fun hr => ?_, fun i hi => ?_⟩
      · refine hend L a w hI fun i hi => ?_
        cases hL : L i with
        | true => rfl
        | false =>
          obtain ⟨k, hk, hk1, hk2⟩ := least_false (L := L) l.length ⟨i, hi, hL⟩
          have hm : k ∈ Region.ready .any l.toArray done := by
            obtain ⟨o, ho⟩ : ∃ o, l[k]? = some o := ⟨l[k], List.getElem?_eq_getElem hk⟩
            refine mem_ready.2 ⟨by rw [(hd k hk).1, hk1], o, by simpa using ho, fun e he _ => ?_⟩
            have hlt := backB_spec hB ho e he
            rw [(hd e.on (by omega)).2, hk2 _ hlt]
          rw [hr] at hm
          cases hm
      · obtain ⟨h1, o, ho, hall⟩ := mem_ready.1 hi
        have ho' : l[i]? = some o := by simpa using ho
        have hil : i < l.length := (List.getElem?_eq_some_iff.1 ho').1
        have hLi : L i = false := by rw [← (hd i hil).1, h1]
        refine wpOp_step ho fun K hK => ?_
        refine hstep L a w i o hI ho' hLi (fun e he hb => ?_) K fun a' w' hI' => hK a' w' ?_
        · have hlt := backB_spec hB ho' e he
          rw [← (hd e.on (by omega)).2]
          exact hall e he hb
        · refine ih _ _ a' w' (by rw [Array.size_setIfInBounds]; exact hs) (fun j hj => ?_) ?_ hI'
          · by_cases e : j = i
            · subst e
              rw [if_pos rfl]
              constructor <;> simp [Array.getD, hs, hj]
            · rw [if_neg e]
              have e' : ¬ i = j := fun k => e k.symm
              have h2 := hd j hj
              constructor
              · rw [← h2.1]; simp [Array.getD, hs, hj, Array.getElem_setIfInBounds, e']
              · rw [← h2.2]; simp [Array.getD, hs, hj, Array.getElem_setIfInBounds, e']
          · have h3 : (List.range l.length).countP (fun j => !(if j = i then true else L j)) < (List.range l.length).countP (fun j => !(L j)) :=
              countP_less (x := i) _ (fun y _ hy => by
                by_cases e : y = i
                · subst e
                  rw [if_pos rfl] at hy
                  cases hy
                · rwa [if_neg e] at hy) (List.mem_range.2 hil) (by rw [hLi]; rfl) (by rw [if_pos rfl]; rfl)
            omega
  refine wp_region_any hm (key _ (fun _ => false) _ a _ (by simp) (fun i hi => ?_) ?_ h0)
  · constructor <;> simp [Array.getD, hi]
  · refine Nat.le_trans List.countP_le_length ?_
    simp

end Go.Proofs.Ytjdaejklegenbaa
