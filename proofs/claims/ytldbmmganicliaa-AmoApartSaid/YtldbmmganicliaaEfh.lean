/-
  Steps of a statement whose order is open, one operation after the other: generic. No condition on any program.
-/
import Derived.Test.YtldbmmganicliaaTlh
import Derived.Laws.Tables
import Derived.Laws.CopyOwn
namespace Go.Proofs.Ytldbmmganicliaa
set_option linter.unusedSimpArgs false
set_option linter.unusedVariables false
open Go.RowKit Go.Sort

def bareO (p : Op) (t : TypeId) : Oper := { dst := none, op := p, type := t, pos := "", after := #[], guard := none }
theorem execOp_bare {o : Oper} {p : Op} (ho : o.op = p) {ρ : Operand → Value} : execOp ρ (bareO p o.type) = execOp ρ o := by
  subst ho
  rfl

theorem wpOp_run {P : Program} {w w' : World} {ops : Array Oper} {o : Oper} {i : Nat} {a : Act} {K : Act → World → Prop} {Q : Exit → Act → World → Prop} {v : Value} (hi : ops[i]? = some o) (hgd : o.guard = none) (d : Tmp) (hd : o.dst = some d) (p : Op) (ho : o.op = p)
    (hr : (execOp a.eval (bareO p o.type)).run P w = .ok (.value v) w') (h : K (a.put (some d) v) w') : wpOp P ops Q i K a w := by
  rw [← hd] at h
  rw [execOp_bare ho] at hr
  unfold wpOp
  simp only [hi]
  rw [if_pos (by simp [Region.wanted, hgd])]
  refine .inl ?_
  unfold Oper.wp
  rw [hr]
  exact h

theorem FirstH.go {P : Program} {ops : Array Oper} {Q : Exit → Act → World → Prop} {S : World → Prop} {n i g f : Nat} {oi : Oper} {v : Value} {Lq : Act → World → Prop} {done : Array Bool} {a : Act} {w : World} (hi : ops[i]? = some oi) (hgd : oi.guard = none) (d : Tmp) (hd : oi.dst = some d) (p : Op) (ho : oi.op = p)
    (hB : (Region.noSelect ops && Region.sinkB .any ops n && Region.chainB .any ops n && decide (n < ops.size) && decide (i < n) && Region.free .any ops done i && (Region.ready .any ops done).contains i) = true)
    (hQ : ∀ c a w, Q (.panic c) (a.put (some d) v) w → Q (.panic c) a w) (inv : HeadInv .any ops n done) (hy : ∀ W, S W → (execOp a.eval (bareO p oi.type)).run P W = .ok (.value v) W) (hS : S w)
    (H : HeadInv .any ops n (done.setIfInBounds i true) → FirstH P .any ops Q S n (fun done' a' w' => Region.seqB .any ops g n done' = true ∧ Lq a' w') f (done.setIfInBounds i true) (a.put (some d) v) w) :
    FirstH P .any ops Q S n (fun done' a' w' => Region.seqB .any ops g n done' = true ∧ Lq a' w') (f + 1) done a w := by
  rw [← hd] at hQ H
  simp only [Bool.and_eq_true, decide_eq_true_eq] at hB
  obtain ⟨⟨⟨⟨⟨⟨h1, h2⟩, h3⟩, h4⟩, h5⟩, h6⟩, h7⟩ := hB
  exact FirstH.step hi h1 h6 h7 hQ h2 h3 h4 h5 (fun _ _ _ hL => seqB_ready hL.1) inv (Or.inl ⟨by simp [Region.wanted, hgd], fun W hW => by rw [← execOp_bare ho]; exact hy W hW⟩) hS H

/-- A call of a function, by its contract. -/
theorem wpOp_call {P : Program} {w : World} {ops : Array Oper} {o : Oper} {i : Nat} {a : Act} {K : Act → World → Prop} {Q : Exit → Act → World → Prop} (hi : ops[i]? = some o) (hgd : o.guard = none) (d : Tmp) (hd : o.dst = some d) (p : Op) (ho : o.op = p)
    (f : FuncId) (args : Array Value) (hr : (execOp a.eval (bareO p o.type)).run P w = .ok (.enter f args) w) {R : Ending → World → Prop} (hc : Calls P f args w R)
    (h : ∀ e w', R e w' → ∃ v, e = .returned v ∧ K (a.put (some d) v) w') : wpOp P ops Q i K a w := by
  rw [← hd] at h
  rw [execOp_bare ho] at hr
  unfold wpOp
  simp only [hi]
  rw [if_pos (by simp [Region.wanted, hgd])]
  refine .inl ?_
  unfold Oper.wp
  rw [hr, Oper.upon_enter]
  refine hc.mono fun e w' he => ?_
  obtain ⟨v, rfl, hK⟩ := h e w' he
  exact hK
theorem own_row {W : World} {base : Nat} {e : TypeId} {z : Nat} {v : Value} {n : Nat} {xs : List Value} (h : W.ownsRow base e z v n xs) (g : Nat) (cs : Array Value) (hp : g < base) : (W.setRow g cs).ownsRow base e z v n xs := by
  refine ⟨h.1, ?_⟩
  rcases h.2 with hn | ⟨g', cap, cur, hv, h0, hg, r⟩
  · exact .inl hn
  · exact .inr ⟨g', cap, cur, hv, h0, (setRow_other W g g' cs (by omega)).trans hg, r⟩

end Go.Proofs.Ytldbmmganicliaa
