/-
  Guarded operations of a statement whose order is open, one after the other: generic. No condition on any program.
-/
import Derived.Test.YtldbmmganicliaaEfh
namespace Go.Proofs.Ytldbmmganicliaa
set_option linter.unusedSimpArgs false
set_option linter.unusedVariables false
open Go.RowKit Go.Sort

theorem FirstH.goG {P : Program} {ops : Array Oper} {Q : Exit → Act → World → Prop} {S : World → Prop} {n i g f : Nat} {oi : Oper} {v : Value} {Lq : Act → World → Prop} {done : Array Bool} {a : Act} {w : World} (hi : ops[i]? = some oi) (hgd : Region.wanted oi (yielded ops a.tmps) = true) (d : Tmp) (hd : oi.dst = some d) (p : Op) (ho : oi.op = p)
    (hB : (Region.noSelect ops && Region.sinkB .any ops n && Region.chainB .any ops n && decide (n < ops.size) && decide (i < n) && Region.free .any ops done i && (Region.ready .any ops done).contains i) = true)
    (hQ : ∀ c a w, Q (.panic c) (a.put (some d) v) w → Q (.panic c) a w) (inv : HeadInv .any ops n done) (hy : ∀ W, S W → (execOp a.eval (bareO p oi.type)).run P W = .ok (.value v) W) (hS : S w)
    (H : HeadInv .any ops n (done.setIfInBounds i true) → FirstH P .any ops Q S n (fun done' a' w' => Region.seqB .any ops g n done' = true ∧ Lq a' w') f (done.setIfInBounds i true) (a.put (some d) v) w) :
    FirstH P .any ops Q S n (fun done' a' w' => Region.seqB .any ops g n done' = true ∧ Lq a' w') (f + 1) done a w := by
  rw [← hd] at hQ H
  simp only [Bool.and_eq_true, decide_eq_true_eq] at hB
  obtain ⟨⟨⟨⟨⟨⟨h1, h2⟩, h3⟩, h4⟩, h5⟩, h6⟩, h7⟩ := hB
  exact FirstH.step hi h1 h6 h7 hQ h2 h3 h4 h5 (fun _ _ _ hL => seqB_ready hL.1) inv (Or.inl ⟨hgd, fun W hW => by rw [← execOp_bare ho]; exact hy W hW⟩) hS H

theorem wpOp_callG {P : Program} {w : World} {ops : Array Oper} {o : Oper} {i : Nat} {a : Act} {K : Act → World → Prop} {Q : Exit → Act → World → Prop} (hi : ops[i]? = some o) (hgd : Region.wanted o (yielded ops a.tmps) = true) (d : Tmp) (hd : o.dst = some d) (p : Op) (ho : o.op = p)
    (f : FuncId) (args : Array Value) (hr : (execOp a.eval (bareO p o.type)).run P w = .ok (.enter f args) w) {R : Ending → World → Prop} (hc : Calls P f args w R)
    (h : ∀ e w', R e w' → ∃ v, e = .returned v ∧ K (a.put (some d) v) w') : wpOp P ops Q i K a w := by
  rw [← hd] at h
  rw [execOp_bare ho] at hr
  unfold wpOp
  simp only [hi]
  rw [if_pos hgd]
  refine .inl ?_
  unfold Oper.wp
  rw [hr, Oper.upon_enter]
  refine hc.mono fun e w' he => ?_
  obtain ⟨v, rfl, hK⟩ := h e w' he
  exact hK
end Go.Proofs.Ytldbmmganicliaa
