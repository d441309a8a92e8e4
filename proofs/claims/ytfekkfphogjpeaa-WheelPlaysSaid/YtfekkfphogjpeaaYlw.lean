/-
  Laws for rows of many cells and for stores in a statement whose order is open. No condition.
-/
import Derived.Test.YtfekkfphogjpeaaYmp
namespace Go.Proofs.Ytfekkfphogjpeaa
set_option linter.unusedSimpArgs false
set_option linter.unusedVariables false
open Go.RowKit Go.Sort

theorem wpList_bx {P : Program} {ops : Array Oper} {rest : List Oper} {o : Oper} {a : Act} {w : World} {Q : Exit → Act → World → Prop} (hg : o.guard = none) (t : TypeId) (x : Operand) (ho : o.op = .box t x) (d : Tmp) (hd : o.dst = some d) (cells : Array Value) (hx : a.eval x = .agg cells)
    (h : wpList P ops Q rest (a.put (some d) (.pointer (some ⟨w.heap.size, 0, none⟩))) (w.alloc (.cells cells t))) : wpList P ops Q (o :: rest) a w := by
  rw [← hd] at h
  refine wpList_plain hg fun K hK => ?_
  unfold Oper.wp execOp
  simp only [ho, hx, Value.cells, Sem.run_bind, Instr.box, newVar, newRow, run_newObj_alloc, Sem.run_pure, Result.andThen_ok]
  exact hK _ _ h
theorem wpList_bd {P : Program} {ops : Array Oper} {rest : List Oper} {o : Oper} {a : Act} {w : World} {Q : Exit → Act → World → Prop} (hg : o.guard = none) (t : TypeId) (parts : Array (Nat × Operand)) (ho : o.op = .build t parts) (cs : Array Value)
    (hf : P.built t (parts.map fun (i, x) => (i, a.eval x)).toList = some cs)
    (h : wpList P ops Q rest (a.put o.dst (.agg cs)) w) : wpList P ops Q (o :: rest) a w := by
  refine wpList_build hg t parts ho (by rw [hf]; rfl) ?_
  rw [hf]
  exact h
/-- a store of one cell, the only operation that may come up. -/
theorem wpOp_st {P : Program} {w w' : World} {ops : Array Oper} {o : Oper} {i : Nat} {a : Act} {K : Act → World → Prop} {Q : Exit → Act → World → Prop} (hi : ops[i]? = some o) (hgd : o.guard = none) (hd : o.dst = none) (p : Op) (ho : o.op = p)
    (hr : (execOp a.eval (bareO p o.type)).run P w = .ok .skip w') (h : K a w') : wpOp P ops Q i K a w := by
  rw [execOp_bare ho] at hr
  unfold wpOp
  simp only [hi]
  rw [if_pos (by simp [Region.wanted, hgd])]
  refine .inl ?_
  unfold Oper.wp
  rw [hr, Oper.upon_skip, hd]
  exact h
theorem FirstH.two {P : Program} {md : Region.Mode} {ops : Array Oper} {Q : Exit → Act → World → Prop} {S : World → Prop} {n i j : Nat} {L : Array Bool → Act → World → Prop} {f : Nat} {done : Array Bool} {a : Act} {w : World} (hr : Region.ready md ops done = [i, j]) (hin : i < n) (hjn : j < n) (inv : HeadInv md ops n done)
    (Hi : HeadInv md ops n (done.setIfInBounds i true) → wpOp P ops Q i (fun a' w' => S w' ∧ FirstH P md ops Q S n L f (done.setIfInBounds i true) a' w') a w)
    (Hj : HeadInv md ops n (done.setIfInBounds j true) → wpOp P ops Q j (fun a' w' => S w' ∧ FirstH P md ops Q S n L f (done.setIfInBounds j true) a' w') a w) : FirstH P md ops Q S n L (f + 1) done a w :=
  ⟨by rw [hr]; simp, fun k hk => by
    have hk' := hk
    rw [hr] at hk'
    simp only [List.mem_cons, List.not_mem_nil, or_false] at hk'
    rcases hk' with rfl | rfl
    · exact ⟨hin, Hi (inv.set (by rw [hr]; simp) hin)⟩
    · exact ⟨hjn, Hj (inv.set (by rw [hr]; simp) hjn)⟩⟩
/-- an operation that yields a value and turns the world. -/
theorem wpOp_vl {P : Program} {w w' : World} {ops : Array Oper} {o : Oper} {i : Nat} {a : Act} {K : Act → World → Prop} {Q : Exit → Act → World → Prop} {v : Value} (hi : ops[i]? = some o) (hgd : o.guard = none) (d : Tmp) (hd : o.dst = some d) (p : Op) (ho : o.op = p)
    (hr : (execOp a.eval (bareO p o.type)).run P w = .ok (.value v) w') (h : K (a.put (some d) v) w') : wpOp P ops Q i K a w := by
  rw [execOp_bare ho] at hr
  rw [← hd] at h
  unfold wpOp
  simp only [hi]
  rw [if_pos (by simp [Region.wanted, hgd])]
  refine .inl ?_
  unfold Oper.wp
  rw [hr, Oper.upon_value]
  exact h
theorem frz_row {W : World} {b : Nat} {cs : Array Value} {t : TypeId} (i : Nat) (h : W.heap[b]? = some (.cells cs t (0, 0))) : W.frozen? ⟨b, i, none⟩ = false := by
  simp [World.frozen?, h]
theorem row_set {W : World} {b i : Nat} {cs : Array Value} {t : TypeId} {fr : Nat × Nat} (h : W.heap[b]? = some (.cells cs t fr)) (v : Value) : (W.setCell ⟨b, i, none⟩ v).heap[b]? = some (.cells (cs.setIfInBounds i v) t fr) := by
  simp [World.setCell, Array.getElem?_modify, h]
theorem other_set {W : World} {b i k : Nat} {o : Obj} (h : W.heap[k]? = some o) (hk : k ≠ b) (v : Value) : (W.setCell ⟨b, i, none⟩ v).heap[k]? = some o :=
  (Below.heap_setCell W _ v k hk).trans h
theorem setRow_at {W : World} {g k : Nat} {o : Obj} (h : W.heap[k]? = some o) (hk : k ≠ g) (cs : Array Value) : (W.setRow g cs).heap[k]? = some o :=
  (setRow_other W g k cs hk).trans h
theorem below_row {B g : Nat} {W X : World} (h : Below B W X) (hg : B ≤ g) (cs : Array Value) : Below B W (X.setRow g cs) :=
  h.trans ⟨rfl, rfl, rfl, by simp [World.setRow], fun k hk => setRow_other X g k cs (by omega)⟩
theorem run_load_row {P : Program} {a : Act} {W : World} (ty t0 : TypeId) (x : Operand) (g : Nat) (hx : a.eval x = .pointer (some ⟨g, 0, none⟩)) (t : TypeId) (cs : Array Value) (fr : Nat × Nat) (d : TypeDesc) (hg : W.heap[g]? = some (.cells cs t fr))
    (hu : P.underlying ty = some d) (hd : (match d with | .struct _ | .array _ _ => true | _ => false) = true) (hi : (P.info? ty).map (·.size) = some cs.size) :
    (execOp a.eval (bareO (Op.load ty x) t0)).run P W = .ok (.value (.agg cs)) W := by
  unfold execOp bareO
  simp only [hx, Instr.loadAt, Instr.sureAddr, Sem.run_bind, Sem.run_pure, Result.andThen_ok, run_loadVar_row W g t ty cs fr d hg hu hd hi]

end Go.Proofs.Ytfekkfphogjpeaa
