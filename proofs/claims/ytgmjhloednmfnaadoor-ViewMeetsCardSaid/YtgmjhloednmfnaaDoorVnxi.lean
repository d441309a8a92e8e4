/-
  What the loops of the document's Next keep; append as one operation of a region whose order is open. No condition.
-/
import Derived.Test.YtgmjhloednmfnaaDoorVapp
import Derived.Test.YtgmjhloednmfnaaDoorVmat
import Derived.Test.YtgmjhloednmfnaaDoorEfh
namespace Go.Proofs.YtgmjhloednmfnaaDoor
set_option linter.unusedSimpArgs false
set_option linter.unusedVariables false
open Go.RowKit

/-- An append to a row of the call's own, as one operation. -/
theorem wpOp_appR {w : World} {ops : Array Oper} {o : Oper} {i : Nat} {a : Act} {K : Act → World → Prop} {Q : Exit → Act → World → Prop} (hi : ops[i]? = some o) (hgd : o.guard = none) (d : Tmp) (hd : o.dst = some d) (s xo : Operand)
    (ho : o.op = .call { callee := .builtin .append, args := #[s, xo], argTypes := #[23, 23] })
    (base : Nat) (v : Value) (n : Nat) (xs : List Value) (hs : a.eval s = v) (hown : w.ownsRow base 46 2 v n xs)
    (ad : Addr) (X : List P2) (m c B : Nat) (hx : a.eval xo = .slice (some ad) m c) (hmm : m = X.length) (hr : RowsV w B (some ad) X)
    (hlen : (n + X.length) * 4 ≤ 140737488355328) (hbase : base ≤ w.heap.size)
    (h : ∀ v' w', w'.ownsRow base 46 2 v' (n + X.length) (xs ++ cellsV X) → w.grownBy w' v.ownBlock → K (a.put (some d) v') w') :
    wpOp Tryd.prog ops Q i K a w := by
  subst hmm
  rw [← hd] at h
  unfold wpOp
  simp only [hi]
  rw [if_pos (by simp [Region.wanted, hgd])]
  refine .inl ?_
  obtain ⟨i0, hi0, hz0, hz1, hz2⟩ := info_parts rpr_info
  exact wp_append_own w s xo 23 ho base 46 i0 _ 2 4 Tryd.underlying23 hi0 hz0 hz1 hz2 rfl (by decide) v n xs hs hown ad X.length c (cellsV X) hx (cellsV_length X) (cells_of_rowsV hr) (cellsV_one X)
    (by unfold maxLen; omega) hlen hbase fun v' w' h2 h3 _ => h v' w' h2 h3

/-- what the loops keep: the argument's block, the result's, the next view's, and its members, a row of the call's own. -/
structure NxI (w W : World) (bv br bw : Nat) (C Z : Array Value) (g N1 : Int) (M : List P2) (vv : Value) : Prop where
  bel : Below w.heap.size w W
  rv : W.heap[bv]? = some (.cells C 25 (0, 0))
  rr : W.heap[br]? = some (.cells Z 25 (0, 0))
  rw : W.heap[bw]? = some (.cells #[.int .u8 g, .int .u32 N1, vv] 25 (0, 0))
  own : W.ownsRow (bw + 1) 46 2 vv M.length (cellsV M)
  lv : bv < bw
  lr : br < bw
  l0 : w.heap.size ≤ bw
theorem NxI.lt {w W : World} {bv br bw : Nat} {C Z : Array Value} {g N1 : Int} {M : List P2} {vv : Value} (h : NxI w W bv br bw C Z g N1 M vv) : bw < W.heap.size := by
  obtain ⟨h, _⟩ := Array.getElem?_eq_some_iff.1 h.rw
  exact h
theorem NxI.below {w W W' : World} {bv br bw : Nat} {C Z : Array Value} {g N1 : Int} {M : List P2} {vv : Value} (h : NxI w W bv br bw C Z g N1 M vv) (b : Below W.heap.size W W') : NxI w W' bv br bw C Z g N1 M vv where
  bel := h.bel.trans (b.mono h.bel.size)
  rv := (b.block _ (Nat.lt_trans h.lv h.lt)).trans h.rv
  rr := (b.block _ (Nat.lt_trans h.lr h.lt)).trans h.rr
  rw := (b.block _ h.lt).trans h.rw
  own := own_kept h.own b
  lv := h.lv
  lr := h.lr
  l0 := h.l0
/-- a row of one's own that has grown, and is laid into the next view. -/
theorem NxI.app {w W W' : World} {bv br bw : Nat} {C Z : Array Value} {g N1 : Int} {M M' : List P2} {vv v' : Value} (h : NxI w W bv br bw C Z g N1 M vv) (hg : W.grownBy W' vv.ownBlock) (ho : W'.ownsRow (bw + 1) 46 2 v' M'.length (cellsV M')) : NxI w (W'.setCell ⟨bw, 2, none⟩ v') bv br bw C Z g N1 M' v' := by
  have hlt := h.lt
  have b1 : Below (bw + 1) W W' := Below.grown (Below.refl _ _) hg (by omega) fun j hj => (h.own.lt j hj).1
  have b0 : Below w.heap.size w W' := Below.grown h.bel hg h.bel.size fun j hj => by have := (h.own.lt j hj).1; have := h.l0; omega
  have hv := h.lv
  have hr := h.lr
  refine ⟨b0.setCell h.l0 _, ?_, ?_, ?_, ?_, h.lv, h.lr, h.l0⟩
  · exact (Below.heap_setCell _ _ _ _ (by show bv ≠ bw; omega)).trans ((b1.block _ (by omega)).trans h.rv)
  · exact (Below.heap_setCell _ _ _ _ (by show br ≠ bw; omega)).trans ((b1.block _ (by omega)).trans h.rr)
  · have := row_set ((b1.block bw (by omega)).trans h.rw) (i := 2) v'
    rw [this]
    rfl
  · exact ownsRow_setCell_below ho (by show bw < bw + 1; omega) v'
/-- an element of that row is written. -/
theorem NxI.put {w W : World} {bv br bw gb cap : Nat} {C Z : Array Value} {g N1 : Int} {M : List P2} (h : NxI w W bv br bw C Z g N1 M (.slice (some ⟨gb, 0, none⟩) M.length cap)) (i : Nat) (hi : i < M.length) (p : P2) :
    NxI w ((W.setCell ⟨gb, i * 2, none⟩ (.int .u8 p.n)).setCell ⟨gb, i * 2 + 1, none⟩ (.int .u16 p.l)) bv br bw C Z g N1 (M.set i p) (.slice (some ⟨gb, 0, none⟩) (M.set i p).length cap) := by
  have hb := (h.own.lt gb rfl).1
  have hv := h.lv
  have hr := h.lr
  have hl0 := h.l0
  have far : ∀ k, k ≤ bw → ((W.setCell ⟨gb, i * 2, none⟩ (.int .u8 p.n)).setCell ⟨gb, i * 2 + 1, none⟩ (.int .u16 p.l)).heap[k]? = W.heap[k]? := fun k hk =>
    (Below.heap_setCell _ _ _ _ (by show k ≠ gb; omega)).trans (Below.heap_setCell _ _ _ _ (by show k ≠ gb; omega))
  refine ⟨(h.bel.setCell (by show w.heap.size ≤ gb; omega) _).setCell (by show w.heap.size ≤ gb; omega) _, (far _ (by omega)).trans h.rv, (far _ (by omega)).trans h.rr, ?_, ?_, h.lv, h.lr, h.l0⟩
  · rw [List.length_set]
    exact (far _ (Nat.le_refl _)).trans h.rw
  · have := own_setAt (own_setAt h.own (i * 2) (.int .u8 p.n)) (i * 2 + 1) (.int .u16 p.l)
    rw [cellsV_set _ _ _ hi] at this
    rw [List.length_set]
    exact this

end Go.Proofs.YtgmjhloednmfnaaDoor
