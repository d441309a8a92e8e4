/-
  Lists of processes that grow and are written in place: append at a step whose order is open; a row of one's own with one element written. Condition: none but what each says.
-/
import Derived.Test.YtfkmodmgihadkaaVrnk
import Derived.Deep.RegionLaw
namespace Go.Proofs.Ytfkmodmgihadkaa.V
set_option linter.unusedSimpArgs false
set_option linter.unusedVariables false
open Go.RowKit

theorem cells_of_rowsV {W : World} {B : Nat} {ad : Addr} {X : List P2} (h : RowsV W B (some ad) X) : ∀ j u, (cellsV X)[j]? = some u → W.cell? (ad.add j) = some u := by
  intro j u hu
  have hj : j < X.length * 2 := by
    have := (List.getElem?_eq_some_iff.1 hu).1
    rwa [cellsV_length] at this
  have hne : X ≠ [] := by rintro rfl; simp at hj
  obtain ⟨b, o, e, _, hc⟩ := h hne
  have e' : ad = ⟨b, o, none⟩ := Option.some.inj e
  subst e'
  have hi : j / 2 < X.length := by omega
  have hx : X[j / 2]? = some X[j / 2] := List.getElem?_eq_getElem hi
  have P := hc (j / 2) _ hx
  have hat := cellsV_at X (j / 2) _ hx (j % 2) (by omega)
  rw [show j / 2 * 2 + j % 2 = j by omega, hu] at hat
  have ea : (⟨b, o, none⟩ : Addr).add j = ⟨b, o + j / 2 * 2 + j % 2, none⟩ := by
    unfold Addr.add
    by_cases h0 : j = 0
    · subst h0; simp
    · simp [h0]; omega
  rw [ea]
  have hr : j % 2 = 0 ∨ j % 2 = 1 := by omega
  rcases hr with hr | hr <;> rw [hr] at hat ⊢
  · rw [hat]; exact P.c0
  · rw [hat]; exact P.c1
theorem rowsV_new (W : World) (x : P2) (t : TypeId) : RowsV (W.alloc (.cells #[.int .u8 x.n, .int .u16 x.l] t)) (W.heap.size + 1) (some ⟨W.heap.size, 0, none⟩) [x] := fun _ =>
  ⟨W.heap.size, 0, rfl, by omega, fun i y hi => by
    rcases i with _ | i
    · simp at hi
      subst hi
      exact ⟨by simp, by simp⟩
    · simp at hi⟩
/-- What a call has made of its own is kept by whatever leaves its block. -/
theorem own_same {W W' : World} {base : Nat} {e : TypeId} {z : Nat} {v : Value} {n : Nat} {xs : List Value} (h : W.ownsRow base e z v n xs) (hb : ∀ g, v.ownBlock = some g → W'.heap[g]? = W.heap[g]?) : W'.ownsRow base e z v n xs := by
  refine ⟨h.1, ?_⟩
  rcases h.2 with hn | ⟨g, cap, cur, hv, h0, hg, r⟩
  · exact .inl hn
  · exact .inr ⟨g, cap, cur, hv, h0, (hb g (by rw [hv]; rfl)).trans hg, r⟩
theorem own_kept {W W' : World} {base : Nat} {e : TypeId} {z : Nat} {v : Value} {n : Nat} {xs : List Value} (h : W.ownsRow base e z v n xs) (hb : Below W.heap.size W W') : W'.ownsRow base e z v n xs :=
  own_same h fun g hg => hb.block g (h.lt g hg).2
theorem own_mono {W : World} {base base' : Nat} {e : TypeId} {z : Nat} {v : Value} {n : Nat} {xs : List Value} (h : W.ownsRow base e z v n xs) (hb : base' ≤ base) : W.ownsRow base' e z v n xs := by
  refine ⟨h.1, ?_⟩
  rcases h.2 with hn | ⟨g, cap, cur, hv, h0, r⟩
  · exact .inl hn
  · exact .inr ⟨g, cap, cur, hv, Nat.le_trans hb h0, r⟩
theorem own_setAt {W : World} {base : Nat} {e : TypeId} {z g n cap : Nat} {xs : List Value} (h : W.ownsRow base e z (.slice (some ⟨g, 0, none⟩) n cap) n xs) (j : Nat) (v : Value) : (W.setCell ⟨g, j, none⟩ v).ownsRow base e z (.slice (some ⟨g, 0, none⟩) n cap) n (xs.set j v) := by
  refine ⟨by rw [List.length_set]; exact h.1, ?_⟩
  rcases h.2 with ⟨hn, _⟩ | ⟨g', cap', cur, hv, h0, hg, h1, h2, h3, h4⟩
  · simp at hn
  · cases hv
    refine .inr ⟨g, cap, cur.setIfInBounds j v, rfl, h0, ?_, h1, h2, by simpa using h3, ?_⟩
    · simp [World.setCell, Array.getElem?_modify, hg]
    · rw [Array.toList_setIfInBounds, List.take_set, h4]
theorem cellsV_set (X : List P2) (i : Nat) (p : P2) (hi : i < X.length) : ((cellsV X).set (i * 2) (.int .u8 p.n)).set (i * 2 + 1) (.int .u16 p.l) = cellsV (X.set i p) := by
  induction X generalizing i with
  | nil => simp at hi
  | cons x X ih =>
    cases i with
    | zero =>
      show ((([.int .u8 x.n, .int .u16 x.l] : List Value) ++ cellsV X).set (0 * 2) _).set (0 * 2 + 1) _ = ([.int .u8 p.n, .int .u16 p.l] : List Value) ++ cellsV X
      simp
    | succ i =>
      have hi' : i < X.length := by simpa using hi
      show ((([.int .u8 x.n, .int .u16 x.l] : List Value) ++ cellsV X).set ((i + 1) * 2) _).set ((i + 1) * 2 + 1) _ = ([.int .u8 x.n, .int .u16 x.l] : List Value) ++ cellsV (X.set i p)
      rw [← ih i hi']
      rw [show (i + 1) * 2 = (i * 2 + 1) + 1 by omega, show (i * 2 + 1) + 1 + 1 = (i * 2 + 1 + 1) + 1 by omega]
      simp [List.set_cons_succ]
theorem frz_own {W : World} {base : Nat} {e : TypeId} {z g n cap : Nat} {xs : List Value} (h : W.ownsRow base e z (.slice (some ⟨g, 0, none⟩) n cap) n xs) (i : Nat) : W.frozen? ⟨g, i, none⟩ = false := by
  rcases h.2 with ⟨hn, _⟩ | ⟨g', cap', cur, hv, h0, hg, h1, h2, h3, h4⟩
  · simp at hn
  · cases hv
    simp [World.frozen?, hg]
theorem frz_row {W : World} {b : Nat} {cs : Array Value} {t : TypeId} (i : Nat) (h : W.heap[b]? = some (.cells cs t (0, 0))) : W.frozen? ⟨b, i, none⟩ = false := by
  simp [World.frozen?, h]
theorem row_set {W : World} {b i : Nat} {cs : Array Value} {t : TypeId} {fr : Nat × Nat} (h : W.heap[b]? = some (.cells cs t fr)) (v : Value) : (W.setCell ⟨b, i, none⟩ v).heap[b]? = some (.cells (cs.setIfInBounds i v) t fr) := by
  simp [World.setCell, Array.getElem?_modify, h]

theorem stepAppO {w : World} {ops : Array Oper} {o : Oper} {a : Act} {K : Act → World → Prop} {Q : Exit → Act → World → Prop} {E : Prop} (hgd : o.guard = none) (s xo : Operand)
    (ho : o.op = .call { callee := .builtin .append, args := #[s, xo], argTypes := #[29, 29] })
    (base : Nat) (v : Value) (n : Nat) (xs : List Value) (hs : a.eval s = v) (hown : w.ownsRow base 54 2 v n xs)
    (ad : Addr) (X : List P2) (m c B : Nat) (hx : a.eval xo = .slice (some ad) m c) (hmm : m = X.length) (hr : RowsV w B (some ad) X)
    (hlen : (n + X.length) * 4 ≤ 140737488355328) (hbase : base ≤ w.heap.size)
    (h : ∀ v' w', w'.ownsRow base 54 2 v' (n + X.length) (xs ++ cellsV X) → w.grownBy w' v.ownBlock → K (a.put o.dst v') w') :
    if Region.wanted o (yielded ops a.tmps) = true then Oper.wp Try.prog o a w K Q else E := by
  subst hmm
  have hw : Region.wanted o (yielded ops a.tmps) = true := by simp [Region.wanted, hgd]
  rw [if_pos hw]
  obtain ⟨i0, hi0, hz0, hz1, hz2⟩ := info_parts pr_info
  exact wp_append_own w s xo 29 ho base 54 i0 _ 2 4 Try.underlying29 hi0 hz0 hz1 hz2 rfl (by decide) v n xs hs hown ad X.length c (cellsV X) hx (cellsV_length X) (cells_of_rowsV hr) (cellsV_one X)
    (by unfold maxLen; omega) hlen hbase fun v' w' h2 h3 _ => h v' w' h2 h3

end Go.Proofs.Ytfkmodmgihadkaa.V
