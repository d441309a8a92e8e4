/-
  The document's store: Apply of one write, by a contract. Condition: its list is a row that its own calls made.
-/
import Derived.Test.YthmdnbgfnaokkaaDoorQref
import Derived.Test.YthmdnbgfnaokkaaDoorQmap
namespace Go.Proofs.YthmdnbgfnaokkaaDoor
set_option linter.unusedSimpArgs false
set_option linter.unusedVariables false
open Go.RowKit

/-- what an append reads: nil, or a list that lies in memory. -/
def SrcW (W : World) (sv : Value) (X : List W3) : Prop := (sv = .slice none 0 0 ∧ X = []) ∨ ∃ ad c, sv = .slice (some ad) X.length c ∧ RowsW W W.heap.size (some ad) X
theorem SrcW.below {W W' : World} {sv : Value} {X : List W3} (h : SrcW W sv X) (hb : Below W.heap.size W W') : SrcW W' sv X := by
  rcases h with h | ⟨ad, c, e, hr⟩
  · exact .inl h
  · exact .inr ⟨ad, c, e, hr.below hb (Nat.le_refl _) hb.size⟩
theorem cells_of_rowsW {W : World} {B : Nat} {ad : Addr} {X : List W3} (h : RowsW W B (some ad) X) : ∀ j u, (cellsW X)[j]? = some u → W.cell? (ad.add j) = some u := by
  intro j u hu
  have hj : j < X.length * 3 := by
    have := (List.getElem?_eq_some_iff.1 hu).1
    rwa [cellsW_length] at this
  have hne : X ≠ [] := by rintro rfl; simp at hj
  obtain ⟨b, o, e, _, hc⟩ := h hne
  have e' : ad = ⟨b, o, none⟩ := Option.some.inj e
  subst e'
  have hi : j / 3 < X.length := by omega
  have hx : X[j / 3]? = some X[j / 3] := List.getElem?_eq_getElem hi
  have P := hc (j / 3) _ hx
  have hat := cellsW_at X (j / 3) _ hx (j % 3) (by omega)
  rw [show j / 3 * 3 + j % 3 = j by omega, hu] at hat
  have ea : (⟨b, o, none⟩ : Addr).add j = ⟨b, o + j / 3 * 3 + j % 3, none⟩ := by
    unfold Addr.add
    by_cases h0 : j = 0
    · subst h0; simp
    · simp [h0]; omega
  rw [ea]
  have hr : j % 3 = 0 ∨ j % 3 = 1 ∨ j % 3 = 2 := by omega
  rcases hr with hr | hr | hr <;> rw [hr] at hat ⊢
  · rw [hat]; exact P.c0
  · rw [hat]; exact P.c1
  · rw [hat]; exact P.c2
theorem wpList_app {w : World} {ops : Array Oper} {rest : List Oper} {o : Oper} {a : Act} {Q : Exit → Act → World → Prop} (hgd : o.guard = none) (s xo : Operand)
    (ho : o.op = .call { callee := .builtin .append, args := #[s, xo], argTypes := #[22, 22] })
    (base : Nat) (v : Value) (n : Nat) (xs : List Value) (hs : a.eval s = v) (hown : w.ownsRow base 79 3 v n xs)
    (sv : Value) (X : List W3) (hx : a.eval xo = sv) (hr : SrcW w sv X)
    (hlen : (n + X.length) * 40 ≤ 140737488355328) (hbase : base ≤ w.heap.size)
    (h : ∀ v' w', w'.ownsRow base 79 3 v' (n + X.length) (xs ++ cellsW X) → w.grownBy w' v.ownBlock → wpList Tryd.prog ops Q rest (a.put o.dst v') w') : wpList Tryd.prog ops Q (o :: rest) a w := by
  refine wpList_plain hgd fun K hK => ?_
  obtain ⟨i0, hi0, hz0, hz1, hz2⟩ := info_parts rwr_info
  rcases hr with ⟨rfl, rfl⟩ | ⟨ad, c, rfl, hr⟩
  · have hrun := run_append_owned_none (P := Tryd.prog) (w := w) base 22 o.type 79 i0 3 Tryd.underlying22 hi0 v n xs hown
    unfold Oper.wp
    simp [execOp, ho, resolve, invoke, builtin, hs, hx, hrun, Result.andThen]
    exact hK _ _ (h v w (by simpa [cellsW] using hown) (World.grownBy.refl _ _))
  · exact wp_append_own w s xo 22 ho base 79 i0 _ 3 40 Tryd.underlying22 hi0 hz0 hz1 hz2 rfl (by decide) v n xs hs hown ad X.length c (cellsW X) hx (cellsW_length X) (cells_of_rowsW hr) (cellsW_one X)
      (by unfold maxLen; omega) hlen hbase fun v' w' h2 h3 _ => hK _ _ (h v' w' h2 h3)
theorem wpList_sl {P : Program} {w : World} {ops : Array Oper} {rest : List Oper} {o : Oper} {a : Act} {Q : Exit → Act → World → Prop} (hgd : o.guard = none) {sv xv : Value} {t : TypeId} {x : Operand} {lo hi : Option Operand} {lo' hi' : Option Value} (ho : o.op = .slice t x lo hi none) (hx : a.eval x = xv) (hlo : lo.map a.eval = lo') (hhi : hi.map a.eval = hi')
    (hr : (Instr.sliceAt t xv lo' hi' none).run P w = .ok sv w) (h : wpList P ops Q rest (a.put o.dst sv) w) : wpList P ops Q (o :: rest) a w := by
  refine wpList_plain hgd fun K hK => ?_
  unfold Oper.wp execOp
  simp only [ho, hx, hlo, hhi, Option.map_none, Sem.run_bind, hr, Result.andThen_ok, Sem.run_pure]
  exact hK _ _ h
theorem own_eW (W : World) (n base : Nat) (hn : W.heap.size = n) (hb : base ≤ n) : (W.alloc (.cells #[] 79)).ownsRow base 79 3 (.slice (some ⟨n, 0, none⟩) 0 0) 0 [] := by
  subst hn
  exact World.ownsRow_lit W #[] 0 hb (by unfold maxLen; omega) rfl
theorem rowsW_take {W : World} {B : Nat} {A : Option Addr} {X : List W3} (h : RowsW W B A X) (k : Nat) : RowsW W B A (X.take k) := fun hne => by
  obtain ⟨b, o, e, hb, hc⟩ := h (fun e => hne (by rw [e]; simp))
  refine ⟨b, o, e, hb, fun i x hi => hc i x ?_⟩
  rw [List.getElem?_take] at hi
  split at hi
  · exact hi
  · cases hi
theorem rowsW_drop {W : World} {B b o : Nat} {X : List W3} (h : RowsW W B (some ⟨b, o, none⟩) X) (k : Nat) : RowsW W B (some ⟨b, o + k * 3, none⟩) (X.drop k) := fun hne => by
  obtain ⟨b', o', e, hb, hc⟩ := h (fun e => hne (by rw [e]; simp))
  cases e
  refine ⟨b, o + k * 3, rfl, hb, fun i x hi => ?_⟩
  rw [List.getElem?_drop] at hi
  have := hc (k + i) x hi
  rwa [show o + (k + i) * 3 = o + k * 3 + i * 3 by omega] at this
theorem rowsW_empty {W : World} {B : Nat} {A : Option Addr} {X : List W3} (h : X.length = 0) : RowsW W B A X := fun hne => absurd (List.eq_nil_of_length_eq_zero h) hne
/-- the reslicings of a list that the store owns. -/
theorem slToW {W0 : World} {base : Nat} {v : Value} {X : List W3} (O : W0.ownsRow base 79 3 v X.length (cellsW X)) (k : Nat) (hk : k ≤ X.length) :
    ∃ sv, (∀ w, (Instr.sliceAt 22 v none (some (.int .i64 (k : Int))) none).run Tryd.prog w = .ok sv w) ∧ SrcW W0 sv (X.take k) := by
  have O' := O
  rcases O.2 with ⟨rfl, hn⟩ | ⟨g, cap, cur, rfl, hb, hg, hnc, hcm, hcs, ht⟩
  · have : X = [] := List.eq_nil_of_length_eq_zero hn
    subst this
    obtain rfl : k = 0 := by simpa using hk
    exact ⟨.slice none 0 0, fun w => by kernel_rfl, .inl ⟨rfl, rfl⟩⟩
  · refine ⟨.slice (some ⟨g, 0, none⟩) k cap, fun w => ?_, .inr ⟨⟨g, 0, none⟩, cap, by rw [List.length_take, Nat.min_eq_left hk], ?_⟩⟩
    · unfold maxLen at hcm
      have h1 : (0 : Int) ≤ (k : Int) := by omega
      have h2 : (k : Int) ≤ (cap : Int) := by omega
      go_simp
    · obtain ⟨A, c', e, R, _, _⟩ := rowsW_of_own O'
      cases e
      exact rowsW_take R k
theorem slFromW {W0 : World} {base : Nat} {v : Value} {X : List W3} (O : W0.ownsRow base 79 3 v X.length (cellsW X)) (k : Nat) (hk : k ≤ X.length) :
    ∃ sv, (∀ w, (Instr.sliceAt 22 v (some (.int .i64 (k : Int))) none none).run Tryd.prog w = .ok sv w) ∧ SrcW W0 sv (X.drop k) := by
  have O' := O
  rcases O.2 with ⟨rfl, hn⟩ | ⟨g, cap, cur, rfl, hb, hg, hnc, hcm, hcs, ht⟩
  · have : X = [] := List.eq_nil_of_length_eq_zero hn
    subst this
    obtain rfl : k = 0 := by simpa using hk
    exact ⟨.slice none 0 0, fun w => by kernel_rfl, .inl ⟨rfl, rfl⟩⟩
  · obtain ⟨A, c', e, R, _, _⟩ := rowsW_of_own O'
    cases e
    unfold maxLen at hcm
    have h1 : (0 : Int) ≤ (k : Int) := by omega
    have h2 : (k : Int) ≤ (X.length : Int) := by omega
    have h3 : (X.length : Int) ≤ (cap : Int) := by omega
    by_cases hc : cap = k
    · subst hc
      have hX : X.length = cap := by omega
      refine ⟨.slice (some ⟨g, 0, none⟩) (X.length - cap) (cap - cap), fun w => ?_, .inr ⟨⟨g, 0, none⟩, cap - cap, by simp, rowsW_empty (by simp; omega)⟩⟩
      go_simp
    · have h4 : (k : Int) < (cap : Int) := by omega
      refine ⟨.slice (some ⟨g, 0 + k * 3, none⟩) (X.length - k) (cap - k), fun w => ?_, .inr ⟨⟨g, 0 + k * 3, none⟩, cap - k, by simp, rowsW_drop R k⟩⟩
      go_simp
theorem srcOneW (W : World) (x : W3) (n : Nat) (hn : W.heap.size = n) : SrcW (W.alloc (.cells #[.string x.key, .string x.val, .bool x.has] 79)) (.slice (some ⟨n, 0, none⟩) 1 1) [x] := by
  subst hn
  refine .inr ⟨_, 1, rfl, rowsW_of_cells (by simp) fun j u hu => ?_⟩
  have := cells_newW W #[.string x.key, .string x.val, .bool x.has] 79 j u (by simpa [cellsW, W3.cells] using hu)
  rw [Nat.zero_add]
  by_cases h0 : j = 0
  · subst h0; exact this
  · simpa [Addr.add, h0] using this

/-- the list behind a write. -/
def apR (L : List W3) (x : W3) : List W3 := L.take (fndW L x.key) ++ ((if x.has then [x] else []) ++ L.drop (fndW L x.key + if atW L x.key then 1 else 0))
/-- the document's store. -/
def RSt (rb Bs : Nat) (L : List W3) (W : World) : Prop :=
  W.frozen? ⟨rb, 0, none⟩ = false ∧ rb < Bs ∧ Bs ≤ W.heap.size ∧ ∃ v, W.cell? ⟨rb, 0, none⟩ = some v ∧ W.ownsRow Bs 79 3 v L.length (cellsW L)
theorem RSt.grown {rb Bs : Nat} {X : List W3} {W W' : World} {row : Option Nat} (h : RSt rb Bs X W) (hg : W.grownBy W' row) (h1 : some rb ≠ row) (h2 : ∀ j, row = some j → j < Bs) : RSt rb Bs X W' := by
  obtain ⟨cf, hr, hB, v, c0, O⟩ := h
  refine ⟨(hg.frozen_far ⟨rb, 0, none⟩ (by show rb < _; omega) h1).trans cf, hr, Nat.le_trans hB hg.size, v, (hg.cell_far ⟨rb, 0, none⟩ (by show rb < _; omega) h1).trans c0, O.kept hg ?_⟩
  cases hv : v.ownBlock with
  | none => exact .inl rfl
  | some j => exact .inr fun e => by have := h2 j e.symm; have := (O.lt j hv).1; omega
theorem RSt.below {rb Bs : Nat} {X : List W3} {W W' : World} (h : RSt rb Bs X W) (hb : Below W.heap.size W W') : RSt rb Bs X W' := h.grown (grown_of_belowW hb none) (by simp) (fun _ e => by cases e)
theorem own_lowerW {W : World} {base base' size n : Nat} {e : TypeId} {v : Value} {xs : List Value} (h : W.ownsRow base e size v n xs) (hb : base' ≤ base) : W.ownsRow base' e size v n xs := by
  refine ⟨h.1, ?_⟩
  rcases h.2 with h2 | ⟨g, cap, cur, h1, h2, h3⟩
  · exact .inl h2
  · exact .inr ⟨g, cap, cur, h1, Nat.le_trans hb h2, h3⟩
theorem RSt.set {rb Bs : Nat} {X Y : List W3} {W W1 : World} {v' : Value} (h : RSt rb Bs X W) (hb : Below W.heap.size W W1) (O : W1.ownsRow W.heap.size 79 3 v' Y.length (cellsW Y)) : RSt rb Bs Y (W1.setCell ⟨rb, 0, none⟩ v') ∧ W.grownBy (W1.setCell ⟨rb, 0, none⟩ v') (some rb) := by
  obtain ⟨cf, hr, hB, v, c0, _⟩ := h
  have hl := World.block_lt_of_cell? W _ c0
  have g : ∀ {W0 : World}, Below W0.heap.size W0 W1 → W0.grownBy (W1.setCell ⟨rb, 0, none⟩ v') (some rb) := fun hb =>
    ⟨hb.os, hb.tape, hb.output, by simpa [World.setCell] using hb.size, fun k hk hne => (Below.heap_setCell _ _ _ _ (fun e => hne (by rw [e]))).trans (hb.block k hk)⟩
  have g1 := g (Below.refl W1.heap.size W1)
  have d0 := (hb.cell (p := ⟨rb, 0, none⟩) hl).trans c0
  have df := (hb.frozen (p := ⟨rb, 0, none⟩) hl).trans cf
  refine ⟨⟨by first | (simpa using df) | (go_simp; done), hr, Nat.le_trans hB (Nat.le_trans hb.size g1.size), v', World.cell?_setCell_same _ _ _ d0, (own_lowerW O hB).kept g1 ?_⟩, g hb⟩
  cases hv : v'.ownBlock with
  | none => exact .inl rfl
  | some j => exact .inr (fun e => by
      have h1 := (O.lt j hv).1
      injection e with e
      omega)
theorem own_apR {W : World} {base : Nat} {v : Value} {X Y Z A : List W3} (hA : A = X ++ (Y ++ Z)) (h : W.ownsRow base 79 3 v (0 + X.length + Y.length + Z.length) ((([] ++ cellsW X) ++ cellsW Y) ++ cellsW Z)) : W.ownsRow base 79 3 v A.length (cellsW A) := by
  subst hA
  have e1 : (X ++ (Y ++ Z)).length = 0 + X.length + Y.length + Z.length := by simp; omega
  have e2 : cellsW (X ++ (Y ++ Z)) = (([] ++ cellsW X) ++ cellsW Y) ++ cellsW Z := by simp [cellsW]
  rw [e1, e2]
  exact h

end Go.Proofs.YthmdnbgfnaokkaaDoor
