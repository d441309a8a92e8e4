/-
  Rows that begin anywhere in their block: what they hold, and append. No condition on any program.
-/
import Derived.Test.YtldbmmganicliaaJba
import Derived.Deep.AppendSrc
import Derived.Laws.IdiomCopy
namespace Go.Proofs.Ytldbmmganicliaa
set_option linter.unusedSimpArgs false
set_option linter.unusedVariables false
open Go.RowKit Go.Sort

/-- the cells of a list, of one size each. -/
def flat {α : Type} (f : α → Array Value) (L : List α) : List Value := L.flatMap fun x => (f x).toList
section
variable {α : Type} {f : α → Array Value} {sz : Nat}
theorem flat_nil : flat f [] = [] := rfl
theorem flat_cons (x : α) (L : List α) : flat f (x :: L) = (f x).toList ++ flat f L := rfl
theorem flat_append (L M : List α) : flat f (L ++ M) = flat f L ++ flat f M := by simp [flat]
theorem flat_len (hs : ∀ x, (f x).size = sz) (L : List α) : (flat f L).length = L.length * sz := by
  induction L with
  | nil => simp [flat]
  | cons x L ih =>
    rw [flat_cons, List.length_append, ih, Array.length_toList, hs, List.length_cons, Nat.add_mul]
    omega
theorem flat_at (hs : ∀ x, (f x).size = sz) : ∀ (L : List α) (i : Nat) (x : α), L[i]? = some x → ∀ j, j < sz → (flat f L)[i * sz + j]? = (f x)[j]?
  | [], _, _, h, _, _ => by simp at h
  | y :: L, 0, x, h, j, hj => by
    simp at h
    subst h
    rw [flat_cons, Nat.zero_mul, Nat.zero_add, List.getElem?_append_left (by rw [Array.length_toList, hs]; exact hj)]
    simp
  | y :: L, i + 1, x, h, j, hj => by
    simp at h
    rw [flat_cons, List.getElem?_append_right (by rw [Array.length_toList, hs, Nat.add_mul]; omega), ← flat_at hs L i x h j hj]
    congr 1
    rw [Array.length_toList, hs, Nat.add_mul]
    omega
theorem flat_drop (hs : ∀ x, (f x).size = sz) (L : List α) (k : Nat) (hk : k ≤ L.length) : (flat f L).drop (k * sz) = flat f (L.drop k) := by
  have e : flat f L = flat f (L.take k) ++ flat f (L.drop k) := by rw [← flat_append, List.take_append_drop]
  have l : (flat f (L.take k)).length = k * sz := by rw [flat_len hs, List.length_take, Nat.min_eq_left hk]
  rw [e, ← l, List.drop_left]
theorem flat_take (hs : ∀ x, (f x).size = sz) (L : List α) (k : Nat) (hk : k ≤ L.length) : (flat f L).take (k * sz) = flat f (L.take k) := by
  have e : flat f L = flat f (L.take k) ++ flat f (L.drop k) := by rw [← flat_append, List.take_append_drop]
  have l : (flat f (L.take k)).length = k * sz := by rw [flat_len hs, List.length_take, Nat.min_eq_left hk]
  rw [e, ← l, List.take_left]
theorem flat_one (h1 : ∀ x, ∀ u ∈ (f x).toList, u.oneCell' = true) (L : List α) : ∀ u ∈ flat f L, u.oneCell' = true := by
  intro u hu
  simp only [flat, List.mem_flatMap] at hu
  obtain ⟨x, _, h⟩ := hu
  exact h1 x u h
end

theorem setCells_rowE {g : Nat} {t : TypeId} {fr : Nat × Nat} : ∀ (vs : List Value) (o : Nat) (W : World) (cur : Array Value), W.heap[g]? = some (.cells cur t fr) → ∃ cur', (W.setCells g o vs).heap[g]? = some (.cells cur' t fr) ∧ cur'.size = cur.size ∧ ∀ j, j < o ∨ o + vs.length ≤ j → cur'[j]? = cur[j]?
  | [], _, _, cur, h => ⟨cur, h, rfl, fun _ _ => rfl⟩
  | v :: vs, o, W, cur, h => by
    obtain ⟨cur', h1, h2, h3⟩ := setCells_rowE vs (o + 1) (W.setCell ⟨g, o, none⟩ v) _ (row_set (i := o) h v)
    refine ⟨cur', h1, by rw [h2]; simp, fun j hj => ?_⟩
    rw [List.length_cons] at hj
    rw [h3 j (by omega), Array.getElem?_setIfInBounds_ne (by omega)]
theorem setCells_out {g k : Nat} (hk : k ≠ g) : ∀ (vs : List Value) (o : Nat) (W : World), (W.setCells g o vs).heap[k]? = W.heap[k]?
  | [], _, _ => rfl
  | v :: vs, o, W => (setCells_out hk vs (o + 1) (W.setCell ⟨g, o, none⟩ v)).trans (Below.heap_setCell W _ v k hk)
theorem KP.setCells {S : Nat → Prop} {g : Nat} (hg : S g) : ∀ (vs : List Value) (o : Nat) (W : World), KP S W (W.setCells g o vs)
  | [], _, W => KP.refl S W
  | v :: vs, o, W => (KP.set W g o v hg).trans (KP.setCells hg vs (o + 1) (W.setCell ⟨g, o, none⟩ v)) fun _ _ h => h
theorem setCells_size {g : Nat} : ∀ (vs : List Value) (o : Nat) (W : World), (W.setCells g o vs).heap.size = W.heap.size
  | [], _, _ => rfl
  | v :: vs, o, W => (setCells_size vs (o + 1) (W.setCell ⟨g, o, none⟩ v)).trans (by simp [World.setCell])

/-- a row in memory, from any place of its block on. -/
def RowO (W : World) (e : TypeId) (sz : Nat) (v : Value) (n : Nat) (xs : List Value) : Prop :=
  xs.length = n * sz ∧ ((v = .slice none 0 0 ∧ n = 0) ∨
    ∃ g o cap cur, v = .slice (some ⟨g, o, none⟩) n cap ∧ W.heap[g]? = some (.cells cur e (0, 0)) ∧ n ≤ cap ∧ cap ≤ maxLen ∧ o + cap * sz ≤ cur.size ∧ ∀ j u, xs[j]? = some u → cur[o + j]? = some u)
theorem RowO.nil (W : World) (e : TypeId) (sz : Nat) : RowO W e sz (.slice none 0 0) 0 [] := ⟨by simp, .inl ⟨rfl, rfl⟩⟩
theorem RowO.of_owns {W : World} {base : Nat} {e : TypeId} {sz : Nat} {v : Value} {n : Nat} {xs : List Value} (h : W.ownsRow base e sz v n xs) : RowO W e sz v n xs := by
  refine ⟨h.1, ?_⟩
  rcases h.2 with h0 | ⟨g, cap, cur, rfl, _, hg, hn, hm, hs, ht⟩
  · exact .inl h0
  · refine .inr ⟨g, 0, cap, cur, rfl, hg, hn, hm, by omega, fun j u hu => ?_⟩
    rw [← ht, List.getElem?_take] at hu
    split at hu
    · rw [Nat.zero_add]
      simpa using hu
    · cases hu
theorem RowO.lt {W : World} {e : TypeId} {sz : Nat} {v : Value} {n : Nat} {xs : List Value} (h : RowO W e sz v n xs) : ∀ k, v.ownBlock = some k → k < W.heap.size := by
  intro k hk
  rcases h.2 with ⟨rfl, _⟩ | ⟨g, o, cap, cur, rfl, hg, _⟩
  · simp [Value.ownBlock] at hk
  · simp [Value.ownBlock] at hk
    subst hk
    exact (Array.getElem?_eq_some_iff.1 hg).1
theorem RowO.block {W : World} {e : TypeId} {sz : Nat} {v : Value} {n : Nat} {xs : List Value} (h : RowO W e sz v n xs) : ∀ k, v.ownBlock = some k → ∃ cur, W.heap[k]? = some (.cells cur e (0, 0)) := by
  intro k hk
  rcases h.2 with ⟨rfl, _⟩ | ⟨g, o, cap, cur, rfl, hg, _⟩
  · simp [Value.ownBlock] at hk
  · simp [Value.ownBlock] at hk
    subst hk
    exact ⟨cur, hg⟩
theorem RowO.keepB {W W' : World} {e : TypeId} {sz : Nat} {v : Value} {n : Nat} {xs : List Value} (h : RowO W e sz v n xs) (hk : ∀ g, v.ownBlock = some g → W'.heap[g]? = W.heap[g]?) : RowO W' e sz v n xs := by
  refine ⟨h.1, ?_⟩
  rcases h.2 with h0 | ⟨g, o, cap, cur, rfl, hg, r⟩
  · exact .inl h0
  · exact .inr ⟨g, o, cap, cur, rfl, (hk g rfl).trans hg, r⟩
theorem RowO.keepK {W W' : World} {S : Nat → Prop} {e : TypeId} {sz : Nat} {v : Value} {n : Nat} {xs : List Value} (h : RowO W e sz v n xs) (k : KP S W W') (hn : ∀ g, v.ownBlock = some g → ¬ S g) : RowO W' e sz v n xs :=
  h.keepB fun g hg => k.block g (h.lt g hg) (hn g hg)
theorem RowO.below {W W' : World} {e : TypeId} {sz : Nat} {v : Value} {n : Nat} {xs : List Value} (h : RowO W e sz v n xs) (hb : Below W.heap.size W W') : RowO W' e sz v n xs :=
  h.keepB fun g hg => hb.block g (h.lt g hg)
theorem RowO.slice {W : World} {e : TypeId} {sz : Nat} {v : Value} {n : Nat} {xs : List Value} (h : RowO W e sz v n xs) : ∃ A c, v = .slice A n c ∧ n ≤ c ∧ c ≤ maxLen ∧ ((A = none ∧ c = 0) ∨ ∃ g o, A = some ⟨g, o, none⟩) := by
  rcases h.2 with ⟨rfl, h0⟩ | ⟨g, o, cap, cur, rfl, hg, h1, h2, r⟩
  · exact ⟨none, 0, by rw [h0], by omega, by unfold maxLen; omega, .inl ⟨rfl, rfl⟩⟩
  · exact ⟨_, cap, rfl, h1, h2, .inr ⟨g, o, rfl⟩⟩
theorem RowO.cells {W : World} {e : TypeId} {sz g o n c : Nat} {xs : List Value} (h : RowO W e sz (.slice (some ⟨g, o, none⟩) n c) n xs) : ∀ j u, xs[j]? = some u → W.cell? ⟨g, o + j, none⟩ = some u := by
  intro j u hu
  rcases h.2 with ⟨h0, _⟩ | ⟨g', o', cap, cur, h1, hg, _, _, _, r⟩
  · cases h0
  · cases h1
    rw [cell_of_row _ _ _ _ _ _ hg]
    exact r j u hu
/-- a struct of a row's element: all of its cells. -/
theorem RowO.elem {α : Type} {f : α → Array Value} {W : World} {e : TypeId} {sz g o n c : Nat} {L : List α} (hs : ∀ x, (f x).size = sz) (h : RowO W e sz (.slice (some ⟨g, o, none⟩) n c) n (flat f L)) {i : Nat} {x : α} (hi : L[i]? = some x) {j : Nat} (hj : j < sz) : W.cell? ⟨g, o + i * sz + j, none⟩ = (f x)[j]? := by
  have e1 := flat_at hs L i x hi j hj
  have e2 : (f x)[j]? = some ((f x)[j]'(by rw [hs]; exact hj)) := by simp [hs, hj]
  rw [e2] at e1 ⊢
  rw [Nat.add_assoc]
  exact h.cells _ _ e1

section
variable {P : Program} (W : World)
theorem run_appO (t ty e : TypeId) (i : TypeInfo) (z : Value) (sz bytes : Nat) (ht : P.underlying t = some (.slice e)) (hi : P.info? e = some i) (hz : i.zero = some z)
    (hsize : i.size = sz) (hby : i.bytes = bytes) (hzs : z.cells.size = sz) (hsz : 0 < sz)
    (v : Value) (n : Nat) (xs : List Value) (h : RowO W e sz v n xs)
    (a : Addr) (m c : Nat) (news : List Value) (hl : news.length = m * sz) (hnews : ∀ j u, news[j]? = some u → W.cell? (a.add j) = some u) (h1 : ∀ u ∈ news, u.oneCell' = true)
    (hm : 0 < m) (hlen : n + m ≤ 100000) (hbytes : bytes ≤ 1000) :
    ∃ v' W', (Builtin.append_ #[t, t] ty #[v, .slice (some a) m c]).run P W = .ok v' W' ∧ RowO W' e sz v' (n + m) (xs ++ news) ∧ W.grownBy W' v.ownBlock ∧ (v'.ownBlock = v.ownBlock ∨ ∃ k, v'.ownBlock = some k ∧ W.heap.size ≤ k) := by
  subst hsize
  subst hby
  have hbb : (n + m) * i.bytes ≤ 100000000 := by
    have := Nat.mul_le_mul hlen hbytes
    omega
  have hlx : (xs ++ news).length = (n + m) * i.size := by rw [List.length_append, h.1, hl, Nat.add_mul]
  have hml : n + m ≤ maxLen := by unfold maxLen; omega
  have grown : ∀ (old : Nat), ∃ v' W', W.drew.alloc (.cells (xs.toArray ++ news.toArray ++ Builtin.zeroCells z.cells (grownCap W (n + m) old e - (n + m))) e) = W' ∧ .slice (some ⟨W.heap.size, 0, none⟩) (n + m) (grownCap W (n + m) old e) = v' ∧
      RowO W' e i.size v' (n + m) (xs ++ news) ∧ (∀ row, W.grownBy W' row) ∧ v'.ownBlock = some W.heap.size := by
    intro old
    have hge := grownCap_ge W (n + m) old e
    have hcm : grownCap W (n + m) old e ≤ maxLen := grownCap_le_maxLen W (n + m) old e hml
    refine ⟨_, _, rfl, rfl, ⟨hlx, .inr ⟨W.heap.size, 0, _, _, rfl, heap_alloc_new W.drew _, hge, hcm, ?_, ?_⟩⟩, fun row => ⟨rfl, rfl, rfl, by simp, fun k hk _ => heap_alloc_old W.drew _ hk⟩, rfl⟩
    · simp only [Array.size_append, List.size_toArray, size_zeroCells, hzs, h.1, hl, ← Nat.add_mul]
      rw [Nat.zero_add]
      refine Nat.mul_le_mul_right _ ?_
      omega
    · intro j u hu
      have hj := (List.getElem?_eq_some_iff.1 hu).1
      rw [Nat.zero_add, ← Array.getElem?_toList]
      simp only [Array.toList_append]
      rw [List.getElem?_append_left (by simpa using hj)]
      exact hu
  rcases h.2 with ⟨rfl, rfl⟩ | ⟨g, o, cap, cur, rfl, hg, hnc, hcm, hcs, hcu⟩
  · have hx : xs = [] := List.eq_nil_of_length_eq_zero (by simpa using h.1)
    subst hx
    have hr := run_append_nil (P := P) W t ty e i z ht hi hz a m c news hl hnews hm (by omega) (by simp only [Nat.zero_add] at hbb; omega)
    obtain ⟨v', W', e1, e2, e3, e4, e5⟩ := grown 0
    simp only [Nat.zero_add, List.nil_append, Array.empty_append] at e1 e2 e3 ⊢
    rw [e1, e2] at hr
    exact ⟨v', W', hr, e3, e4 _, .inr ⟨_, e5, Nat.le_refl _⟩⟩
  · by_cases hroom : n + m ≤ cap
    · have hfit : o + n * i.size + news.length ≤ cur.size := by
        have := Nat.mul_le_mul_right i.size hroom
        rw [Nat.add_mul] at this
        rw [hl]
        omega
      have hs := Src.ofSlice (P := P) W ht a m c news hl hnews h1
      have hc : ∀ j, j < news.length → (W.cell? ⟨g, o + n * i.size + j, none⟩).isSome = true := fun j hj => by
        rw [cell_of_row _ _ _ _ _ _ hg]
        simp
        omega
      have hr := run_append_room_src (P := P) W t t ty e i ht hi g o n cap (.slice (some a) m c) m news hs hroom hc (fun j _ => frz_row _ hg)
      obtain ⟨cur', k1, k2, k3⟩ := setCells_rowE news (o + n * i.size) W cur hg
      refine ⟨_, _, hr, ⟨hlx, .inr ⟨g, o, cap, cur', rfl, k1, hroom, hcm, by rw [k2]; exact hcs, fun j u hu => ?_⟩⟩, ⟨(KP.setCells (S := fun k => k = g) rfl _ _ _).os, (KP.setCells (S := fun k => k = g) rfl _ _ _).tape, (KP.setCells (S := fun k => k = g) rfl _ _ _).output, by rw [setCells_size]; exact Nat.le_refl _, fun k _ hk => setCells_out (fun e => hk (by rw [e]; rfl)) _ _ _⟩, .inl rfl⟩
      by_cases hj : j < xs.length
      · rw [List.getElem?_append_left hj] at hu
        rw [k3 _ (.inl (by rw [← h.1]; omega))]
        exact hcu j u hu
      · rw [List.getElem?_append_right (by omega)] at hu
        have hj2 := (List.getElem?_eq_some_iff.1 hu).1
        have := World.cell?_setCells_in g news (o + n * i.size) W hc (j - xs.length) hj2
        rw [cell_of_row _ _ _ _ _ _ k1] at this
        rw [show o + j = o + n * i.size + (j - xs.length) by rw [← h.1]; omega, this]
        exact (List.getElem?_eq_getElem hj2).symm.trans hu
    · have holds : ∀ j u, xs[j]? = some u → W.cell? ((⟨g, o, none⟩ : Addr).add j) = some u := fun j u hu => by
        rw [addr_add, cell_of_row _ _ _ _ _ _ hg]
        exact hcu j u hu
      have hr := run_append_grow (P := P) W t ty e i z ht hi hz ⟨g, o, none⟩ n cap xs h.1 holds a m c news hl hnews (by omega) (by omega) (growslice_fits (by omega) (by omega))
      obtain ⟨v', W', e1, e2, e3, e4, e5⟩ := grown cap
      rw [e1, e2] at hr
      exact ⟨v', W', hr, e3, e4 _, .inr ⟨_, e5, Nat.le_refl _⟩⟩
end
theorem wp_appO {P : Program} {w : World} {o : Oper} {a : Act} {K : Act → World → Prop} {Q : Exit → Act → World → Prop} (d : Tmp) (hd : o.dst = some d) (s x : Operand) (t e : TypeId)
    (ho : o.op = .call { callee := .builtin .append, args := #[s, x], argTypes := #[t, t] }) (i : TypeInfo) (z : Value) (sz bytes : Nat) (ht : P.underlying t = some (.slice e)) (hi : P.info? e = some i) (hz : i.zero = some z)
    (hsize : i.size = sz) (hby : i.bytes = bytes) (hzs : z.cells.size = sz) (hsz : 0 < sz)
    (v : Value) (n : Nat) (xs : List Value) (hs : a.eval s = v) (hr : RowO w e sz v n xs)
    (ad : Addr) (m c : Nat) (news : List Value) (hx : a.eval x = .slice (some ad) m c) (hl : news.length = m * sz) (hnews : ∀ j u, news[j]? = some u → w.cell? (ad.add j) = some u) (h1 : ∀ u ∈ news, u.oneCell' = true)
    (hm : 0 < m) (hlen : n + m ≤ 100000) (hbytes : bytes ≤ 1000)
    (h : ∀ v' w', RowO w' e sz v' (n + m) (xs ++ news) → w.grownBy w' v.ownBlock → (v'.ownBlock = v.ownBlock ∨ ∃ k, v'.ownBlock = some k ∧ w.heap.size ≤ k) → K (a.put (some d) v') w') : o.wp P a w K Q := by
  rw [← hd] at h
  obtain ⟨v', w', hrun, h2, h3, h4⟩ := run_appO (P := P) w t o.type e i z sz bytes ht hi hz hsize hby hzs hsz v n xs hr ad m c news hl hnews h1 hm hlen hbytes
  unfold Oper.wp execOp
  simp only [ho, resolve, invoke, builtin, Sem.run_bind, Sem.run_pure, Result.andThen_ok, List.map_toArray, List.map_cons, List.map_nil, hs, hx, hrun]
  exact h v' w' h2 h3 h4
theorem wpOp_any {P : Program} {w : World} {ops : Array Oper} {o : Oper} {i : Nat} {a : Act} {K : Act → World → Prop} {Q : Exit → Act → World → Prop} (hi : ops[i]? = some o) (hgd : o.guard = none) (h : o.wp P a w K Q) : wpOp P ops Q i K a w := by
  unfold wpOp
  simp only [hi]
  rw [if_pos (by simp [Region.wanted, hgd])]
  exact .inl h

end Go.Proofs.Ytldbmmganicliaa
