/-
  The document's wheel in memory: a list of timers in their order; find, Len, At, Next: by exact answers. Condition: the wheel lies in memory.
-/
import Derived.Test.YtfekkfphogjpeaaYeq
namespace Go.Proofs.Ytfekkfphogjpeaa
set_option linter.unusedSimpArgs false
set_option linter.unusedVariables false
open Go.RowKit Go.Maps Go.Sort

/-- a timer's cells. -/
def Tm.cs (t : Tm) : Array Value := #[.int .u8 t.k.k, .int .u8 t.k.pn, .int .u16 t.k.pl, .int .u8 t.k.x.n, .int .u16 t.k.x.l, .int .u32 t.k.x.s, .int .u8 t.k.x.d, .int .u8 t.k.x.a0, .int .u8 t.k.x.a1, .int .u8 t.k.x.b0, .int .u8 t.k.x.b1, .int .u8 t.k.x.c0, .int .u8 t.k.x.c1, .int .i64 t.at_]
def cellsT (T : List Tm) : List Value := T.flatMap fun t => t.cs.toList
theorem cellsT_length (T : List Tm) : (cellsT T).length = T.length * 14 := by
  induction T with
  | nil => rfl
  | cons x X ih =>
    show (x.cs.toList ++ cellsT X).length = _
    rw [List.length_append, ih]
    simp [Tm.cs]
    omega
theorem cellsT_append (X Y : List Tm) : cellsT (X ++ Y) = cellsT X ++ cellsT Y := by simp [cellsT]
theorem cellsT_at (X : List Tm) : ∀ (i : Nat) (x : Tm), X[i]? = some x → ∀ j, j < 14 → (cellsT X)[i * 14 + j]? = x.cs[j]? := by
  induction X with
  | nil => intro i x h; simp at h
  | cons y X ih =>
    intro i x h j hj
    show (y.cs.toList ++ cellsT X)[i * 14 + j]? = _
    cases i with
    | zero =>
      simp at h
      subst h
      rw [Nat.zero_mul, Nat.zero_add, List.getElem?_append_left (by simp [Tm.cs]; omega)]
      simp
    | succ i =>
      simp at h
      rw [List.getElem?_append_right (by simp [Tm.cs]; omega)]
      have := ih i x h j hj
      rw [← this]
      congr 1
      simp [Tm.cs]
      omega
theorem cellsT_one (X : List Tm) : ∀ u ∈ cellsT X, u.oneCell' = true := by
  intro u hu
  simp only [cellsT, List.mem_flatMap] at hu
  obtain ⟨x, _, h⟩ := hu
  simp only [Tm.cs, List.mem_cons, List.not_mem_nil, or_false] at h
  rcases h with rfl | rfl | rfl | rfl | rfl | rfl | rfl | rfl | rfl | rfl | rfl | rfl | rfl | rfl <;> rfl
/-- timers in a row, from a place on. -/
def RowT (W : World) (A : Option Addr) (T : List Tm) : Prop := T ≠ [] → ∃ g o, A = some ⟨g, o, none⟩ ∧ ∀ j u, (cellsT T)[j]? = some u → W.cell? ⟨g, o + j, none⟩ = some u
theorem RowT.same {W W' : World} {A : Option Addr} {T : List Tm} (h : RowT W A T) (hs : ∀ g o, A = some ⟨g, o, none⟩ → W'.heap[g]? = W.heap[g]?) : RowT W' A T := fun hne => by
  obtain ⟨g, o, e, hc⟩ := h hne
  exact ⟨g, o, e, fun j u hu => (cell_same (hs g o e)).trans (hc j u hu)⟩
theorem RowT.take {W : World} {A : Option Addr} {T : List Tm} (h : RowT W A T) (k : Nat) : RowT W A (T.take k) := fun hne => by
  have h0 : T ≠ [] := fun e => hne (by rw [e]; simp)
  obtain ⟨g, o, e, hc⟩ := h h0
  refine ⟨g, o, e, fun j u hu => hc j u ?_⟩
  have h2 : cellsT T = cellsT (T.take k) ++ cellsT (T.drop k) := by rw [← cellsT_append, List.take_append_drop]
  rw [h2, List.getElem?_append_left (List.getElem?_eq_some_iff.1 hu).1]
  exact hu
theorem RowT.drop {W : World} {g o o2 : Nat} {T : List Tm} (h : RowT W (some ⟨g, o, none⟩) T) (k : Nat) (ho : k < T.length → o2 = o + k * 14) : RowT W (some ⟨g, o2, none⟩) (T.drop k) := fun hne => by
  have hk : k < T.length := by
    rcases Nat.lt_or_ge k T.length with h | h
    · exact h
    · exact absurd (List.drop_eq_nil_of_le h) hne
  have h0 : T ≠ [] := fun e => by rw [e] at hk; simp at hk
  obtain ⟨g', o', e, hc⟩ := h h0
  cases e
  refine ⟨g, o2, rfl, fun j u hu => ?_⟩
  rw [ho hk, show o + k * 14 + j = o + (k * 14 + j) by omega]
  refine hc _ u ?_
  have h2 : cellsT T = cellsT (T.take k) ++ cellsT (T.drop k) := by rw [← cellsT_append, List.take_append_drop]
  rw [h2, List.getElem?_append_right (by rw [cellsT_length, List.length_take]; omega), cellsT_length, List.length_take, show min k T.length = k by omega, Nat.add_sub_cancel_left]
  exact hu
theorem RowT.at_ {W : World} {A : Option Addr} {T : List Tm} (h : RowT W A T) {i : Nat} {t : Tm} (hi : T[i]? = some t) : ∃ g o, A = some ⟨g, o, none⟩ ∧ ∀ j v, t.cs[j]? = some v → W.cell? ⟨g, o + i * 14 + j, none⟩ = some v := by
  obtain ⟨g, o, e, hc⟩ := h (by rintro rfl; simp at hi)
  refine ⟨g, o, e, fun j v hv => ?_⟩
  have hj : j < 14 := by
    have := (Array.getElem?_eq_some_iff.1 hv).1
    simpa [Tm.cs] using this
  rw [show o + i * 14 + j = o + (i * 14 + j) by omega]
  exact hc _ v ((cellsT_at T i t hi j hj).trans hv)

/-- the wheel of the document. -/
structure DW (W : World) (r most : Nat) (A : Option Addr) (c : Nat) (T : List Tm) : Prop where
  bag : W.heap[r]? = some (.cells #[.slice A T.length c, .int .i64 most] 78 (0, 0))
  row : RowT W A T
  adr : (A = none ∧ c = 0 ∧ T = []) ∨ ∃ g o cur, A = some ⟨g, o, none⟩ ∧ W.heap[g]? = some (.cells cur 83 (0, 0))
  le : T.length ≤ c
  cm : c ≤ maxLen
  few : T.length ≤ most
  most : most ≤ 512
  rng : ∀ t ∈ T, t.k.Rng
  srt : T.Pairwise fun a b => a.cmp b < 0
  ap : T.Pairwise fun a b => a.k ≠ b.k
theorem DW.rl {W : World} {r most : Nat} {A : Option Addr} {c : Nat} {T : List Tm} (h : DW W r most A c T) : r < W.heap.size := (Array.getElem?_eq_some_iff.1 h.bag).1
theorem DW.grown {W W' : World} {r most : Nat} {A : Option Addr} {c : Nat} {T : List Tm} {row : Option Nat} (h : DW W r most A c T) (hg : W.grownBy W' row) (hr : ∀ k cs t fr, row = some k → W.heap[k]? ≠ some (.cells cs t fr)) : DW W' r most A c T := by
  have hb : ∀ (k : Nat) (cs : Array Value) (t : TypeId) (fr : Nat × Nat), W.heap[k]? = some (.cells cs t fr) → W'.heap[k]? = some (.cells cs t fr) := fun k cs t fr hk => (hg.block k (Array.getElem?_eq_some_iff.1 hk).1 (fun e => hr k cs t fr e.symm hk)).trans hk
  refine ⟨hb _ _ _ _ h.bag, h.row.same fun g o e => ?_, ?_, h.le, h.cm, h.few, h.most, h.rng, h.srt, h.ap⟩
  · rcases h.adr with ⟨e2, _⟩ | ⟨g', o', cur, e2, hg'⟩
    · rw [e] at e2; cases e2
    · rw [e] at e2
      cases e2
      exact (hb _ _ _ _ hg').trans hg'.symm
  · rcases h.adr with h1 | ⟨g', o', cur, e2, hg'⟩
    · exact .inl h1
    · exact .inr ⟨g', o', cur, e2, hb _ _ _ _ hg'⟩
theorem DW.below {W W' : World} {r most : Nat} {A : Option Addr} {c : Nat} {T : List Tm} (h : DW W r most A c T) (hb : Below W.heap.size W W') : DW W' r most A c T := h.grown (grown_of_below hb none) (fun k cs t fr e => by cases e)

theorem new_dw (W : World) (k : Nat) (n : Int) (hk : k ≤ 512) (hn : n = k) : DW (W.alloc (.cells #[.slice none 0 0, .int .i64 n] 78)) W.heap.size k none 0 [] := by
  subst hn
  exact ⟨heap_alloc_new _ _, fun h => absurd rfl h, .inl ⟨rfl, rfl, rfl⟩, Nat.le_refl _, by unfold maxLen; omega, Nat.zero_le _, hk, (fun t h => by cases h), List.Pairwise.nil, List.Pairwise.nil⟩

set_option maxRecDepth 100000 in
set_option maxHeartbeats 1000000 in
theorem newD (most : Int) (W : World) :
    Calls Try.prog 9 #[.int .i64 most] W fun e W' => e = .returned (.pointer (some ⟨W.heap.size, 0, none⟩)) ∧ DW W' W.heap.size (mst most) none 0 [] ∧ Below W.heap.size W W' := by
  have hm : Hid ((mst most : Int) = min (max most 0) 512) := Lib.hid (by unfold mst; omega)
  have HM2 := Lib.hid (mst_le most)
  generalize mst most = k at hm HM2 ⊢
  go_enter Try.func9, Try.ntmps9
  go_wp2
  all_goals
    go_ret
    exact ⟨rfl, new_dw W _ _ HM2.out (by have := hm.out; omega), (Below.refl _ _).alloc (Nat.le_refl _) _⟩

set_option maxRecDepth 100000 in
set_option maxHeartbeats 1000000 in
theorem lenD (W : World) (r most : Nat) (A : Option Addr) (c : Nat) (T : List Tm) (h : DW W r most A c T) :
    Calls Try.prog 24 #[.pointer (some ⟨r, 0, none⟩)] W fun e W' => e = .returned (.int .i64 T.length) ∧ W = W' := by
  have c0 := cell_of h.bag 0 (.slice A T.length c) rfl
  generalize T.length = n at c0 ⊢
  clear h
  go_enter Try.func24, Try.ntmps24
  go_wp2
  go_ret
  exact ⟨rfl, rfl⟩

set_option maxRecDepth 100000 in
set_option maxHeartbeats 3000000 in
theorem findD (W : World) (r most : Nat) (A : Option Addr) (c : Nat) (T : List Tm) (x : K13) (h : DW W r most A c T) :
    Calls Try.prog 29 #[.pointer (some ⟨r, 0, none⟩), .agg x.cs] W fun e W' => ∃ i : Int, e = .returned (.int .i64 i) ∧ Below W.heap.size W W' ∧ ((i = -1 ∧ ∀ t ∈ T, t.k ≠ x) ∨ ∃ (j : Nat) (t : Tm), i = j ∧ T[j]? = some t ∧ t.k = x) := by
  obtain ⟨W1, hW1⟩ : ∃ W1, W.alloc (.cells x.cs 38) = W1 := ⟨_, rfl⟩
  have b1 : Below W.heap.size W W1 := by rw [← hW1]; exact (Below.refl _ _).alloc (Nat.le_refl _) _
  have r1 : W1.heap[W.heap.size]? = some (.cells x.cs 38 (0, 0)) := by rw [← hW1]; exact heap_alloc_new _ _
  have l1 : W1.heap.size = W.heap.size + 1 := by rw [← hW1]; simp
  have h1 := h.below b1
  have hs := h.few
  have hm := h.most
  obtain ⟨n, hn⟩ : ∃ n, T.length = n := ⟨_, rfl⟩
  have HN := Lib.hid hn
  have hnb : n ≤ 512 := by omega
  have HX1 := Lib.hid (show W1.heap[r]? = some (.cells #[.slice A n c, .int .i64 most] 78 (0, 0)) ∧ W1.heap[W.heap.size]? = some (.cells x.cs 38 (0, 0)) from ⟨by rw [← hn]; exact h1.bag, r1⟩)
  have HZ := Lib.hid (show (Try.prog.info? 38).map (·.size) = some x.cs.size by kernel_rfl)
  have HR := Lib.hid h1.row
  have HB := Lib.hid b1
  have HLE := h1.le
  have HW := Lib.hid hW1
  have L1 := Lib.hid l1
  have EQ := Lib.hid (fun (y : K13) (X : World) => eqKeyR y x X)
  rw [hn] at HLE
  have HLE2 : (n : Int) ≤ (c : Int) := by omega
  unfold K13.cs at HW HZ ⊢
  have HX2 := Lib.hid HX1.out
  unfold K13.cs at HX2
  clear h hW1 b1 r1 l1 h1 hs hm hn HX1
  go_enter Try.func29, Try.ntmps29
  go_wp2_with (rw [HW.out])
  go_loopw [5] (fun z wx => ∃ k : Nat, z = .int .i64 k ∧ k ≤ n ∧ Hid (∀ (j : Nat) (t : Tm), j < k → T[j]? = some t → t.k ≠ x) ∧ Hid (Below W1.heap.size W1 wx)) (fun z _ => n - (intOf z).toNat)
  case atStart => exact ⟨0, rfl, Nat.zero_le _, Lib.hid (fun j t hj => by omega), Lib.hid (Below.refl _ _)⟩
  case round =>
    obtain ⟨k, rfl, hk, NO, BW⟩ := hrel
    have HXr := Lib.hid (show wr.heap[r]? = some (.cells #[.slice A n c, .int .i64 most] 78 (0, 0)) ∧ wr.heap[W.heap.size]? = some (.cells #[.int .u8 x.k, .int .u8 x.pn, .int .u16 x.pl, .int .u8 x.x.n, .int .u16 x.x.l, .int .u32 x.x.s, .int .u8 x.x.d, .int .u8 x.x.a0, .int .u8 x.x.a1, .int .u8 x.x.b0, .int .u8 x.x.b1, .int .u8 x.x.c0, .int .u8 x.x.c1] 38 (0, 0)) from ⟨(BW.out.block r (Array.getElem?_eq_some_iff.1 HX2.out.1).1).trans HX2.out.1, (BW.out.block _ (by have := L1.out; omega)).trans HX2.out.2⟩)
    have e0 := cell_of HXr.out.1 0 (.slice A n c) rfl
    by_cases hlt : k < n
    · have h0 : (k : Int) < (n : Int) := by omega
      have hkl : k < T.length := by have := HN.out; omega
      obtain ⟨w5, hw5⟩ : ∃ w5, wr.drew = w5 := ⟨_, rfl⟩
      have b5 : Below wr.heap.size wr w5 := by rw [← hw5]; exact (Below.refl _ _).drew
      have BB5 := Lib.hid (BW.out.trans (b5.mono BW.out.size))
      have hx : T[k]? = some T[k] := List.getElem?_eq_getElem hkl
      have row5 : RowT w5 A T := HR.out.same fun g o e => by
        obtain ⟨g', o', e', hc'⟩ := HR.out (fun e2 => by rw [e2] at hkl; simp at hkl)
        have hg : g < W1.heap.size := by
          rw [e] at e'
          cases e'
          exact World.block_lt_of_cell? W1 _ (hc' 0 _ (List.getElem?_eq_getElem (by rw [cellsT_length]; omega)))
        exact BB5.out.block g hg
      obtain ⟨g, o, rfl, KT⟩ := row5.at_ hx
      have HX := Lib.hid (show w5.heap[r]? = some (.cells #[.slice (some ⟨g, o, none⟩) n c, .int .i64 most] 78 (0, 0)) ∧ w5.heap[W.heap.size]? = some (.cells #[.int .u8 x.k, .int .u8 x.pn, .int .u16 x.pl, .int .u8 x.x.n, .int .u16 x.x.l, .int .u32 x.x.s, .int .u8 x.x.d, .int .u8 x.x.a0, .int .u8 x.x.a1, .int .u8 x.x.b0, .int .u8 x.x.b1, .int .u8 x.x.c0, .int .u8 x.x.c1] 38 (0, 0)) from ⟨(b5.block r (Array.getElem?_eq_some_iff.1 HXr.out.1).1).trans HXr.out.1, (b5.block _ (Array.getElem?_eq_some_iff.1 HXr.out.2).1).trans HXr.out.2⟩)
      obtain ⟨t, ht⟩ : ∃ t, T[k] = t := ⟨_, rfl⟩
      rw [ht] at hx KT
      have HXT := Lib.hid hx
      have HW5 := Lib.hid hw5
      have E0 := Lib.hid (EQ.out t.k)
      have c0 : w5.cell? ⟨g, o + k * 14, none⟩ = some (.int .u8 t.k.k) := KT 0 _ rfl
      have c1 : w5.cell? ⟨g, o + k * 14 + 1, none⟩ = some (.int .u8 t.k.pn) := KT 1 _ rfl
      have c2 : w5.cell? ⟨g, o + k * 14 + 2, none⟩ = some (.int .u16 t.k.pl) := KT 2 _ rfl
      have c3 : w5.cell? ⟨g, o + k * 14 + 3, none⟩ = some (.int .u8 t.k.x.n) := KT 3 _ rfl
      have c4 : w5.cell? ⟨g, o + k * 14 + 4, none⟩ = some (.int .u16 t.k.x.l) := KT 4 _ rfl
      have c5 : w5.cell? ⟨g, o + k * 14 + 5, none⟩ = some (.int .u32 t.k.x.s) := KT 5 _ rfl
      have c6 : w5.cell? ⟨g, o + k * 14 + 6, none⟩ = some (.int .u8 t.k.x.d) := KT 6 _ rfl
      have c7 : w5.cell? ⟨g, o + k * 14 + 7, none⟩ = some (.int .u8 t.k.x.a0) := KT 7 _ rfl
      have c8 : w5.cell? ⟨g, o + k * 14 + 8, none⟩ = some (.int .u8 t.k.x.a1) := KT 8 _ rfl
      have c9 : w5.cell? ⟨g, o + k * 14 + 9, none⟩ = some (.int .u8 t.k.x.b0) := KT 9 _ rfl
      have c10 : w5.cell? ⟨g, o + k * 14 + 10, none⟩ = some (.int .u8 t.k.x.b1) := KT 10 _ rfl
      have c11 : w5.cell? ⟨g, o + k * 14 + 11, none⟩ = some (.int .u8 t.k.x.c0) := KT 11 _ rfl
      have c12 : w5.cell? ⟨g, o + k * 14 + 12, none⟩ = some (.int .u8 t.k.x.c1) := KT 12 _ rfl
      have k0 : (0 : Int) ≤ (k : Int) := by omega
      clear KT hx ht b5 row5 hw5 hkl
      go_wp2
      clear e0
      refine region_heldT (S := fun X => X = w5) 9 (by kernel_rfl) (by decide) (fun inv => ?_)
      change FirstH _ _ _ _ _ _ _ _ _ _ wr.drew
      rw [HW5.out]
      have HS : w5 = w5 := rfl
      refine FirstH.go (i := 0) (v := .pointer (some ⟨r, 0, none⟩)) rfl rfl _ rfl _ rfl (by kernel_rfl) (fun _ _ _ h => h) inv (fun X _ => by unfold bareO; go_simp) HS (fun inv => ?_)
      try simp only [Act.put, List.setIfInBounds_toArray, List.set_cons_zero, List.set_cons_succ]
      refine FirstH.go (i := 1) (v := .pointer (some ⟨r, 0, none⟩)) rfl rfl _ rfl _ rfl (by kernel_rfl) (fun _ _ _ h => h) inv (fun X _ => by unfold bareO; go_simp) HS (fun inv => ?_)
      try simp only [Act.put, List.setIfInBounds_toArray, List.set_cons_zero, List.set_cons_succ]
      refine FirstH.go (i := 2) (v := .pointer (some ⟨r, 0, none⟩)) rfl rfl _ rfl _ rfl (by kernel_rfl) (fun _ _ _ h => h) inv (fun X _ => by unfold bareO; go_simp) HS (fun inv => ?_)
      try simp only [Act.put, List.setIfInBounds_toArray, List.set_cons_zero, List.set_cons_succ]
      refine FirstH.go (i := 3) (v := .slice (some ⟨g, o, none⟩) n c) rfl rfl _ rfl _ rfl (by kernel_rfl) (fun _ _ _ h => h) inv (fun X hS => by subst hS; have c1 := cell_of HX.out.1 0 (.slice (some ⟨g, o, none⟩) n c) rfl; unfold bareO; go_simp) HS (fun inv => ?_)
      try simp only [Act.put, List.setIfInBounds_toArray, List.set_cons_zero, List.set_cons_succ]
      refine FirstH.go (i := 4) (v := .int .i64 k) rfl rfl _ rfl _ rfl (by kernel_rfl) (fun _ _ _ h => h) inv (fun X _ => by unfold bareO; go_simp) HS (fun inv => ?_)
      try simp only [Act.put, List.setIfInBounds_toArray, List.set_cons_zero, List.set_cons_succ]
      refine FirstH.go (i := 5) (v := .pointer (some ⟨g, o + k * 14, none⟩)) rfl rfl _ rfl _ rfl (by kernel_rfl) (fun _ _ _ h => h) inv (fun X _ => by unfold bareO; go_simp) HS (fun inv => ?_)
      try simp only [Act.put, List.setIfInBounds_toArray, List.set_cons_zero, List.set_cons_succ]
      refine FirstH.go (i := 6) (v := .pointer (some ⟨g, o + k * 14, none⟩)) rfl rfl _ rfl _ rfl (by kernel_rfl) (fun _ _ _ h => h) inv (fun X _ => by unfold bareO; go_simp) HS (fun inv => ?_)
      try simp only [Act.put, List.setIfInBounds_toArray, List.set_cons_zero, List.set_cons_succ]
      refine FirstH.go (i := 7) (v := .agg #[.int .u8 t.k.k, .int .u8 t.k.pn, .int .u16 t.k.pl, .int .u8 t.k.x.n, .int .u16 t.k.x.l, .int .u32 t.k.x.s, .int .u8 t.k.x.d, .int .u8 t.k.x.a0, .int .u8 t.k.x.a1, .int .u8 t.k.x.b0, .int .u8 t.k.x.b1, .int .u8 t.k.x.c0, .int .u8 t.k.x.c1]) rfl rfl _ rfl _ rfl (by kernel_rfl) (fun _ _ _ h => h) inv (fun X hS => by subst hS; unfold bareO; go_simp) HS (fun inv => ?_)
      try simp only [Act.put, List.setIfInBounds_toArray, List.set_cons_zero, List.set_cons_succ]
      refine FirstH.go (i := 8) (v := .agg #[.int .u8 x.k, .int .u8 x.pn, .int .u16 x.pl, .int .u8 x.x.n, .int .u16 x.x.l, .int .u32 x.x.s, .int .u8 x.x.d, .int .u8 x.x.a0, .int .u8 x.x.a1, .int .u8 x.x.b0, .int .u8 x.x.b1, .int .u8 x.x.c0, .int .u8 x.x.c1]) rfl rfl _ rfl _ rfl (by kernel_rfl) (fun _ _ _ h => h) inv (fun X hS => by subst hS; exact run_load_row 38 _ _ W.heap.size rfl _ _ _ _ HX.out.2 Try.underlying38 rfl HZ.out) HS (fun inv => ?_)
      try simp only [Act.put, List.setIfInBounds_toArray, List.set_cons_zero, List.set_cons_succ]
      clear HS c0 c1 c2 c3 c4 c5 c6 c7 c8 c9 c10 c11 c12
      refine ⟨by kernel_rfl, ?_⟩
      simp only [List.drop_succ_cons, List.drop_zero]
      refine wpList_val rfl 24 rfl _ rfl (eqOpR t.k x _ _ _ rfl rfl) ?_
      by_cases e : t.k = x
      · have hd : decide (t.k = x) = true := by simpa using e
        rw [hd]
        go_wp2
        go_ret
        exact ⟨k, rfl, HB.out.trans (BB5.out.mono HB.out.size), .inr ⟨k, t, rfl, HXT.out, e⟩⟩
      · have hd : decide (t.k = x) = false := by simpa using e
        rw [hd]
        have NO2 : Hid (∀ (j : Nat) (t : Tm), j < k + 1 → T[j]? = some t → t.k ≠ x) := Lib.hid fun j t' hj h2 => by
          rcases Nat.lt_or_eq_of_le (Nat.le_of_lt_succ hj) with h3 | h3
          · exact NO.out j t' h3 h2
          · subst h3
            have := HXT.out
            rw [h2] at this
            cases this
            exact e
        go_wp2
        go_roundw
        case rel => exact ⟨k + 1, by go_num, by omega, NO2, BB5⟩
        case measure => simp [intOf]; omega
    · obtain rfl : k = n := by omega
      go_wp2
      go_ret
      refine ⟨-1, rfl, HB.out.trans (BW.out.mono HB.out.size), .inl ⟨rfl, fun t ht => ?_⟩⟩
      obtain ⟨j, hj, e⟩ := List.getElem_of_mem ht
      exact NO.out j t (by have := HN.out; omega) (by rw [← e]; exact List.getElem?_eq_getElem hj)

end Go.Proofs.Ytfekkfphogjpeaa
