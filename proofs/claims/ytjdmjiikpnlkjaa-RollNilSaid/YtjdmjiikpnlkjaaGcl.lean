/-
  Lists of processes and of entries cloned; a value cloned: by contracts: the same, in rows of their own. Condition: they lie in memory.
-/
import Derived.Test.YtjdmjiikpnlkjaaGda
import Derived.Test.YtjdmjiikpnlkjaaEcn
import Derived.Deep.MidRow
import Derived.Deep.WholeRow
import Derived.LoopN
namespace Go.Proofs.Ytjdmjiikpnlkjaa
set_option linter.unusedSimpArgs false
set_option linter.unusedVariables false
open Go.RowKit Go.Maps Go.Sort
open V (P2)

/-- parts and writes lie as they lay. -/
def KeepL (W W' : World) : Prop := ∀ (g : Nat) (cur : Array Value) (t : TypeId), W.heap[g]? = some (.cells cur t (0, 0)) → (t = 114 ∨ t = 117) → W'.heap[g]? = some (.cells cur t (0, 0))
theorem Keeps.l {W W' : World} (k : Keeps W W') : KeepL W W' := fun g cur t h ht => k g cur t h (by rcases ht with rfl | rfl <;> simp [Ty])
theorem KeepL.trans {a b c : World} (h : KeepL a b) (k : KeepL b c) : KeepL a c := fun g cur t hg ht => k g cur t (h g cur t hg ht) ht
theorem KeepL.of_KP {W W' : World} {b : Nat} {cur : Array Value} {t : TypeId} (h : KP (fun k => k = b) W W') (hb : W.heap[b]? = some (.cells cur t (0, 0))) (h1 : t ≠ 114) (h2 : t ≠ 117) : KeepL W W' :=
  fun g cu u hg hu => (h.block g (Array.getElem?_eq_some_iff.1 hg).1 (apart_of hg hb (hu.elim (fun e => e ▸ h1.symm) fun e => e ▸ h2.symm))).trans hg
theorem LeO.keepL {e : Le} {W W' : World} (h : LeO e W) (k : KeepL W W') : LeO e W' :=
  ⟨RowO.keepB h.p fun g hg => by
    obtain ⟨cur, hc⟩ := RowO.block h.p g hg
    exact (k g cur _ hc (.inl rfl)).trans hc.symm, RowO.keepB h.w fun g hg => by
    obtain ⟨cur, hc⟩ := RowO.block h.w g hg
    exact (k g cur _ hc (.inr rfl)).trans hc.symm, h.hX, h.hY⟩
theorem EnO.cells {W : World} {g o n c : Nat} {L : List Le} {t : TypeId} (h : RowO W t 18 (.slice (some ⟨g, o, none⟩) n c) n (cellsE L)) {k : Nat} {e : Le} (hk : L[k]? = some e) : W.rangeAt g (o + k * 18) e.cs.toList := fun j u hj => by
  have hj18 : j < 18 := (List.getElem?_eq_some_iff.1 hj).1
  rw [Nat.add_assoc]
  exact RowO.cells h _ u ((cellsE_atG L k e hk j hj18).trans (by rw [← Array.getElem?_toList]; exact hj))
theorem there_row {W : World} {g o n : Nat} {cur : Array Value} {t : TypeId} (h : W.heap[g]? = some (.cells cur t (0, 0))) (hl : o + n ≤ cur.size) : W.there g o n := fun j hj =>
  ⟨by
    rw [cell_of_row _ _ _ _ _ _ h]
    simp
    omega, frz_row _ h⟩
/-- an entry of a row set anew. -/
theorem RowO.setE {W : World} {g n c : Nat} {Z : List Le} {t : TypeId} (h : RowO W t 18 (.slice (some ⟨g, 0, none⟩) n c) n (cellsE Z)) (hn : Z.length = n) {k : Nat} (hk : k < n) (e : Le) :
    RowO (W.setCells g (k * 18) e.cs.toList) t 18 (.slice (some ⟨g, 0, none⟩) n c) n (cellsE (Z.set k e)) ∧ W.there g (k * 18) 18 := by
  subst hn
  have hlen : e.cs.toList.length = 18 := rfl
  rcases h.2 with ⟨h0, _⟩ | ⟨g', o', cap, cur, h1, hg, hnc, hcm, hcs, hcu⟩
  · cases h0
  · cases h1
    have hfit : k * 18 + 18 ≤ cur.size := by omega
    have ht := there_row (o := k * 18) (n := 18) hg hfit
    obtain ⟨cur', k1, k2, k3⟩ := setCells_rowE e.cs.toList (k * 18) W cur hg
    refine ⟨⟨by rw [cellsE_length, List.length_set], .inr ⟨g, 0, c, cur', rfl, k1, hnc, hcm, by rw [k2]; exact hcs, fun j u hu => ?_⟩⟩, ht⟩
    have hjl := (List.getElem?_eq_some_iff.1 hu).1
    rw [cellsE_length, List.length_set] at hjl
    have ej : j / 18 * 18 + j % 18 = j := by omega
    have hm : j % 18 < 18 := by omega
    have hi : j / 18 < Z.length := by omega
    rw [Nat.zero_add]
    by_cases e1 : j / 18 = k
    · have a1 := cellsE_atG (Z.set k e) (j / 18) e (by rw [e1, List.getElem?_set_self (by omega)]) (j % 18) hm
      rw [ej, hu] at a1
      have a2 := World.cell?_setCells_in g e.cs.toList (k * 18) W (fun i hi => (ht i (by rw [hlen] at hi; exact hi)).1) (j % 18) (by rw [hlen]; exact hm)
      rw [cell_of_row _ _ _ _ _ _ k1, show k * 18 + j % 18 = j by omega] at a2
      rw [a2, a1, ← Array.getElem?_toList]
      exact (List.getElem?_eq_getElem _).symm
    · have a1 := cellsE_atG (Z.set k e) (j / 18) (Z[j / 18]) (by rw [List.getElem?_set_ne (Ne.symm e1)]; exact List.getElem?_eq_getElem hi) (j % 18) hm
      have a2 := cellsE_atG Z (j / 18) (Z[j / 18]) (List.getElem?_eq_getElem hi) (j % 18) hm
      rw [ej, hu] at a1
      rw [ej] at a2
      rw [k3 j (by rw [hlen]; omega)]
      have := hcu j u (by rw [a2]; exact a1.symm)
      rwa [Nat.zero_add] at this

theorem setRow_heapG (W : World) (g : Nat) (cs new : Array Value) (t : TypeId) (fr : Nat × Nat) (h : W.heap[g]? = some (.cells cs t fr)) : (W.setRow g new).heap[g]? = some (.cells new t fr) := by
  simp [World.setRow, Array.getElem?_modify, h]
theorem Le.oneB (e : Le) : e.cs.all (·.oneCell') = true := by simp [Le.cs, Value.oneCell']
theorem prI : (Try.prog.info? 49).map (fun i => (i.zero, i.size, i.bytes)) = some (some (.agg #[.int .u8 0, .int .u16 0]), 2, 4) := by kernel_rfl
theorem addrsOf_E {W : World} {B : Nat} {ad : Addr} {L : List Le} (h : RowsE W B (some ad) L) : ∀ j u, (cellsE L)[j]? = some u → W.cell? (ad.add j) = some u := by
  intro j u hj
  have hl := (List.getElem?_eq_some_iff.1 hj).1
  rw [cellsE_length] at hl
  have hne : L ≠ [] := by
    rintro rfl
    simp at hl
  obtain ⟨b, o, e, hb, C⟩ := h hne
  cases e
  have hi : j / 18 < L.length := by omega
  have hm : j % 18 < 18 := by omega
  have ej : j / 18 * 18 + j % 18 = j := by omega
  have a1 := cellsE_atG L (j / 18) (L[j / 18]) (List.getElem?_eq_getElem hi) (j % 18) hm
  rw [ej, hj] at a1
  have := (C (j / 18) (L[j / 18]) (List.getElem?_eq_getElem hi)).1 (j % 18) u a1.symm
  rw [addE]
  rwa [show o + j = o + j / 18 * 18 + j % 18 by omega]
theorem cellsE_oneL (L : List Le) : ∀ u ∈ cellsE L, u.oneCell' = true := by
  induction L with
  | nil => intro u hu; cases hu
  | cons e L ih =>
    intro u hu
    rcases List.mem_append.1 (show u ∈ e.cs.toList ++ cellsE L from hu) with h | h
    · exact cellsE_one e u h
    · exact ih u h

set_option maxRecDepth 100000 in
set_option maxHeartbeats 2000000 in
theorem cloneV (A : Option Addr) (L : List P2) (c : Nat) (w : World) (hr : V.RowsV w w.heap.size A L) (hl : L.length ≤ 1000) (hc : L.length ≤ c) (hm : c ≤ maxLen) (hA : A = none → L = [] ∧ c = 0) :
    Calls Try.prog 50 #[.slice A L.length c] w fun e w' => ∃ v, e = .returned v ∧ w'.ownsRow w.heap.size 49 2 v L.length (V.cellsV L) ∧ Below w.heap.size w w' := by
  obtain ⟨i0, hi0, hz0, hz1, hz2⟩ := info_parts prI
  unfold maxLen at hm
  have q : ∀ (w : World) (a : Option Addr) (n c n' c' : Nat), (binOp .eql 43 (.slice a n c) (.slice none n' c')).run Try.prog w = .ok (.bool a.isNone) w := fun w a n c n' c' => Lib.run_eql_slice_nil w _ _ a n c n' c' Try.underlying43
  have HR := Lib.hid hr
  clear hr
  cases A with
  | none =>
    obtain ⟨rfl, rfl⟩ := hA rfl
    go_enter Try.func50, Try.ntmps50
    go_wp2
    go_ret
    exact ⟨_, rfl, ⟨rfl, .inl ⟨rfl, rfl⟩⟩, Below.refl _ _⟩
  | some ad =>
    have AA := Lib.hid (V.cells_of_rowsV HR.out)
    go_enter Try.func50, Try.ntmps50
    go_wp2_with (at_builtin; refine wpList_append_own _ rfl _ _ 43 rfl w.heap.size 49 i0 _ 2 4 Try.underlying43 hi0 hz0 hz1 hz2 rfl (by decide) _ _ _ rfl (World.ownsRow_made w #[] 0 (Nat.le_refl _) (Nat.zero_le _) rfl) ad L.length c (V.cellsV L) rfl (V.cellsV_length L) ?qc2 (V.cellsV_one L) (by unfold maxLen; omega) (by omega) (by simp) ?_)
    case qc2 =>
      intro j u hj
      exact Lib.cell?_alloc_some _ (AA.out j u hj)
    intro v' w1 hown hgrow hnil
    have O := Lib.hid hown
    have G := Lib.hid (((Below.refl w.heap.size w).alloc (Nat.le_refl _) _).grown hgrow (by simp) (by intro k hk; simp [Value.ownBlock] at hk; omega))
    clear hown hgrow hnil
    go_wp2
    go_ret
    exact ⟨v', rfl, by simpa using O.out, G.out⟩

set_option maxRecDepth 100000 in
set_option maxHeartbeats 2000000 in
theorem cloneT (A : Option Addr) (L : List Le) (c : Nat) (w : World) (hr : RowsE w w.heap.size A L) (hl : L.length ≤ 1000) (hc : L.length ≤ c) (hm : c ≤ maxLen) (hA : A = none → L = [] ∧ c = 0) :
    Calls Try.prog 51 #[.slice A L.length c] w fun e w' => ∃ v, e = .returned v ∧ w'.ownsRow w.heap.size 63 18 v L.length (cellsE L) ∧ Below w.heap.size w w' := by
  obtain ⟨i0, hi0, hz0, hz1, hz2⟩ := info_parts entI
  unfold maxLen at hm
  have q : ∀ (w : World) (a : Option Addr) (n c n' c' : Nat), (binOp .eql 37 (.slice a n c) (.slice none n' c')).run Try.prog w = .ok (.bool a.isNone) w := fun w a n c n' c' => Lib.run_eql_slice_nil w _ _ a n c n' c' Try.underlying37
  have HR := Lib.hid hr
  clear hr
  cases A with
  | none =>
    obtain ⟨rfl, rfl⟩ := hA rfl
    go_enter Try.func51, Try.ntmps51
    go_wp2
    go_ret
    exact ⟨_, rfl, ⟨rfl, .inl ⟨rfl, rfl⟩⟩, Below.refl _ _⟩
  | some ad =>
    have AA := Lib.hid (addrsOf_E HR.out)
    go_enter Try.func51, Try.ntmps51
    go_wp2_with (at_builtin; refine wpList_append_own _ rfl _ _ 37 rfl w.heap.size 63 i0 _ 18 104 Try.underlying37 hi0 hz0 hz1 hz2 rfl (by decide) _ _ _ rfl (World.ownsRow_made w #[] 0 (Nat.le_refl _) (Nat.zero_le _) rfl) ad L.length c (cellsE L) rfl (cellsE_length L) ?qc2 (cellsE_oneL L) (by unfold maxLen; omega) (by omega) (by simp) ?_)
    case qc2 =>
      intro j u hj
      exact Lib.cell?_alloc_some _ (AA.out j u hj)
    intro v' w1 hown hgrow hnil
    have O := Lib.hid hown
    have G := Lib.hid (((Below.refl w.heap.size w).alloc (Nat.le_refl _) _).grown hgrow (by simp) (by intro k hk; simp [Value.ownBlock] at hk; omega))
    clear hown hgrow hnil
    go_wp2
    go_ret
    exact ⟨v', rfl, by simpa using O.out, G.out⟩

set_option maxRecDepth 100000 in
set_option maxHeartbeats 2000000 in
theorem cloneL (e : Le) (w : World) (h : e.At w w.heap.size) :
    Calls Try.prog 40 #[.agg e.cs] w fun r w' => ∃ e' : Le, r = .returned (.agg e'.cs) ∧ e'.v = e.v ∧ e'.Own w' w.heap.size ∧ Below w.heap.size w w' := by
  obtain ⟨x, A, X, c, B, Y, d⟩ := e
  refine (cloneE x A B X Y c d w h.rp h.rw_ h.hX h.hY h.hc h.hm h.hd h.hn).mono ?_
  rintro r w' ⟨A', c', B', d', rfl, o1, o2, b⟩
  exact ⟨⟨x, A', X, c', B', Y, d'⟩, rfl, rfl, ⟨o1, o2, h.hX, h.hY⟩, b⟩

end Go.Proofs.Ytjdmjiikpnlkjaa
