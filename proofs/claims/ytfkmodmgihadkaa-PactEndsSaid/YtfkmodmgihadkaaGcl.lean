/-
  Lists of processes and of entries cloned; a value cloned: by contracts: the same, in rows of their own. Condition: they lie in memory.
-/
import Derived.Test.YtfkmodmgihadkaaGda
import Derived.Test.YtfkmodmgihadkaaEcn
import Derived.Deep.MidRow
import Derived.Deep.WholeRow
import Derived.LoopN
namespace Go.Proofs.Ytfkmodmgihadkaa
set_option linter.unusedSimpArgs false
set_option linter.unusedVariables false
open Go.RowKit Go.Maps Go.Sort
open V (P2)

/-- parts and writes lie as they lay. -/
def KeepL (W W' : World) : Prop := ∀ (g : Nat) (cur : Array Value) (t : TypeId), W.heap[g]? = some (.cells cur t (0, 0)) → (t = 108 ∨ t = 103) → W'.heap[g]? = some (.cells cur t (0, 0))
theorem Keeps.l {W W' : World} (k : Keeps W W') : KeepL W W' := fun g cur t h ht => k g cur t h (by rcases ht with rfl | rfl <;> simp [Ty])
theorem KeepL.trans {a b c : World} (h : KeepL a b) (k : KeepL b c) : KeepL a c := fun g cur t hg ht => k g cur t (h g cur t hg ht) ht
theorem KeepL.of_KP {W W' : World} {b : Nat} {cur : Array Value} {t : TypeId} (h : KP (fun k => k = b) W W') (hb : W.heap[b]? = some (.cells cur t (0, 0))) (h1 : t ≠ 108) (h2 : t ≠ 103) : KeepL W W' :=
  fun g cu u hg hu => (h.block g (Array.getElem?_eq_some_iff.1 hg).1 (apart_of hg hb (hu.elim (fun e => e ▸ h1.symm) fun e => e ▸ h2.symm))).trans hg
theorem LeO.keepL {e : Le} {W W' : World} (h : LeO e W) (k : KeepL W W') : LeO e W' :=
  ⟨RowO.keepB h.p fun g hg => by
    obtain ⟨cur, hc⟩ := RowO.block h.p g hg
    exact (k g cur _ hc (.inl rfl)).trans hc.symm, RowO.keepB h.w fun g hg => by
    obtain ⟨cur, hc⟩ := RowO.block h.w g hg
    exact (k g cur _ hc (.inr rfl)).trans hc.symm, h.hX, h.hY⟩
theorem EnO.cells {W : World} {g o n c : Nat} {L : List Le} {t : TypeId} (h : RowO W t 18 (.slice (some ⟨g, o, none⟩) n c) n (cellsE L)) {k : Nat} {e : Le} (hk : L[k]? = some e) : W.rangeAt g (o + k * 18) e.cs.toList := fun j u hj => by
  have hj18 : j < 18 := (List.getElem?_eq_some_iff.1 hj).1
  rw [Nat.add_assoc]
  exact RowO.cells h _ u ((cellsE_atG L k e hk j hj18).trans (by rw [← Array.getElem?_toList]; exact hj))
theorem there_row {W : World} {g o n : Nat} {cur : Array Value} {t : TypeId} (h : W.heap[g]? = some (.cells cur t (0, 0))) (hl : o + n ≤ cur.size) : W.there g o n := fun j hj =>
  ⟨by
    rw [cell_of_row _ _ _ _ _ _ h]
    simp
    omega, frz_row _ h⟩
/-- an entry of a row set anew. -/
theorem RowO.setE {W : World} {g n c : Nat} {Z : List Le} {t : TypeId} (h : RowO W t 18 (.slice (some ⟨g, 0, none⟩) n c) n (cellsE Z)) (hn : Z.length = n) {k : Nat} (hk : k < n) (e : Le) :
    RowO (W.setCells g (k * 18) e.cs.toList) t 18 (.slice (some ⟨g, 0, none⟩) n c) n (cellsE (Z.set k e)) ∧ W.there g (k * 18) 18 := by
  subst hn
  have hlen : e.cs.toList.length = 18 := rfl
  rcases h.2 with ⟨h0, _⟩ | ⟨g', o', cap, cur, h1, hg, hnc, hcm, hcs, hcu⟩
  · cases h0
  · cases h1
    have hfit : k * 18 + 18 ≤ cur.size := by omega
    have ht := there_row (o := k * 18) (n := 18) hg hfit
    obtain ⟨cur', k1, k2, k3⟩ := setCells_rowE e.cs.toList (k * 18) W cur hg
    refine ⟨⟨by rw [cellsE_length, List.length_set], .inr ⟨g, 0, c, cur', rfl, k1, hnc, hcm, by rw [k2]; exact hcs, fun j u hu => ?_⟩⟩, ht⟩
    have hjl := (List.getElem?_eq_some_iff.1 hu).1
    rw [cellsE_length, List.length_set] at hjl
    have ej : j / 18 * 18 + j % 18 = j := by omega
    have hm : j % 18 < 18 := by omega
    have hi : j / 18 < Z.length := by omega
    rw [Nat.zero_add]
    by_cases e1 : j / 18 = k
    · have a1 := cellsE_atG (Z.set k e) (j / 18) e (by rw [e1, List.getElem?_set_self (by omega)]) (j % 18) hm
      rw [ej, hu] at a1
      have a2 := World.cell?_setCells_in g e.cs.toList (k * 18) W (fun i hi => (ht i (by rw [hlen] at hi; exact hi)).1) (j % 18) (by rw [hlen]; exact hm)
      rw [cell_of_row _ _ _ _ _ _ k1, show k * 18 + j % 18 = j by omega] at a2
      rw [a2, a1, ← Array.getElem?_toList]
      exact (List.getElem?_eq_getElem _).symm
    · have a1 := cellsE_atG (Z.set k e) (j / 18) (Z[j / 18]) (by rw [List.getElem?_set_ne (Ne.symm e1)]; exact List.getElem?_eq_getElem hi) (j % 18) hm
      have a2 := cellsE_atG Z (j / 18) (Z[j / 18]) (List.getElem?_eq_getElem hi) (j % 18) hm
      rw [ej, hu] at a1
      rw [ej] at a2
      rw [k3 j (by rw [hlen]; omega)]
      have := hcu j u (by rw [a2]; exact a1.symm)
      rwa [Nat.zero_add] at this

theorem setRow_heapG (W : World) (g : Nat) (cs new : Array Value) (t : TypeId) (fr : Nat × Nat) (h : W.heap[g]? = some (.cells cs t fr)) : (W.setRow g new).heap[g]? = some (.cells new t fr) := by
  simp [World.setRow, Array.getElem?_modify, h]
theorem Le.oneB (e : Le) : e.cs.all (·.oneCell') = true := by simp [Le.cs, Value.oneCell']
theorem prI : (Try.prog.info? 54).map (fun i => (i.zero, i.size, i.bytes)) = some (some (.agg #[.int .u8 0, .int .u16 0]), 2, 4) := by kernel_rfl
theorem addrsOf_E {W : World} {B : Nat} {ad : Addr} {L : List Le} (h : RowsE W B (some ad) L) : ∀ j u, (cellsE L)[j]? = some u → W.cell? (ad.add j) = some u := by
  intro j u hj
  have hl := (List.getElem?_eq_some_iff.1 hj).1
  rw [cellsE_length] at hl
  have hne : L ≠ [] := by
    rintro rfl
    simp at hl
  obtain ⟨b, o, e, hb, C⟩ := h hne
  cases e
  have hi : j / 18 < L.length := by omega
  have hm : j % 18 < 18 := by omega
  have ej : j / 18 * 18 + j % 18 = j := by omega
  have a1 := cellsE_atG L (j / 18) (L[j / 18]) (List.getElem?_eq_getElem hi) (j % 18) hm
  rw [ej, hj] at a1
  have := (C (j / 18) (L[j / 18]) (List.getElem?_eq_getElem hi)).1 (j % 18) u a1.symm
  rw [addE]
  rwa [show o + j = o + j / 18 * 18 + j % 18 by omega]
theorem cellsE_oneL (L : List Le) : ∀ u ∈ cellsE L, u.oneCell' = true := by
  induction L with
  | nil => intro u hu; cases hu
  | cons e L ih =>
    intro u hu
    rcases List.mem_append.1 (show u ∈ e.cs.toList ++ cellsE L from hu) with h | h
    · exact cellsE_one e u h
    · exact ih u h

set_option maxRecDepth 100000 in
set_option maxHeartbeats 2000000 in
theorem cloneV (A : Option Addr) (L : List P2) (c : Nat) (w : World) (hr : V.RowsV w w.heap.size A L) (hl : L.length ≤ 1000) (hc : L.length ≤ c) (hm : c ≤ maxLen) (hA : A = none → L = [] ∧ c = 0) :
    Calls Try.prog 35 #[.slice A L.length c] w fun e w' => ∃ v, e = .returned v ∧ w'.ownsRow w.heap.size 54 2 v L.length (V.cellsV L) ∧ Below w.heap.size w w' := by
  obtain ⟨i0, hi0, hz0, hz1, hz2⟩ := info_parts prI
  unfold maxLen at hm
  have q : ∀ (w : World) (a : Option Addr) (n c n' c' : Nat), (binOp .eql 29 (.slice a n c) (.slice none n' c')).run Try.prog w = .ok (.bool a.isNone) w := fun w a n c n' c' => Lib.run_eql_slice_nil w _ _ a n c n' c' Try.underlying29
  have HR := Lib.hid hr
  clear hr
  cases A with
  | none =>
    obtain ⟨rfl, rfl⟩ := hA rfl
    go_enter Try.func35, Try.ntmps35
    go_wp2
    go_ret
    exact ⟨_, rfl, ⟨rfl, .inl ⟨rfl, rfl⟩⟩, Below.refl _ _⟩
  | some ad =>
    have AA := Lib.hid (V.cells_of_rowsV HR.out)
    go_enter Try.func35, Try.ntmps35
    go_wp2_with (at_builtin; refine wpList_append_own _ rfl _ _ 29 rfl w.heap.size 54 i0 _ 2 4 Try.underlying29 hi0 hz0 hz1 hz2 rfl (by decide) _ _ _ rfl (World.ownsRow_made w #[] 0 (Nat.le_refl _) (Nat.zero_le _) rfl) ad L.length c (V.cellsV L) rfl (V.cellsV_length L) ?qc2 (V.cellsV_one L) (by unfold maxLen; omega) (by omega) (by simp) ?_)
    case qc2 =>
      intro j u hj
      exact Lib.cell?_alloc_some _ (AA.out j u hj)
    intro v' w1 hown hgrow hnil
    have O := Lib.hid hown
    have G := Lib.hid (((Below.refl w.heap.size w).alloc (Nat.le_refl _) _).grown hgrow (by simp) (by intro k hk; simp [Value.ownBlock] at hk; omega))
    clear hown hgrow hnil
    go_wp2
    go_ret
    exact ⟨v', rfl, by simpa using O.out, G.out⟩

set_option maxRecDepth 100000 in
set_option maxHeartbeats 2000000 in
theorem cloneT (A : Option Addr) (L : List Le) (c : Nat) (w : World) (hr : RowsE w w.heap.size A L) (hl : L.length ≤ 1000) (hc : L.length ≤ c) (hm : c ≤ maxLen) (hA : A = none → L = [] ∧ c = 0) :
    Calls Try.prog 41 #[.slice A L.length c] w fun e w' => ∃ v, e = .returned v ∧ w'.ownsRow w.heap.size 93 18 v L.length (cellsE L) ∧ Below w.heap.size w w' := by
  obtain ⟨i0, hi0, hz0, hz1, hz2⟩ := info_parts entI
  unfold maxLen at hm
  have q : ∀ (w : World) (a : Option Addr) (n c n' c' : Nat), (binOp .eql 30 (.slice a n c) (.slice none n' c')).run Try.prog w = .ok (.bool a.isNone) w := fun w a n c n' c' => Lib.run_eql_slice_nil w _ _ a n c n' c' Try.underlying30
  have HR := Lib.hid hr
  clear hr
  cases A with
  | none =>
    obtain ⟨rfl, rfl⟩ := hA rfl
    go_enter Try.func41, Try.ntmps41
    go_wp2
    go_ret
    exact ⟨_, rfl, ⟨rfl, .inl ⟨rfl, rfl⟩⟩, Below.refl _ _⟩
  | some ad =>
    have AA := Lib.hid (addrsOf_E HR.out)
    go_enter Try.func41, Try.ntmps41
    go_wp2_with (at_builtin; refine wpList_append_own _ rfl _ _ 30 rfl w.heap.size 93 i0 _ 18 104 Try.underlying30 hi0 hz0 hz1 hz2 rfl (by decide) _ _ _ rfl (World.ownsRow_made w #[] 0 (Nat.le_refl _) (Nat.zero_le _) rfl) ad L.length c (cellsE L) rfl (cellsE_length L) ?qc2 (cellsE_oneL L) (by unfold maxLen; omega) (by omega) (by simp) ?_)
    case qc2 =>
      intro j u hj
      exact Lib.cell?_alloc_some _ (AA.out j u hj)
    intro v' w1 hown hgrow hnil
    have O := Lib.hid hown
    have G := Lib.hid (((Below.refl w.heap.size w).alloc (Nat.le_refl _) _).grown hgrow (by simp) (by intro k hk; simp [Value.ownBlock] at hk; omega))
    clear hown hgrow hnil
    go_wp2
    go_ret
    exact ⟨v', rfl, by simpa using O.out, G.out⟩

set_option maxRecDepth 100000 in
set_option maxHeartbeats 2000000 in
theorem cloneL (e : Le) (w : World) (h : e.At w w.heap.size) :
    Calls Try.prog 42 #[.agg e.cs] w fun r w' => ∃ e' : Le, r = .returned (.agg e'.cs) ∧ e'.v = e.v ∧ e'.Own w' w.heap.size ∧ Below w.heap.size w w' := by
  obtain ⟨x, A, X, c, B, Y, d⟩ := e
  refine (cloneE x A B X Y c d w h.rp h.rw_ h.hX h.hY h.hc h.hm h.hd h.hn).mono ?_
  rintro r w' ⟨A', c', B', d', rfl, o1, o2, b⟩
  exact ⟨⟨x, A', X, c', B', Y, d'⟩, rfl, rfl, ⟨o1, o2, h.hX, h.hY⟩, b⟩

set_option maxRecDepth 100000 in
set_option maxHeartbeats 2000000 in
theorem cloneTail (v : Value) (L : List Le) (W : World) (h : EnO W v L) (hl : L.length ≤ 1000) :
    Calls Try.prog 32 #[v] W fun e W' => ∃ v', e = .returned v' ∧ ∃ L', L'.map Le.v = L.map Le.v ∧ EnO W' v' L' ∧ Below W.heap.size W W' := by
  obtain ⟨A, c, rfl, hr, hc, hm, hA⟩ := h.rows
  have K1 := Lib.hid (cloneT A L c W hr hl hc hm hA)
  have HE := Lib.hid h.all
  obtain ⟨n, hn⟩ : ∃ n, L.length = n := ⟨_, rfl⟩
  rw [hn] at K1 hl ⊢
  have HN := Lib.hid hn
  obtain ⟨base, hbase⟩ : ∃ x, W.heap.size = x := ⟨_, rfl⟩
  have HSZ : Hid (base = W.heap.size) := Lib.hid hbase.symm
  rw [hbase] at K1 ⊢
  clear h hr hc hm hA hn hbase
  go_enter Try.func32, Try.ntmps32
  go_wp2_with fail
  refine K1.out.mono ?_
  rintro e w1 ⟨v1, rfl, o1, b1⟩
  have B1 := Lib.hid b1
  have HV : Hid (∃ A1 c1, v1 = .slice A1 n c1 ∧ n ≤ c1 ∧ c1 ≤ maxLen) := Lib.hid (by
    obtain ⟨A1, c1, e, h1, h2, _⟩ := (RowO.of_owns o1).slice
    exact ⟨A1, c1, e, h1, h2⟩)
  have O1 := Lib.hid o1
  have E1 : Hid (∀ e ∈ L, LeO e w1) := Lib.hid fun e he => (HE.out e he).keep (Keeps.of_below (by rw [← HSZ.out]; exact b1))
  clear o1 b1
  obtain ⟨A1, c1, rfl, hc1, hm1⟩ := HV.out
  have HC1 : Hid (n ≤ c1 ∧ c1 ≤ maxLen) := Lib.hid ⟨hc1, hm1⟩
  clear hc1 hm1
  go_wp2_with fail
  go_loopw [9] (fun z wx => ∃ (k : Nat) (Z : List Le), z = .int .i64 k ∧ k ≤ n ∧ Hid (Z.length = n) ∧ Hid (Z.map Le.v = L.map Le.v) ∧ Hid (RowO wx 93 18 (.slice A1 n c1) n (cellsE Z)) ∧ Hid (∀ g, (Value.slice A1 n c1).ownBlock = some g → base ≤ g ∧ A1 = some ⟨g, 0, none⟩) ∧ Hid (∀ e ∈ Z, LeO e wx) ∧ Hid (Below base W wx)) (fun z _ => n - (intOf z).toNat)
  case atStart =>
    refine ⟨0, L, rfl, by omega, HN, Lib.hid rfl, Lib.hid (RowO.of_owns O1.out), Lib.hid (fun g hg => ?_), E1, B1⟩
    rcases O1.out.2 with ⟨h0, _⟩ | ⟨g', cap, cur, h0, hb, _⟩
    · rw [h0] at hg
      simp [Value.ownBlock] at hg
    · cases h0
      simp [Value.ownBlock] at hg
      subst hg
      exact ⟨hb, rfl⟩
  case round =>
    obtain ⟨k, Z, rfl, hk, HZ, HM, HO, HG, HL, BB⟩ := hrel
    obtain ⟨u, hu⟩ : ∃ z : World, z = wr := ⟨_, rfl⟩
    subst hu
    by_cases hkn : k < n
    · as_aux_lemma =>
      skip
      have HKN := Lib.hid hkn
      have hk1 : (k : Int) < (n : Int) := by omega
      have hk0 : (0 : Int) ≤ (k : Int) := by omega
      have hkL : k < Z.length := by rw [HZ.out]; exact hkn
      have hg : ∃ g, A1 = some ⟨g, 0, none⟩ ∧ base ≤ g := by
        rcases HO.out.2 with ⟨h0, h1⟩ | ⟨g, o, cap, cur, h0, _⟩
        · omega
        · have h2 := HG.out g (by rw [h0]; rfl)
          exact ⟨g, h2.2, h2.1⟩
      obtain ⟨g, rfl, hbg⟩ := hg
      have HBG := Lib.hid hbg
      obtain ⟨e, hx⟩ : ∃ e, Z[k]? = some e := ⟨_, List.getElem?_eq_getElem hkL⟩
      have HC : Hid (u.rangeAt g (k * 18) e.cs.toList) := Lib.hid (by
        have := EnO.cells HO.out hx
        rwa [Nat.zero_add] at this)
      have hub : base ≤ u.heap.size := by rw [HSZ.out]; exact BB.out.size
      have HE2 := Lib.hid (HL.out e (List.mem_of_getElem? hx))
      obtain ⟨wa, hwa⟩ : ∃ z, u.alloc (.cells #[.int .u8 0, .int .u8 0, .int .u16 0, .int .u32 0, .int .u8 0, .int .u8 0, .int .u8 0, .int .u8 0, .int .u8 0, .int .u8 0, .int .u8 0, .int .u32 0, .slice none 0 0, .int .u8 0, .string ByteArray.empty, .slice none 0 0, .int .u8 0, .int .u16 0] 93) = z := ⟨_, rfl⟩
      have ra : wa.heap[u.heap.size]? = some (.cells #[.int .u8 0, .int .u8 0, .int .u16 0, .int .u32 0, .int .u8 0, .int .u8 0, .int .u8 0, .int .u8 0, .int .u8 0, .int .u8 0, .int .u8 0, .int .u32 0, .slice none 0 0, .int .u8 0, .string ByteArray.empty, .slice none 0 0, .int .u8 0, .int .u16 0] 93 (0, 0)) := by rw [← hwa]; exact heap_alloc_new _ _
      obtain ⟨wb, hwb⟩ : ∃ z, wa.setRow u.heap.size e.cs = z := ⟨_, rfl⟩
      have rb : wb.heap[u.heap.size]? = some (.cells e.cs 93 (0, 0)) := by
        rw [← hwb]; exact setRow_heapG _ _ _ _ _ _ ra
      have bb2 : Below u.heap.size u wb := by
        rw [← hwb, ← hwa]
        exact ((Below.refl _ _).alloc (Nat.le_refl _) _).trans ⟨rfl, rfl, rfl, by simp [World.setRow], fun k hk => setRow_other _ u.heap.size k _ (by omega)⟩
      have KC := Lib.hid (cloneL e wb ((HE2.out.keep (Keeps.of_below bb2)).at_))
      have BB2 := Lib.hid bb2
      obtain ⟨bx, hbx⟩ : ∃ q, u.heap.size = q := ⟨_, rfl⟩
      rw [hbx] at ra hwb rb
      have HWA := Lib.hid hwa
      have HWA2 := Lib.hid (show u.alloc (.cells #[.int .u8 0, .int .u8 0, .int .u16 0, .int .u32 0, .int .u8 0, .int .u8 0, .int .u8 0, .int .u8 0, .int .u8 0, .int .u8 0, .int .u8 0, .int .u32 0, .slice none 0 0, .int .u8 0, .string ⟨#[]⟩, .slice none 0 0, .int .u8 0, .int .u16 0] 93) = wa from hwa)
      have HBW := Lib.hid hwb
      have RA := Lib.hid ra
      have RB := Lib.hid rb
      have HBX := Lib.hid hbx
      have HUB := Lib.hid hub
      have HX := Lib.hid hx
      have HOB := Lib.hid (Le.oneB e)
      clear hwa ra hwb rb bb2 hbx hub hx hkn hkL hbg
      go_wp2_with (first
        | (refine wpList_load_mid rfl 93 (.tmp 12) rfl g (k * 18) (by rfl) e.cs.toList _ HC.out Try.underlying93 rfl (by kernel_rfl) ?_)
        | (rw [HWA.out, HBX.out])
        | (rw [HWA2.out, HBX.out])
        | (refine wpList_store_row rfl 93 (.tmp 4) (.tmp 13) rfl bx e.cs (by rfl) (by rfl) 93 #[.int .u8 0, .int .u8 0, .int .u16 0, .int .u32 0, .int .u8 0, .int .u8 0, .int .u8 0, .int .u8 0, .int .u8 0, .int .u8 0, .int .u8 0, .int .u32 0, .slice none 0 0, .int .u8 0, .string ByteArray.empty, .slice none 0 0, .int .u8 0, .int .u16 0] RA.out (by kernel_rfl) rfl HOB.out ?_; rw [HBW.out])
        | (refine wpList_load_row rfl 93 (.tmp 4) rfl bx (by rfl) 93 e.cs (0, 0) _ RB.out Try.underlying93 rfl (by kernel_rfl) ?_)
        | (go_at_call 42
           refine KC.out.mono ?_
           rintro r w2 ⟨e2, rfl, ve, oe, b2⟩
           have b02 : Below u.heap.size u w2 := BB2.out.trans (b2.mono BB2.out.size)
           have hse := RowO.setE (RowO.below HO.out b02) HZ.out HKN.out e2
           obtain ⟨w3, hw3⟩ : ∃ z, w2.setCells g (k * 18) e2.cs.toList = z := ⟨_, rfl⟩
           have kp : KP (fun j => j = g) w2 w3 := by rw [← hw3]; exact KP.setCells (S := fun j => j = g) rfl _ _ _
           obtain ⟨cur2, hg2⟩ := RowO.block (RowO.below HO.out b02) g rfl
           have kl : KeepL w2 w3 := KeepL.of_KP kp hg2 (by decide) (by decide)
           have B3 : Hid (Below base W w3) := Lib.hid ((BB.out.trans (b02.mono HUB.out)).trans (kp.below (Nat.le_trans HUB.out b02.size) fun j hj => by rw [hj]; exact HBG.out))
           have R3 : Hid (RowO w3 93 18 (.slice (some ⟨g, 0, none⟩) n c1) n (cellsE (Z.set k e2))) := Lib.hid (by rw [← hw3]; exact hse.1)
           have T3 := Lib.hid hse.2
           have L3 : Hid (∀ e ∈ Z.set k e2, LeO e w3) := Lib.hid fun e he => by
             rcases List.mem_or_eq_of_mem_set he with h | h
             · exact (HL.out e h).keepL ((Keeps.of_below b02).l.trans kl)
             · exact h ▸ (LeO.of_own oe).keepL kl
           have M3 : Hid ((Z.set k e2).map Le.v = L.map Le.v) := Lib.hid (by
             rw [List.map_set, ← HM.out, ve]
             refine List.ext_getElem? fun j => ?_
             rw [List.getElem?_set]
             split
             · rename_i h
               subst h
               rw [List.getElem?_map, HX.out]
               have h1 := HZ.out
               have h2 := HKN.out
               simp
               omega
             · rfl)
           have HW3 := Lib.hid hw3
           have HOB2 := Lib.hid (Le.oneB e2)
           clear hse kp kl hg2 b02 b2 oe ve hw3)
        | (refine wpList_store_mid rfl 93 (.tmp 18) (.tmp 17) rfl g (k * 18) e2.cs (by rfl) (by rfl) T3.out (by kernel_rfl) HOB2.out ?_; rw [HW3.out]))
      go_roundw
      case rel => exact ⟨k + 1, Z.set k e2, by go_num, by have := HKN.out; omega, Lib.hid (by rw [List.length_set]; exact HZ.out), M3, R3, HG, L3, B3⟩
      case measure => have := HKN.out; simp [intOf]; omega
    · obtain rfl : n = k := by omega
      have hk1 : ¬ (n : Int) < (n : Int) := by omega
      go_wp2_with fail
      go_ret
      exact ⟨_, rfl, Z, HM.out, ⟨by rw [HZ.out]; exact HO.out, HL.out⟩, BB.out⟩

end Go.Proofs.Ytfkmodmgihadkaa
