/-
  The law's made: both stores of a list of writes, by a contract. Condition: the list lies in memory, is few and short.
-/
import Derived.Test.YthmdnbgfnaokkaaDoorQlst
import Derived.Test.YthmdnbgfnaokkaaDoorQrax
import Derived.Test.YthmdnbgfnaokkaaDoorQapp
import Derived.Test.YthmdnbgfnaokkaaDoorQfew
namespace Go.Proofs.YthmdnbgfnaokkaaDoor
set_option linter.unusedSimpArgs false
set_option linter.unusedVariables false
open Go.RowKit

/-- what is stored of a write. -/
def nrm (x : W3) : W3 := if x.has then x else ⟨x.key, ByteArray.empty, false⟩
theorem nrm_key (x : W3) : (nrm x).key = x.key := by unfold nrm; split <;> rfl
theorem nrm_has (x : W3) : (nrm x).has = x.has := by unfold nrm; split <;> simp_all
/-- both stores hold the list L. -/
structure Pair (b bm rb Bs k : Nat) (L : List W3) (W : World) : Prop where
  p : PSt b bm k L W
  r : RSt rb Bs L W
  ord : OrdW L
  len : L.length ≤ k
  fit : ∀ y ∈ L, y.key.size ≤ 3000 ∧ y.val.size ≤ 3000
theorem Pair.below {b bm rb Bs k : Nat} {L : List W3} {W W' : World} (h : Pair b bm rb Bs k L W) (hb : Below W.heap.size W W') : Pair b bm rb Bs k L W' := ⟨h.p.below hb, h.r.below hb, h.ord, h.len, h.fit⟩
theorem ownOne (x : W3) (ad : Addr) (c : Nat) (W : World) (hr : RowsW W W.heap.size (some ad) [x]) (hc : 1 ≤ c) (hm : c ≤ maxLen) :
    Calls Tryd.prog 28 #[.slice (some ad) 1 c] W fun e W' => ∃ g c', e = .returned (.slice (some ⟨g, 0, none⟩) 1 c') ∧ RowsW W' W'.heap.size (some ⟨g, 0, none⟩) [x] ∧ 1 ≤ c' ∧ c' ≤ maxLen ∧ Below W.heap.size W W' :=
  (ownW (some ad) [x] c W hr (by simp) hc hm).mono fun e W' ⟨v, he, O, hb⟩ => by
    obtain ⟨A, c', rfl, hR, h1, h2⟩ := rowsW_of_own O
    obtain ⟨g, o, rfl, _, _⟩ := hR (by simp)
    rcases O.2 with ⟨e, _⟩ | ⟨g', cap, cur, e, _⟩
    · cases e
    · injection e with e1 e2 e3
      injection e1 with e1
      cases e1
      exact ⟨_, c', he, hR, h1, h2, hb⟩
theorem new_cellW (W : World) (cs : Array Value) (t : TypeId) (j n : Nat) (hn : W.heap.size = n) : (W.alloc (.cells cs t)).cell? ⟨n, j, none⟩ = cs[j]? := by
  subst hn
  exact cell_of_row _ _ j cs t (0, 0) (heap_alloc_new W _)
theorem bel1 (W : World) (o : Obj) : Below W.heap.size W (W.alloc o) := (Below.refl _ _).alloc (Nat.le_refl _) _
theorem rowsW_one (W : World) (x : W3) (n : Nat) (t : TypeId) (hn : W.heap.size = n) : RowsW (W.alloc (.cells #[.string x.key, .string x.val, .bool x.has] t)) (W.alloc (.cells #[.string x.key, .string x.val, .bool x.has] t)).heap.size (some ⟨n, 0, none⟩) [x] := by
  subst hn
  refine rowsW_of_cells (by simp) fun j u hu => ?_
  have := cells_newW W #[.string x.key, .string x.val, .bool x.has] t j u (by simpa [cellsW, W3.cells] using hu)
  rw [Nat.zero_add]
  by_cases h0 : j = 0
  · subst h0; exact this
  · simpa [Addr.add, h0] using this
theorem szOf {n1 : Nat} {w W : World} (hn : w.heap.size = n1) (h : Below n1 w W) : n1 ≤ W.heap.size := hn ▸ h.size
def MadeP (n1 : Nat) (w : World) (e : Ending) (w' : World) : Prop := ∃ (L : List W3) (k : Nat), e = .returned (.tuple #[.pointer (some ⟨n1 + 1, 0, none⟩), .pointer (some ⟨n1 + 1 + 1, 0, none⟩)]) ∧ k ≤ 250 ∧ Pair (n1 + 1) n1 (n1 + 1 + 1) (n1 + 1 + 1 + 1) k L w' ∧ Below n1 w w'
theorem start_pair (w : World) (n1 : Nat) (hn : w.heap.size = n1) : Pair (n1 + 1) n1 (n1 + 1 + 1) (n1 + 1 + 1 + 1) 0 [] (((w.alloc (.map #[] 0)).alloc (.cells #[.map (some n1)] 87)).alloc (.cells #[.slice none 0 0] 43)) := by
  subst hn
  have hs : ((w.alloc (.map #[] 0)).alloc (.cells #[.map (some w.heap.size)] 87)).heap.size = w.heap.size + 1 + 1 := by simp
  have r0 := new_cellW _ #[.slice none 0 0] 43 0 _ hs
  have rf := World.frozen?_alloc_new ((w.alloc (.map #[] 0)).alloc (.cells #[.map (some w.heap.size)] 87)) #[.slice none 0 0] 43 0
  rw [hs] at rf
  exact ⟨(newS_st w).below (bel1 _ _), ⟨rf, by omega, by simp, .slice none 0 0, r0, rfl, .inl ⟨rfl, rfl⟩⟩, List.Pairwise.nil, Nat.le_refl _, fun _ h => by cases h⟩

set_option maxRecDepth 100000 in
set_option maxHeartbeats 400000 in
theorem madeL (A : Option Addr) (X : List W3) (c : Nat) (w : World) (hr : RowsW w w.heap.size A X) (hc : X.length ≤ c) (hm : c ≤ maxLen) (hX : X.length ≤ 250) (h3 : ∀ x ∈ X, x.key.size ≤ 3000 ∧ x.val.size ≤ 3000) (n1 : Nat) (hn1 : w.heap.size = n1) :
    Calls Tryd.prog 8 #[.slice A X.length c] w (MadeP n1 w) := by
  unfold maxLen at hm
  have HR := Lib.hid hr
  have H3 := Lib.hid h3
  have SP := start_pair w n1 hn1
  have B3 : Below n1 w (((w.alloc (.map #[] 0)).alloc (.cells #[.map (some n1)] 87)).alloc (.cells #[.slice none 0 0] 43)) := (((Below.refl _ _).alloc (by omega) _).alloc (by simp; omega) _).alloc (by simp; omega) _
  have HSP := Lib.hid SP
  have HN := Lib.hid hn1
  have HB3 := Lib.hid B3
  clear SP B3 hr h3
  go_enter Tryd.func8, Tryd.ntmps8
  go_wp2_with (go_at_call 25; refine (newS _).mono ?_; rintro e w1 ⟨rfl, rfl⟩; rw [hn1])
  generalize ((w.alloc (.map #[] 0)).alloc (.cells #[.map (some n1)] 87)).alloc (.cells #[.slice none 0 0] 43) = W3' at *
  go_loopw [6] (fun i wx => ∃ (k : Nat) (L' : List W3), i = .int .i64 k ∧ k ≤ X.length ∧ Hid (Pair (n1 + 1) n1 (n1 + 1 + 1) (n1 + 1 + 1 + 1) k L' wx) ∧ Hid (Below n1 w wx)) (fun i _ => X.length - (intOf i).toNat)
  case atStart => exact ⟨0, [], rfl, Nat.zero_le _, HSP, HB3⟩
  case round =>
    obtain ⟨k, L', rfl, hkL, HP, HB⟩ := hrel
    by_cases hlt : k < X.length
    · obtain ⟨ab, ao, rfl, hab, C⟩ := HR.out.at_ hlt
      have hm3 := H3.out _ (List.getElem_mem hlt)
      generalize X[k] = x at *
      have habw : ab < wr.heap.size := Nat.lt_of_lt_of_le hab (by have := HB.out.size; omega)
      have hB : Below w.heap.size w wr := by rw [hn1]; exact HB.out
      obtain ⟨c0, c1, c2⟩ := C.below hB hab
      obtain ⟨hkx3, hvx3⟩ := hm3
      have hkx : x.key.size ≤ maxLen := by unfold maxLen; omega
      have hLk := HP.out.len
      have hBs := HP.out.r.2.2.1
      have hki : (k : Int) < (X.length : Int) := by omega
      have hk0 : (0 : Int) ≤ (k : Int) := by omega
      have hci : (X.length : Int) ≤ (c : Int) := by omega
      clear hB C hab hn1
      cases hh : x.has with
      | true =>
        rw [hh] at c2
        have QA := Lib.hid (HP.out.below (bel1 wr (.cells #[.string x.key, .string x.val, .bool true] 79)))
        have BA : Hid (Below n1 w (wr.alloc (.cells #[.string x.key, .string x.val, .bool true] 79))) := Lib.hid (HB.out.alloc (szOf HN.out HB.out) _)
        have y0 : (wr.alloc (.cells #[.string x.key, .string x.val, .bool true] 79)).cell? ⟨wr.heap.size, 0, none⟩ = some (.string x.key) := new_cellW wr #[.string x.key, .string x.val, .bool true] 79 0 _ rfl
        have y1 : (wr.alloc (.cells #[.string x.key, .string x.val, .bool true] 79)).cell? ⟨wr.heap.size, 1, none⟩ = some (.string x.val) := new_cellW wr #[.string x.key, .string x.val, .bool true] 79 1 _ rfl
        have y2 : (wr.alloc (.cells #[.string x.key, .string x.val, .bool true] 79)).cell? ⟨wr.heap.size, 2, none⟩ = some (.bool true) := new_cellW wr #[.string x.key, .string x.val, .bool true] 79 2 _ rfl
        have OB := Lib.hid (rowsW_one (wr.alloc (.cells #[.string x.key, .string x.val, .bool true] 79)) ⟨x.key, x.val, true⟩ (wr.heap.size + 1) 79 (by simp))
        have QB := Lib.hid (QA.out.below (bel1 (wr.alloc (.cells #[.string x.key, .string x.val, .bool true] 79)) (.cells #[.string x.key, .string x.val, .bool true] 79)))
        have BB : Hid (Below n1 w ((wr.alloc (.cells #[.string x.key, .string x.val, .bool true] 79)).alloc (.cells #[.string x.key, .string x.val, .bool true] 79))) := Lib.hid (BA.out.alloc (szOf HN.out BA.out) _)
        have hsB : wr.heap.size < ((wr.alloc (.cells #[.string x.key, .string x.val, .bool true] 79)).alloc (.cells #[.string x.key, .string x.val, .bool true] 79)).heap.size := by simp; omega
        have y0' : ((wr.alloc (.cells #[.string x.key, .string x.val, .bool true] 79)).alloc (.cells #[.string x.key, .string x.val, .bool true] 79)).cell? ⟨wr.heap.size, 0, none⟩ = some (.string x.key) := (World.cell?_alloc_lt _ _ _ (by simp)).trans y0
        have y1' : ((wr.alloc (.cells #[.string x.key, .string x.val, .bool true] 79)).alloc (.cells #[.string x.key, .string x.val, .bool true] 79)).cell? ⟨wr.heap.size, 1, none⟩ = some (.string x.val) := (World.cell?_alloc_lt _ _ _ (by simp)).trans y1
        have y2' : ((wr.alloc (.cells #[.string x.key, .string x.val, .bool true] 79)).alloc (.cells #[.string x.key, .string x.val, .bool true] 79)).cell? ⟨wr.heap.size, 2, none⟩ = some (.bool true) := (World.cell?_alloc_lt _ _ _ (by simp)).trans y2
        go_wp2_with (first
          | (go_at_call 28; refine (ownOne ⟨x.key, x.val, true⟩ _ 1 _ OB.out (Nat.le_refl _) (by unfold maxLen; omega)).mono ?_; rintro e w2 ⟨g, c', rfl, R2, l2, m2, b2⟩
             have QC := Lib.hid (QB.out.below b2)
             have BC := Lib.hid (BB.out.trans (b2.mono (szOf HN.out BB.out)))
             have R2' := Lib.hid R2
             have z0 := (b2.cell (p := ⟨wr.heap.size, 0, none⟩) hsB).trans y0'
             have z1 := (b2.cell (p := ⟨wr.heap.size, 1, none⟩) hsB).trans y1'
             have z2 := (b2.cell (p := ⟨wr.heap.size, 2, none⟩) hsB).trans y2'
             have hs2 : wr.heap.size < w2.heap.size := Nat.lt_of_lt_of_le hsB b2.size
             clear R2 b2)
          | (go_at_call 27; refine (applyOne (n1 + 1) n1 k L' _ ⟨x.key, x.val, true⟩ _ _ QC.out.p (by omega) R2'.out l2 hkx (by unfold maxLen; omega)).mono ?_; rintro e w3 ⟨rfl, P3, g3⟩
             have QD := Lib.hid (QC.out.r.grown g3 (by simp; omega) (fun j e => by injection e with e; omega))
             have PD := Lib.hid P3
             have BD := Lib.hid (BC.out.grown g3 (szOf HN.out BC.out) (fun j e => by injection e with e; omega))
             have u0 := (g3.cell_far ⟨wr.heap.size, 0, none⟩ hs2 (by simp; omega)).trans z0
             have u1 := (g3.cell_far ⟨wr.heap.size, 1, none⟩ hs2 (by simp; omega)).trans z1
             have u2 := (g3.cell_far ⟨wr.heap.size, 2, none⟩ hs2 (by simp; omega)).trans z2
             clear P3 g3)
          | (go_at_call 29; refine (applyR (n1 + 1 + 1) (n1 + 1 + 1 + 1) L' ⟨x.key, x.val, true⟩ _ QD.out (by omega)).mono ?_; rintro e w4 ⟨rfl, R4, g4⟩
             have RF := Lib.hid R4
             have PF := Lib.hid (PD.out.grown g4 (by simp) (by simp; omega))
             have BF := Lib.hid (BD.out.grown g4 (szOf HN.out BD.out) (fun j e => by injection e with e; omega))
             clear R4 g4))
        go_roundw
        case rel => exact ⟨k + 1, apR L' ⟨x.key, x.val, true⟩, by go_num, by omega, Lib.hid ⟨PF.out.perm (perm_apR HP.out.ord _), RF.out, ord_apR HP.out.ord _, Nat.le_trans (apR_len _ _) (by omega), fun y hy => by
          rcases mem_apR hy with rfl | hm
          · exact ⟨hkx3, hvx3⟩
          · exact HP.out.fit y hm⟩, BF⟩
        case measure => simp [intOf]; omega
      | false =>
        rw [hh] at c2
        have QA := Lib.hid (HP.out.below (bel1 wr (.cells #[.string x.key, .string ByteArray.empty, .bool false] 79)))
        have BA : Hid (Below n1 w (wr.alloc (.cells #[.string x.key, .string ByteArray.empty, .bool false] 79))) := Lib.hid (HB.out.alloc (szOf HN.out HB.out) _)
        have y0 : (wr.alloc (.cells #[.string x.key, .string ByteArray.empty, .bool false] 79)).cell? ⟨wr.heap.size, 0, none⟩ = some (.string x.key) := new_cellW wr #[.string x.key, .string ByteArray.empty, .bool false] 79 0 _ rfl
        have y1 : (wr.alloc (.cells #[.string x.key, .string ByteArray.empty, .bool false] 79)).cell? ⟨wr.heap.size, 1, none⟩ = some (.string ByteArray.empty) := new_cellW wr #[.string x.key, .string ByteArray.empty, .bool false] 79 1 _ rfl
        have y2 : (wr.alloc (.cells #[.string x.key, .string ByteArray.empty, .bool false] 79)).cell? ⟨wr.heap.size, 2, none⟩ = some (.bool false) := new_cellW wr #[.string x.key, .string ByteArray.empty, .bool false] 79 2 _ rfl
        have OB := Lib.hid (rowsW_one (wr.alloc (.cells #[.string x.key, .string ByteArray.empty, .bool false] 79)) ⟨x.key, ByteArray.empty, false⟩ (wr.heap.size + 1) 79 (by simp))
        have QB := Lib.hid (QA.out.below (bel1 (wr.alloc (.cells #[.string x.key, .string ByteArray.empty, .bool false] 79)) (.cells #[.string x.key, .string ByteArray.empty, .bool false] 79)))
        have BB : Hid (Below n1 w ((wr.alloc (.cells #[.string x.key, .string ByteArray.empty, .bool false] 79)).alloc (.cells #[.string x.key, .string ByteArray.empty, .bool false] 79))) := Lib.hid (BA.out.alloc (szOf HN.out BA.out) _)
        have hsB : wr.heap.size < ((wr.alloc (.cells #[.string x.key, .string ByteArray.empty, .bool false] 79)).alloc (.cells #[.string x.key, .string ByteArray.empty, .bool false] 79)).heap.size := by simp; omega
        have y0' : ((wr.alloc (.cells #[.string x.key, .string ByteArray.empty, .bool false] 79)).alloc (.cells #[.string x.key, .string ByteArray.empty, .bool false] 79)).cell? ⟨wr.heap.size, 0, none⟩ = some (.string x.key) := (World.cell?_alloc_lt _ _ _ (by simp)).trans y0
        have y1' : ((wr.alloc (.cells #[.string x.key, .string ByteArray.empty, .bool false] 79)).alloc (.cells #[.string x.key, .string ByteArray.empty, .bool false] 79)).cell? ⟨wr.heap.size, 1, none⟩ = some (.string ByteArray.empty) := (World.cell?_alloc_lt _ _ _ (by simp)).trans y1
        have y2' : ((wr.alloc (.cells #[.string x.key, .string ByteArray.empty, .bool false] 79)).alloc (.cells #[.string x.key, .string ByteArray.empty, .bool false] 79)).cell? ⟨wr.heap.size, 2, none⟩ = some (.bool false) := (World.cell?_alloc_lt _ _ _ (by simp)).trans y2
        go_wp2_with (first
          | (go_at_call 28; refine (ownOne ⟨x.key, ByteArray.empty, false⟩ _ 1 _ OB.out (Nat.le_refl _) (by unfold maxLen; omega)).mono ?_; rintro e w2 ⟨g, c', rfl, R2, l2, m2, b2⟩
             have QC := Lib.hid (QB.out.below b2)
             have BC := Lib.hid (BB.out.trans (b2.mono (szOf HN.out BB.out)))
             have R2' := Lib.hid R2
             have z0 := (b2.cell (p := ⟨wr.heap.size, 0, none⟩) hsB).trans y0'
             have z1 := (b2.cell (p := ⟨wr.heap.size, 1, none⟩) hsB).trans y1'
             have z2 := (b2.cell (p := ⟨wr.heap.size, 2, none⟩) hsB).trans y2'
             have hs2 : wr.heap.size < w2.heap.size := Nat.lt_of_lt_of_le hsB b2.size
             clear R2 b2)
          | (go_at_call 27; refine (applyOne (n1 + 1) n1 k L' _ ⟨x.key, ByteArray.empty, false⟩ _ _ QC.out.p (by omega) R2'.out l2 hkx (by unfold maxLen; omega)).mono ?_; rintro e w3 ⟨rfl, P3, g3⟩
             have QD := Lib.hid (QC.out.r.grown g3 (by simp; omega) (fun j e => by injection e with e; omega))
             have PD := Lib.hid P3
             have BD := Lib.hid (BC.out.grown g3 (szOf HN.out BC.out) (fun j e => by injection e with e; omega))
             have u0 := (g3.cell_far ⟨wr.heap.size, 0, none⟩ hs2 (by simp; omega)).trans z0
             have u1 := (g3.cell_far ⟨wr.heap.size, 1, none⟩ hs2 (by simp; omega)).trans z1
             have u2 := (g3.cell_far ⟨wr.heap.size, 2, none⟩ hs2 (by simp; omega)).trans z2
             clear P3 g3)
          | (go_at_call 29; refine (applyR (n1 + 1 + 1) (n1 + 1 + 1 + 1) L' ⟨x.key, ByteArray.empty, false⟩ _ QD.out (by omega)).mono ?_; rintro e w4 ⟨rfl, R4, g4⟩
             have RF := Lib.hid R4
             have PF := Lib.hid (PD.out.grown g4 (by simp) (by simp; omega))
             have BF := Lib.hid (BD.out.grown g4 (szOf HN.out BD.out) (fun j e => by injection e with e; omega))
             clear R4 g4))
        go_roundw
        case rel => exact ⟨k + 1, apR L' ⟨x.key, ByteArray.empty, false⟩, by go_num, by omega, Lib.hid ⟨PF.out.perm (perm_apR HP.out.ord _), RF.out, ord_apR HP.out.ord _, Nat.le_trans (apR_len _ _) (by omega), fun y hy => by
          rcases mem_apR hy with rfl | hm
          · exact ⟨hkx3, Nat.zero_le _⟩
          · exact HP.out.fit y hm⟩, BF⟩
        case measure => simp [intOf]; omega
    · obtain rfl : k = X.length := by omega
      go_wp2
      go_ret2
      exact ⟨L', X.length, rfl, hX, HP.out, HB.out⟩

end Go.Proofs.YthmdnbgfnaokkaaDoor
