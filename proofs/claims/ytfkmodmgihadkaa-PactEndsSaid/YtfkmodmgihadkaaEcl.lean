/-
  slices.Clone at parts and at writes, by contracts: new rows of the same. Condition: the list takes at most 2^47 bytes.
-/
import Derived.Test.YtfkmodmgihadkaaEbas
import Derived.Deep.LoopGhost
import Derived.Lib.SliceRun
import Derived.Lib.Walk
namespace Go.Proofs.Ytfkmodmgihadkaa
set_option linter.unusedSimpArgs false
set_option linter.unusedVariables false
open Go.RowKit

theorem addrsOf_P {W : World} {B : Nat} {ad : Addr} {X : List P5} (h : RowsP W B (some ad) X) : ∀ j u, (cellsP X)[j]? = some u → W.cell? (ad.add j) = some u := by
  intro j u hj
  have hl := (List.getElem?_eq_some_iff.1 hj).1
  rw [cellsP_length] at hl
  have hne : X ≠ [] := by
    rintro rfl
    simp at hl
  obtain ⟨b, o, e, hb, C⟩ := h hne
  cases e
  have hat : (⟨b, o, none⟩ : Addr).add j = ⟨b, o + j, none⟩ := by
    unfold Addr.add
    by_cases h0 : j = 0 <;> simp [h0]
  rw [hat]
  have hi : j / 5 < X.length := by omega
  have P := C (j / 5) (X[j / 5]) (List.getElem?_eq_getElem hi)
  have ec := cellsP_at X (j / 5) (X[j / 5]) (List.getElem?_eq_getElem hi) (j % 5) (by omega)
  have ej : j / 5 * 5 + j % 5 = j := by omega
  rw [ej, hj] at ec
  generalize X[j / 5] = y at *
  have hm : j % 5 < 5 := by omega
  have ho : o + j = o + j / 5 * 5 + j % 5 := by omega
  rw [ho]
  generalize j % 5 = r at *
  rcases (by omega : r = 0 ∨ r = 1 ∨ r = 2 ∨ r = 3 ∨ r = 4) with rfl | rfl | rfl | rfl | rfl
  · rw [ec]; exact P.c0
  · rw [ec]; exact P.c1
  · rw [ec]; exact P.c2
  · rw [ec]; exact P.c3
  · rw [ec]; exact P.c4

set_option maxRecDepth 100000 in
set_option maxHeartbeats 2000000 in
theorem cloneP (A : Option Addr) (X : List P5) (c : Nat) (w : World) (hr : RowsP w w.heap.size A X) (hX : X.length * 48 ≤ 140737488355328) (hc : X.length ≤ c) (hm : c ≤ maxLen) :
    Calls Try.prog 49 #[.slice A X.length c] w fun e w' => ∃ v, e = .returned v ∧ w'.ownsRow w.heap.size 108 5 v X.length (cellsP X) ∧ Below w.heap.size w w' := by
  obtain ⟨i0, hi0, hz0, hz1, hz2⟩ := info_parts part_info
  unfold maxLen at hm
  have q : ∀ (w : World) (a : Option Addr) (n c n' c' : Nat), (binOp .eql 88 (.slice a n c) (.slice none n' c')).run Try.prog w = .ok (.bool a.isNone) w := fun w a n c n' c' => Lib.run_eql_slice_nil w _ _ a n c n' c' Try.underlying88
  have hnil : A = none → X = [] := by
    intro e
    rcases List.eq_nil_or_concat X with h | ⟨l, y, h⟩
    · exact h
    · obtain ⟨b, o', e', _⟩ := hr (by rw [h]; simp)
      rw [e] at e'; cases e'
  have HR := Lib.hid hr
  have HN := Lib.hid hnil
  clear hr hnil
  cases A with
  | none =>
    have hx := HN.out rfl
    subst hx
    go_enter Try.func49, Try.ntmps49
    go_wp2
    go_ret
    exact ⟨_, rfl, ⟨rfl, .inl ⟨rfl, rfl⟩⟩, Below.refl _ _⟩
  | some ad =>
    have AA := Lib.hid (addrsOf_P HR.out)
    go_enter Try.func49, Try.ntmps49
    go_wp2_with (at_builtin; refine wpList_append_own _ rfl _ _ 88 rfl w.heap.size 108 i0 _ 5 48 Try.underlying88 hi0 hz0 hz1 hz2 rfl (by decide) _ _ _ rfl (World.ownsRow_made w #[] 0 (Nat.le_refl _) (Nat.zero_le _) rfl) ad X.length c (cellsP X) rfl (cellsP_length X) ?qc2 (cellsP_one X) (by unfold maxLen; omega) (by omega) (by simp) ?_)
    case qc2 =>
      intro j u hj
      exact Lib.cell?_alloc_some _ (AA.out j u hj)
    intro v' w1 hown hgrow hnil
    have O := Lib.hid hown
    have G := Lib.hid (((Below.refl w.heap.size w).alloc (Nat.le_refl _) _).grown hgrow (by simp) (by intro k hk; simp [Value.ownBlock] at hk; omega))
    clear hown hgrow hnil
    go_wp2
    go_ret
    exact ⟨v', rfl, by simpa using O.out, G.out⟩

theorem addrsOf_W {W : World} {B : Nat} {ad : Addr} {X : List W3} (h : RowsW W B (some ad) X) : ∀ j u, (cellsW X)[j]? = some u → W.cell? (ad.add j) = some u := by
  intro j u hj
  have hl := (List.getElem?_eq_some_iff.1 hj).1
  rw [cellsW_length] at hl
  have hne : X ≠ [] := by
    rintro rfl
    simp at hl
  obtain ⟨b, o, e, hb, C⟩ := h hne
  cases e
  have hat : (⟨b, o, none⟩ : Addr).add j = ⟨b, o + j, none⟩ := by
    unfold Addr.add
    by_cases h0 : j = 0 <;> simp [h0]
  rw [hat]
  have hi : j / 3 < X.length := by omega
  have P := C (j / 3) (X[j / 3]) (List.getElem?_eq_getElem hi)
  have ec := cellsW_at X (j / 3) (X[j / 3]) (List.getElem?_eq_getElem hi) (j % 3) (by omega)
  have ej : j / 3 * 3 + j % 3 = j := by omega
  rw [ej, hj] at ec
  generalize X[j / 3] = y at *
  have hm : j % 3 < 3 := by omega
  have ho : o + j = o + j / 3 * 3 + j % 3 := by omega
  rw [ho]
  generalize j % 3 = r at *
  rcases (by omega : r = 0 ∨ r = 1 ∨ r = 2) with rfl | rfl | rfl
  · rw [ec]; exact P.c0
  · rw [ec]; exact P.c1
  · rw [ec]; exact P.c2

set_option maxRecDepth 100000 in
set_option maxHeartbeats 2000000 in
theorem cloneW (A : Option Addr) (X : List W3) (c : Nat) (w : World) (hr : RowsW w w.heap.size A X) (hX : X.length * 40 ≤ 140737488355328) (hc : X.length ≤ c) (hm : c ≤ maxLen) :
    Calls Try.prog 50 #[.slice A X.length c] w fun e w' => ∃ v, e = .returned v ∧ w'.ownsRow w.heap.size 103 3 v X.length (cellsW X) ∧ Below w.heap.size w w' := by
  obtain ⟨i0, hi0, hz0, hz1, hz2⟩ := info_parts wr_info
  unfold maxLen at hm
  have q : ∀ (w : World) (a : Option Addr) (n c n' c' : Nat), (binOp .eql 91 (.slice a n c) (.slice none n' c')).run Try.prog w = .ok (.bool a.isNone) w := fun w a n c n' c' => Lib.run_eql_slice_nil w _ _ a n c n' c' Try.underlying91
  have hnil : A = none → X = [] := by
    intro e
    rcases List.eq_nil_or_concat X with h | ⟨l, y, h⟩
    · exact h
    · obtain ⟨b, o', e', _⟩ := hr (by rw [h]; simp)
      rw [e] at e'; cases e'
  have HR := Lib.hid hr
  have HN := Lib.hid hnil
  clear hr hnil
  cases A with
  | none =>
    have hx := HN.out rfl
    subst hx
    go_enter Try.func50, Try.ntmps50
    go_wp2
    go_ret
    exact ⟨_, rfl, ⟨rfl, .inl ⟨rfl, rfl⟩⟩, Below.refl _ _⟩
  | some ad =>
    have AA := Lib.hid (addrsOf_W HR.out)
    go_enter Try.func50, Try.ntmps50
    go_wp2_with (at_builtin; refine wpList_append_own _ rfl _ _ 91 rfl w.heap.size 103 i0 _ 3 40 Try.underlying91 hi0 hz0 hz1 hz2 rfl (by decide) _ _ _ rfl (World.ownsRow_made w #[] 0 (Nat.le_refl _) (Nat.zero_le _) rfl) ad X.length c (cellsW X) rfl (cellsW_length X) ?qc2 (cellsW_one X) (by unfold maxLen; omega) (by omega) (by simp) ?_)
    case qc2 =>
      intro j u hj
      exact Lib.cell?_alloc_some _ (AA.out j u hj)
    intro v' w1 hown hgrow hnil
    have O := Lib.hid hown
    have G := Lib.hid (((Below.refl w.heap.size w).alloc (Nat.le_refl _) _).grown hgrow (by simp) (by intro k hk; simp [Value.ownBlock] at hk; omega))
    clear hown hgrow hnil
    go_wp2
    go_ret
    exact ⟨v', rfl, by simpa using O.out, G.out⟩

end Go.Proofs.Ytfkmodmgihadkaa
