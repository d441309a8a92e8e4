/-
  What a Reader of package octet holds; Read, Err, Left, Fail, End: by exact answers. Condition: the bytes are at most 2^47.
-/
import Derived.Test.YtkmbgehknpefiaaGreatDoorOwy
namespace Go.Proofs.YtkmbgehknpefiaaGreatDoor
set_option linter.unusedSimpArgs false
set_option linter.unusedVariables false
open Go.RowKit

/-- a Reader in block b, below top; what is left of its bytes, below top too. -/
structure RdAt (top b : Nat) (W : World) (s : RS) : Prop where
  lt : b < top
  fits : top ≤ W.heap.size
  all : ∃ A c, W.heap[b]? = some (.cells #[.slice A s.L.length c, .bool true, .int .i64 s.E] 177 (0, 0)) ∧ s.L.length ≤ c ∧ c ≤ maxLen ∧
    (s.L ≠ [] → ∃ g o, A = some ⟨g, o, none⟩ ∧ g < top ∧ g ≠ b ∧ ∀ j x, s.L[j]? = some x → W.cell? ⟨g, o + j, none⟩ = some (.int .u8 x.toNat))
theorem RdAt.below {top b : Nat} {W W' : World} {s : RS} (h : RdAt top b W s) (hb : Below top W W') : RdAt top b W' s := by
  obtain ⟨h1, h2, A, c, h3, h4, h5, h6⟩ := h
  refine ⟨h1, Nat.le_trans h2 hb.size, A, c, (hb.block b h1).trans h3, h4, h5, fun hx => ?_⟩
  obtain ⟨g, o, e, hg, hne, hc⟩ := h6 hx
  exact ⟨g, o, e, hg, hne, fun j x hj => (hb.cell (p := ⟨g, o + j, none⟩) hg).trans (hc j x hj)⟩
theorem RdAt.up {top top' b : Nat} {W : World} {s : RS} (h : RdAt top b W s) (hle : top ≤ top') (ht : top' ≤ W.heap.size) : RdAt top' b W s := by
  obtain ⟨h1, h2, A, c, h3, h4, h5, h6⟩ := h
  refine ⟨Nat.lt_of_lt_of_le h1 hle, ht, A, c, h3, h4, h5, fun hx => ?_⟩
  obtain ⟨g, o, e, hg, hne, hc⟩ := h6 hx
  exact ⟨g, o, e, Nat.lt_of_lt_of_le hg hle, hne, hc⟩

set_option maxRecDepth 100000 in
set_option maxHeartbeats 1000000 in
theorem readO (A : Option Addr) (L : List UInt8) (c : Nat) (w : World) (hr : BytesAt w w.heap.size A L) (hl : L.length ≤ 140737488355328) (hc : L.length ≤ c) (hm : c ≤ maxLen) :
    Calls Tryz.prog 39 #[.slice A L.length c] w fun e w' => ∃ b, e = .returned (.pointer (some ⟨b, 0, none⟩)) ∧ w.heap.size ≤ b ∧ RdAt w'.heap.size b w' ⟨L, 0⟩ ∧ Below w.heap.size w w' := by
  have K := Lib.hid (cloneB A L c w hr hl hc hm)
  clear hr
  go_enter Tryz.func39, Tryz.ntmps39
  go_wp2_with fail
  refine K.out.mono ?_
  rintro e w1 ⟨v, rfl, ho, hb1⟩
  obtain ⟨A', c', rfl, -, hat, hc1, hc2⟩ := bytes_of_own ho
  have HAT := Lib.hid hat
  have HB := Lib.hid hb1
  clear ho hat hb1
  go_wp2_with fail
  go_ret
  refine ⟨_, rfl, HB.out.size, ⟨by simp, Nat.le_refl _, A', c', heap_alloc_new _ _, hc1, hc2, fun hx => ?_⟩, HB.out.alloc HB.out.size _⟩
  obtain ⟨g, o, e, hg, hcl⟩ := HAT.out hx
  refine ⟨g, o, e, by simp; omega, by omega, fun j x hj => ?_⟩
  exact ((Below.refl _ _).alloc (Nat.le_refl _) _ |>.cell (p := ⟨g, o + j, none⟩) hg).trans (hcl j x hj)

set_option maxRecDepth 100000 in
set_option maxHeartbeats 1000000 in
theorem errO (top b : Nat) (s : RS) (W : World) (h : RdAt top b W s) :
    Calls Tryz.prog 110 #[.pointer (some ⟨b, 0, none⟩)] W fun e W' => e = .returned (.int .i64 s.E) ∧ W' = W := by
  obtain ⟨h1, h2, A, c, h3, h4, h5, h6⟩ := h
  have c1 : W.cell? ⟨b, 1, none⟩ = some (.bool true) := (cell_of_row _ _ 1 _ _ _ h3).trans rfl
  have c2 : W.cell? ⟨b, 2, none⟩ = some (.int .i64 s.E) := (cell_of_row _ _ 2 _ _ _ h3).trans rfl
  clear h3 h6
  go_enter Tryz.func110, Tryz.ntmps110
  go_wp2
  go_ret
  exact ⟨rfl, rfl⟩

set_option maxRecDepth 100000 in
set_option maxHeartbeats 1000000 in
theorem leftO (top b : Nat) (s : RS) (W : World) (h : RdAt top b W s) :
    Calls Tryz.prog 111 #[.pointer (some ⟨b, 0, none⟩)] W fun e W' => e = .returned (.int .i64 s.L.length) ∧ W' = W := by
  obtain ⟨h1, h2, A, c, h3, h4, h5, h6⟩ := h
  have c1 : W.cell? ⟨b, 0, none⟩ = some (.slice A s.L.length c) := (cell_of_row _ _ 0 _ _ _ h3).trans rfl
  clear h3 h6
  go_enter Tryz.func111, Tryz.ntmps111
  go_wp2
  go_ret
  exact ⟨rfl, rfl⟩

end Go.Proofs.YtkmbgehknpefiaaGreatDoor
