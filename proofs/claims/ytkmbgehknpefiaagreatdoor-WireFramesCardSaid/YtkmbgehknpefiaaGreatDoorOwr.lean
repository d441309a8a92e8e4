/-
  What a Writer of package octet holds, and what its calls write: by exact answers. Condition: the Writer is the caller's own; what was written takes at most 2^47 bytes.
-/
import Derived.Test.YtkmbgehknpefiaaGreatDoorOma
import Derived.Test.YtkmbgehknpefiaaGreatDoorRows
import Derived.WalkKit
import Derived.WalkSpells
import Derived.WalkLawsBesides
import Derived.Lib.Hide
import Derived.LoopN
import Derived.Handy
import Derived.Below
import Derived.Laws.OwnMore
import Derived.Maps.AppendAt
import Derived.OwnWalk
import Derived.RangeFuncBox
import Derived.Lib.AppendStr
import Derived.Lib.UnsafeStr
import Derived.Lib.SliceRun
import Derived.IntWalk
namespace Go.Proofs.YtkmbgehknpefiaaGreatDoor
set_option linter.unusedSimpArgs false
set_option linter.unusedVariables false
open Go.RowKit

theorem byteI : (Tryz.prog.info? 5).map (fun i => (i.zero, i.size, i.bytes)) = some (some (.int .u8 0), 1, 1) := by kernel_rfl
/-- a Writer that holds bytes, in a block of its own. -/
def WrAt (base b : Nat) (L : List UInt8) (W : World) : Prop :=
  base ≤ b ∧ ∃ v, Boxed W b 90 v ∧ W.ownsRow base 5 1 v L.length (Lib.byteCells L)
/-- all but the Writer's own block, and rows of bytes, lies as it lay. -/
structure KeepW (b : Nat) (W W' : World) : Prop where
  size : W.heap.size ≤ W'.heap.size
  same : ∀ (k : Nat) (o : Obj), k ≠ b → W.heap[k]? = some o → (∀ cs fr, o ≠ .cells cs 5 fr) → W'.heap[k]? = some o
theorem KeepW.refl (b : Nat) (W : World) : KeepW b W W := ⟨Nat.le_refl _, fun _ _ _ h _ => h⟩
theorem KeepW.trans {b : Nat} {W W' W2 : World} (h : KeepW b W W') (k : KeepW b W' W2) : KeepW b W W2 := ⟨Nat.le_trans h.size k.size, fun i o hi ho hn => k.same i o hi (h.same i o hi ho hn) hn⟩
theorem KeepW.alloc {b : Nat} (W : World) (o : Obj) : KeepW b W (W.alloc o) := ⟨by simp, fun k o' _ h _ => (Below.heap_alloc W o k (Array.getElem?_eq_some_iff.1 h).1).trans h⟩
theorem KeepW.below {b : Nat} {W W' : World} (h : Below W.heap.size W W') : KeepW b W W' := ⟨h.size, fun k o _ ho _ => (h.block k (Array.getElem?_eq_some_iff.1 ho).1).trans ho⟩
theorem KeepW.grown {b : Nat} {W W' : World} {row : Option Nat} (hg : W.grownBy W' row) (hr : ∀ g, row = some g → ∃ cs fr, W.heap[g]? = some (.cells cs 5 fr)) : KeepW b W W' :=
  ⟨hg.size, fun k o _ ho hn => (hg.block k (Array.getElem?_eq_some_iff.1 ho).1 (fun e => by
    obtain ⟨cs, fr, h⟩ := hr k e.symm
    rw [ho] at h
    cases h
    exact hn _ _ rfl)).trans ho⟩
theorem KeepW.set {b : Nat} (W : World) (i : Nat) (v : Value) : KeepW b W (W.setCell ⟨b, i, none⟩ v) :=
  ⟨(KeepsWalks.setCell W _ v).size, fun k o hk ho _ => (Below.heap_setCell _ _ _ k hk).trans ho⟩
theorem own_block {W : World} {base : Nat} {v : Value} {n : Nat} {xs : List Value} (h : W.ownsRow base 5 1 v n xs) (g : Nat) (hg : v.ownBlock = some g) : ∃ cs fr, W.heap[g]? = some (.cells cs 5 fr) := by
  rcases h.2 with ⟨rfl, _⟩ | ⟨g', cap, cur, rfl, _, hgb, _⟩
  · simp [Value.ownBlock] at hg
  · have : g' = g := by simpa [Value.ownBlock] using hg
    subst this
    exact ⟨_, _, hgb⟩
theorem wr_ne : (90 : TypeId) ≠ 5 := by decide
/-- behind 'x.b = append(x.b, ..)'. -/
theorem wr_append {base b : Nat} {L : List UInt8} {W w1 : World} {v v' : Value} {m : Nat} {ys : List Value} {tmp : Obj} (hb : base ≤ b) (hv : Boxed W b 90 v) (hrow : W.ownsRow base 5 1 v L.length (Lib.byteCells L)) (hB : base ≤ W.heap.size)
    (hown : w1.ownsRow base 5 1 v' m ys) (hg : (W.alloc tmp).grownBy w1 v.ownBlock) :
    Boxed w1 b 90 v ∧ Boxed (w1.setCell ⟨b, 0, none⟩ v') b 90 v' ∧ (w1.setCell ⟨b, 0, none⟩ v').ownsRow base 5 1 v' m ys ∧ Below base W (w1.setCell ⟨b, 0, none⟩ v') ∧ KeepW b W (w1.setCell ⟨b, 0, none⟩ v') := by
  obtain ⟨h1, h2, h3, -, h5⟩ := hv.appended wr_ne hrow hB hb hown hg
  refine ⟨h1, h2, h3, h5, ((KeepW.alloc W tmp).trans (KeepW.grown hg (fun g e => ?_))).trans (KeepW.set _ _ _)⟩
  obtain ⟨cs, fr, h⟩ := own_block hrow g e
  exact ⟨cs, fr, (Below.heap_alloc W tmp g (Array.getElem?_eq_some_iff.1 h).1).trans h⟩
/-- .. of a text: no block is laid for what is appended. -/
theorem wr_append' {base b : Nat} {L : List UInt8} {W w1 : World} {v v' : Value} {m : Nat} {ys : List Value} (hb : base ≤ b) (hv : Boxed W b 90 v) (hrow : W.ownsRow base 5 1 v L.length (Lib.byteCells L)) (hB : base ≤ W.heap.size)
    (hown : w1.ownsRow base 5 1 v' m ys) (hg : W.grownBy w1 v.ownBlock) :
    Boxed w1 b 90 v ∧ Boxed (w1.setCell ⟨b, 0, none⟩ v') b 90 v' ∧ (w1.setCell ⟨b, 0, none⟩ v').ownsRow base 5 1 v' m ys ∧ Below base W (w1.setCell ⟨b, 0, none⟩ v') ∧ KeepW b W (w1.setCell ⟨b, 0, none⟩ v') := by
  have h1 : Boxed w1 b 90 v := hv.kept hg (hv.not_row wr_ne hrow)
  refine ⟨h1, h1.set v', hown.kept (grownBy_setCell' w1 b v') (.inr (h1.not_row wr_ne hown).symm), ?_, (KeepW.grown hg (own_block hrow)).trans (KeepW.set _ _ _)⟩
  refine ((Below.refl base W).grown hg hB fun j ej => ?_).setCell (p := ⟨b, 0, none⟩) hb v'
  exact (hrow.lt j ej).1
theorem toNat_I {n : Int} (h0 : 0 ≤ n) (h1 : n < 256) : (((UInt8.ofNat n.toNat).toNat : Nat) : Int) = n := by
  rw [toNat_of (by omega)]
  omega

set_option maxRecDepth 100000 in
set_option maxHeartbeats 1000000 in
theorem wB (base b : Nat) (L : List UInt8) (n : Int) (W : World) (h : WrAt base b L W) (hB : base ≤ W.heap.size) (hl : L.length + 1 ≤ 140737488355328) (h0 : 0 ≤ n) (h1 : n < 256) :
    Calls Tryz.prog 78 #[.pointer (some ⟨b, 0, none⟩), .int .u8 n] W fun e W' => e = .returned (.tuple #[]) ∧ WrAt base b (L ++ [UInt8.ofNat n.toNat]) W' ∧ Below base W W' ∧ KeepW b W W' := by
  obtain ⟨i0, hi, hz0, hz1, hz2⟩ := info_parts byteI
  obtain ⟨hb, v, bV, hrow⟩ := h
  have hc := bV.cell
  have HR := Lib.hid (hrow.alloc (.cells #[.int .u8 n] 5))
  have HX := Lib.hid (show Lib.byteCells (L ++ [UInt8.ofNat n.toNat]) = Lib.byteCells L ++ [.int .u8 n] by rw [Lib.byteCells_append]; simp only [Lib.byteCells, List.map_cons, List.map_nil]; rw [toNat_I h0 h1])
  go_enter Tryz.func78, Tryz.ntmps78
  go_wp2_with (at_builtin
               refine wpList_append_own _ rfl _ _ 41 rfl base 5 i0 (.int .u8 0) 1 1 Tryz.underlying41 hi hz0 hz1 hz2 rfl (by decide) _ _ _ rfl HR.out ⟨W.heap.size, 0, none⟩ 1 1 [.int .u8 n] rfl rfl (cell_one_new _ _ _) (by simp [Value.oneCell']) (by unfold maxLen; omega) (by omega) (by simp; omega) ?_
               intro v' w1 hown' hgrow _
               obtain ⟨g', cap', rfl⟩ := ownsRow_succ hown'
               obtain ⟨hv1, hv2, hr2, hb2, hk2⟩ := wr_append hb bV hrow hB hown' hgrow
               have hc1 := hv1.cell
               have hf1 := hv1.frozen
               clear hown' hgrow)
  go_end0
  exact ⟨rfl, ⟨hb, _, hv2, by rw [HX.out, List.length_append]; exact hr2⟩, hb2, hk2⟩

end Go.Proofs.YtkmbgehknpefiaaGreatDoor
