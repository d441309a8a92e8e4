/-
  The store's Clone, by a contract; no condition.
-/
import Derived.Test.YthmdnbgfnaokkaaDoorQmap
import Derived.Test.YthmdnbgfnaokkaaDoorShelf
namespace Go.Proofs.YthmdnbgfnaokkaaDoor
set_option linter.unusedSimpArgs false
set_option linter.unusedVariables false
open Go.RowKit Go.Maps

set_option maxHeartbeats 1000000 in
theorem cloneS (b bm k : Nat) (L : List W3) (W : World) (h : PSt b bm k L W) :
    Calls Tryd.prog 9 #[.pointer (some ⟨b, 0, none⟩)] W fun e W' => ∃ b2 bm2, e = .returned (.pointer (some ⟨b2, 0, none⟩)) ∧ W.heap.size ≤ bm2 ∧ bm2 < b2 ∧ PSt b2 bm2 k L W' ∧ Below W.heap.size W W' := by
  obtain ⟨c0, nn, D, hk, O, K⟩ := h
  have hl := World.block_lt_of_cell? W _ c0
  have OO := Lib.hid O
  have KK := Lib.hid K
  clear O K
  go_enter Tryd.func9, Tryd.ntmps9
  go_wp2_with (first
    | (go_at_call 30; refine (madeS b bm _ c0).mono ?_; rintro e W1 ⟨rfl, b1⟩; have c1 := (b1.cell (p := ⟨b, 0, none⟩) hl).trans c0; have hs1 := b1.size; have B1 := Lib.hid b1; clear b1)
    | (go_at_call 31; refine (AnyW.maps_Clone_owns Tryd.cloneM 9 wrElem bm nn D _ (OO.out.kept (grown_of_belowW B1.out none) (by simp))).mono ?_; rintro e W2 ⟨rfl, O2, _, b2⟩; have hs2 := b2.size; have OC := Lib.hid O2; have hbl := O2.lt; have B2 := Lib.hid (B1.out.trans (b2.mono B1.out.size)); clear b2 O2))
  go_ret
  refine ⟨W2.heap.size, W1.heap.size, by simp, by omega, hbl, ⟨by simp, nn, D, hk, OC.out.kept (World.grownBy_alloc _ _ none) (by simp), KK.out⟩, B2.out.alloc B2.out.size _⟩

end Go.Proofs.YthmdnbgfnaokkaaDoor
