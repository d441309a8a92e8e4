/-
  maps.Equal of the store's map with itself, and the store's Same with itself, by contracts; no condition.
-/
import Derived.Test.YthmdnbgfnaokkaaDoorQmap
import Derived.Maps.RangeWalk
import Derived.Deep.RegionHeld3
import Derived.RangeFuncGives
namespace Go.Proofs.YthmdnbgfnaokkaaDoor
set_option linter.unusedSimpArgs false
set_option linter.unusedVariables false
open Go.RowKit Go.Maps

set_option maxRecDepth 100000 in
set_option maxHeartbeats 2000000 in
theorem eqSelf (bm nn : Nat) (D : DataW Unit) (L : List W3) (W : World) (O : W.ownsMap Tryd.prog 9 wrElem bm nn D) (K : KeysW D L) :
    Calls Tryd.prog 40 #[.map (some bm), .map (some bm)] W fun e W' => e = .returned (.bool true) ∧ Below W.heap.size W W' := by
  have hlen := fun ty => O.len Tryd.underlying84 ty
  have OO := Lib.hid O
  have KK := Lib.hid K
  clear O K
  go_enter Tryd.func40, Tryd.ntmps40
  go_wp2_with (at_range; refine wpList_range_own _ rfl _ 84 rfl 9 75 strKeyed mapU wrElem bm nn D rfl OO.out ?_; intro w0 hrg0 hg0 hs0)
  clear hlen
  go_frame
  have hb0 : Below W.heap.size W w0 := ⟨hg0.os, hg0.tape, hg0.output, hg0.size, fun k hk => hg0.block k hk (by simp)⟩
  go_loopw [5] (fun _ wr => ∃ (left : Lit → Bool) (cnt : Nat), wr.ranges Tryd.prog 9 wrElem bm W.heap.size nn D left cnt ∧ Hid (Below W.heap.size W wr)) (fun _ wr => wr.rangeLeft bm W.heap.size)
  case atStart => exact ⟨_, _, hrg0, Lib.hid hb0⟩
  case round =>
    obtain ⟨left, cnt, hrg, HB⟩ := hrel
    go_wp2_with (at_next; refine wpList_next_ranges (α := Value) (β := Value) _ rfl _ rfl 9 strKeyed wrElem id id (fun key kl hk => ⟨key, rfl⟩) (fun v _ _ => ⟨v, rfl⟩) bm W.heap.size nn D _ _ rfl hrg ?_ ?_)
    · intro hc0 hl0
      go_wp2
      go_ret
      exact ⟨rfl, HB.out⟩
    · intro xv c kl yd yp w2 cnt2 hkey hlk hv hat hrg2 hlt hg2 hs2 hen
      obtain ⟨x, hx, rfl⟩ := KK.out.all kl (has_true_of_atKey hat)
      have hyd : yd = x.dat := (hat (.lit (.bool false))).symm.trans (KK.out.at_ x hx _)
      obtain ⟨x', rfl, hy2⟩ := wrElem_inv hv
      obtain rfl : x = x' := dat_inj (hyd.symm.trans (congrArg Prod.fst hy2))
      obtain rfl : xv = .string x.key := strKeyed.inj hkey (strKey x.key (KK.out.fit x hx))
      have hb2 : Below W.heap.size W w2 := HB.out.grown hg2 HB.out.size (fun k e => by injection e with e; omega)
      have HB2 := Lib.hid hb2
      have ha := Lib.hid (KK.out.at_ x hx)
      have hh := Lib.hid (KK.out.has_ x hx)
      have hk := KK.out.fit x hx
      have hne := neqWW x x
      rw [eqW_self] at hne
      have hrg3 := hrg2.of_walks (w' := (w2.alloc (.cells #[.string x.key, .string x.val, .bool x.has] 75)).alloc (.cells #[.string x.key, .string x.val, .bool x.has] 75)) ((KeepsWalks.alloc _ _).trans (KeepsWalks.alloc _ _))
      have HLE := Lib.hid (show ((w2.alloc (.cells #[.string x.key, .string x.val, .bool x.has] 75)).alloc (.cells #[.string x.key, .string x.val, .bool x.has] 75)).rangeLeft bm W.heap.size < wr.rangeLeft bm W.heap.size by rw [hrg3.left_eq, hrg.left_eq]; exact hlt)
      have HRG := Lib.hid hrg3
      clear hrg2 hrg3 hs2 hat hkey hv hyd hy2 hb2 hg2 hrg hb0 hrg0 hg0 hs0
      go_wp2_with (at_lookup; refine wpList_lookup_own_ok _ rfl _ _ 84 rfl 9 75 strKeyed mapU _ (wrZero _) _ _ (wrElem_mk ⟨ByteArray.empty, ByteArray.empty, false⟩) bm nn D rfl ((OO.out.kept (grown_of_belowW HB2.out none) (by simp)).alloc _) _ _ rfl (strKey x.key hk) ?_; intro v ps hv; rw [ha.out] at hv; obtain ⟨x2, rfl, hy⟩ := wrElem_inv hv; obtain rfl : x = x2 := dat_inj (congrArg Prod.fst hy); clear hv hy; rw [hh.out])
      go_roundw
      case rel => exact ⟨_, _, HRG.out, Lib.hid ((HB2.out.alloc HB2.out.size _).alloc (by have := HB2.out.size; simp; omega) _)⟩
      case measure => exact HLE.out

set_option maxHeartbeats 2000000 in
theorem sameS (b bm k : Nat) (L : List W3) (W : World) (h : PSt b bm k L W) :
    Calls Tryd.prog 15 #[.pointer (some ⟨b, 0, none⟩), .pointer (some ⟨b, 0, none⟩)] W fun e W' => e = .returned (.bool true) ∧ Below W.heap.size W W' := by
  obtain ⟨c0, nn, D, hk, O, K⟩ := h
  have hl := World.block_lt_of_cell? W _ c0
  have ES := Lib.hid (fun (w : World) (hw : Below W.heap.size W w) => eqSelf bm nn D L w (O.kept (grown_of_belowW hw none) (by simp)) K)
  clear O K
  go_enter Tryd.func15, Tryd.ntmps15
  go_wp2_with fail
  refine (madeS b bm _ c0).mono ?_
  rintro e W1 ⟨rfl, b1⟩
  have c1 := (b1.cell (p := ⟨b, 0, none⟩) hl).trans c0
  have hl1 : b < W1.heap.size := Nat.lt_of_lt_of_le hl b1.size
  have B1 := Lib.hid b1
  clear b1
  go_wp2_with fail
  refine (madeS b bm _ c1).mono ?_
  rintro e W2 ⟨rfl, b2⟩
  have c2 := (b2.cell (p := ⟨b, 0, none⟩) hl1).trans c1
  have B2 := Lib.hid ((B1.out.trans (b2.mono B1.out.size)).drew)
  have hl2 : b < W2.heap.size := Nat.lt_of_lt_of_le hl1 b2.size
  clear b2 c0 c1
  go_wp2
  go_region_held3 (fun w' => w'.cell? ⟨b, 0, none⟩ = some (.map (some bm))) (first | exact c2 | exact c3)
    (first | (go_at_call 40; refine (ES.out _ B2.out).mono ?_; rintro e W3 ⟨rfl, b3⟩; have B3 := Lib.hid (B2.out.trans (b3.mono B2.out.size)); have c3 := (b3.cell (p := ⟨b, 0, none⟩) (by exact hl2)).trans c2; clear b3))
  go_wp2
  go_ret
  exact ⟨rfl, B3.out⟩

end Go.Proofs.YthmdnbgfnaokkaaDoor
