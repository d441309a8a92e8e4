/-
  The walk of the law PartRights. Condition: the list takes at most 2^47 bytes, each number fits its kind.
-/
import Derived.Test.YtggaakjimkfliaaDoorPknw
import Derived.Deep.RegionHeld3
namespace Go.Proofs.YtggaakjimkfliaaDoor
set_option linter.unusedSimpArgs false
set_option linter.unusedVariables false
open Go.RowKit Go.Sort

/-- a result in memory. -/
structure Res2 (W : World) (b : Nat) (c : Int) (v : ByteArray) : Prop where
  c0 : W.cell? ⟨b, 0, none⟩ = some (.int .u8 c)
  c1 : W.cell? ⟨b, 1, none⟩ = some (.string v)
theorem Res2.below {W W' : World} {b : Nat} {c : Int} {v : ByteArray} (h : Res2 W b c v) (hb : Below W.heap.size W W') (hl : b < W.heap.size) : Res2 W' b c v :=
  ⟨(hb.cell (p := ⟨b, 0, none⟩) hl).trans h.c0, (hb.cell (p := ⟨b, 1, none⟩) hl).trans h.c1⟩

theorem stepB {w W W' : World} {b : Nat} {u v : Value} (B : Hid (Below w.heap.size w W)) (hl : b < W.heap.size) (c0 : W.cell? ⟨b, 0, none⟩ = some u) (c1 : W.cell? ⟨b, 1, none⟩ = some v) (hb : Below W.heap.size W W') :
    Hid (Below w.heap.size w W') ∧ b < W'.heap.size ∧ W'.cell? ⟨b, 0, none⟩ = some u ∧ W'.cell? ⟨b, 1, none⟩ = some v :=
  ⟨Lib.hid (B.out.trans (hb.mono B.out.size)), Nat.lt_of_lt_of_le hl hb.size, (hb.cell (p := ⟨b, 0, none⟩) hl).trans c0, (hb.cell (p := ⟨b, 1, none⟩) hl).trans c1⟩
theorem toResB (c : Int) (v : ByteArray) (W : World) : Calls Tryd.prog 14 #[.agg #[.int .u8 c, .string v]] W fun e W' => e = .returned (.agg #[.int .u8 c, .string v]) ∧ Below W.heap.size W W' :=
  (toRes c v W).mono fun e W' ⟨he, hw⟩ => ⟨he, by rw [← hw]; exact ((Below.refl _ _).alloc (Nat.le_refl _) _).alloc (by simp) _⟩
theorem rightResB (c : Int) (v : ByteArray) (W : World) : Calls Tryd.prog 15 #[.agg #[.int .u8 c, .string v]] W fun e W' => e = .returned (.bool (rR c v)) ∧ Below W.heap.size W W' :=
  (rightRes c v W).mono fun e W' ⟨he, hw⟩ => ⟨he, by rw [← hw]; exact (Below.refl _ _).alloc (Nat.le_refl _) _⟩
theorem refRightResB (c : Int) (v : ByteArray) (W : World) : Calls Tryd.prog 16 #[.agg #[.int .u8 c, .string v]] W fun e W' => e = .returned (.bool (rR c v)) ∧ Below W.heap.size W W' :=
  (refRightRes c v W).mono fun e W' ⟨he, hw⟩ => ⟨he, by rw [← hw]; exact (Below.refl _ _).alloc (Nat.le_refl _) _⟩

set_option maxRecDepth 100000 in
set_option maxHeartbeats 4000000 in
theorem walkRights (A : Option Addr) (X : List P5) (c : Nat) (cc : Int) (v : ByteArray) (w : World) (B : Nat) (hr : RowsP w w.heap.size A X) (hX : ∀ x ∈ X, x.Rng) (hlen : X.length * 48 ≤ 140737488355328) (hc : X.length ≤ c) (hm : c ≤ maxLen) (ht : Okw B w) :
    Calls Tryd.prog 3 #[.slice A X.length c, .agg #[.int .u8 cc, .string v]] w fun e w' => e = .returned (.bool true) ∧ Below w.heap.size w w' := by
  have b0 : Below w.heap.size w (w.alloc (.cells #[.int .u8 cc, .string v] 24)) := (Below.refl _ _).alloc (Nat.le_refl _) _
  have r1 := hr.below b0 (Nat.le_refl _) b0.size
  have L0 := light A X c (w.alloc (.cells #[.int .u8 cc, .string v] 24)) r1 hc hm
  have hK := Lib.hid (fun W (hb : Below w.heap.size w W) => knows_any W B (ht.on hb))
  unfold maxLen at hm
  have hmi : (c : Int) ≤ 9223372036854775807 := by omega
  have hci : (X.length : Int) ≤ (c : Int) := by omega
  have HL := Lib.hid L0
  have HB := Lib.hid b0
  have HR := Lib.hid hr
  clear b0 r1 L0 hr
  go_enter Tryd.func3, Tryd.ntmps3
  go_wp2_with fail
  refine HL.out.mono ?_
  rintro e w1 ⟨rfl, bw⟩
  have c1 := (bw.cell (p := ⟨w.heap.size, 1, none⟩) (by simp)).trans (show (w.alloc (.cells #[.int .u8 cc, .string v] 24)).cell? ⟨w.heap.size, 1, none⟩ = some (.string v) by simp)
  have c0 := (bw.cell (p := ⟨w.heap.size, 0, none⟩) (by simp)).trans (show (w.alloc (.cells #[.int .u8 cc, .string v] 24)).cell? ⟨w.heap.size, 0, none⟩ = some (.int .u8 cc) by simp)
  have hs1 : w.heap.size < w1.heap.size := by have := bw.size; simp at this; omega
  have HB1 := Lib.hid (HB.out.trans (bw.mono (by simp)))
  clear bw HL HB
  cases hl : lightB X with
  | false =>
    go_wp2_with fail
    refine (hK.out _ HB1.out).mono ?_
    rintro e w2 ⟨rfl, b2⟩
    go_wp2
    go_ret
    exact ⟨rfl, HB1.out.trans (b2.mono (by omega))⟩
  | true =>
    by_cases hv : (v.size : Int) ≤ 3000
    · have hv' : ¬ (3000 : Int) < (v.size : Int) := by omega
      have HC1 := Lib.hid (show Res2 w1 w.heap.size cc v from ⟨c0, c1⟩)
      clear c0 hl
      go_wp2_with fail
      clear c1
      go_loopw [5] (fun i wx => ∃ k : Nat, k ≤ X.length ∧ i = .int .i64 k ∧ Hid (Below w.heap.size w wx) ∧ Hid (Res2 wx w.heap.size cc v)) (fun i _ => X.length - (intOf i).toNat)
      case atStart => exact ⟨0, by omega, rfl, HB1, HC1⟩
      case round =>
        clear HB1 HC1
        obtain ⟨k, hk, rfl, BB, CC⟩ := hrel
        have hbs := BB.out.size
        by_cases hlt : k < X.length
        · obtain ⟨b, o, rfl, hb, C⟩ := HR.out.at_ hlt
          have C' := C.below BB.out hb
          have hx : X[k]? = some X[k] := List.getElem?_eq_getElem hlt
          have rx := hX _ (List.mem_of_getElem? hx)
          generalize X[k] = x at *
          have k0 := cell_regrown C'.c0
          have k1 := cell_regrown C'.c1
          have k2 := cell_regrown C'.c2
          have k3 := cell_regrown C'.c3
          have k4 := cell_regrown C'.c4
          have P1 := Lib.hid (fun W => toPart x.g x.k x.n x.key x.val W)
          have P2 := Lib.hid (fun W => rightPart x.g x.k x.n x.key x.val W rx.k.1)
          have P3 := Lib.hid (fun W => refRight x.g x.k x.n x.key x.val W rx.k.1)
          clear C C' hx
          have hji : (k : Int) < (X.length : Int) := by omega
          go_wp2_with fail
          refine wp_region_quiet_below (by kernel_rfl) (by kernel_rfl) ?_
          repeat (go_big_quiet_step (first | (go_at_call 8; exact Calls.regrown_of ((P1.out _).mono fun e W' ⟨he, hw⟩ => ⟨he, by rw [← hw]; exact ((Below.refl _ _).alloc (Nat.le_refl _) _).alloc (by simp) _⟩)) | (go_at_call 9; exact Calls.regrown_of (P2.out _)) | (go_at_call 10; exact Calls.regrown_of (P3.out _))))
          refine wpQuiet_nil ?_
          rintro W ⟨p, rfl⟩
          have y1 := below_regrown wr p.d p.os
          generalize grow (redrawn wr p.d) p.os = w2 at *
          clear k0 k1 k2 k3 k4 P1 P2 P3
          have Y1 := Lib.hid y1
          clear y1
          go_wp2
          go_roundw
          case rel => exact ⟨k + 1, by omega, by go_num, Lib.hid (BB.out.trans (Y1.out.mono hbs)), Lib.hid (CC.out.below Y1.out (World.block_lt_of_cell? _ _ CC.out.c0))⟩
          case measure => simp [intOf]; omega
        · have hkk : k = X.length := by omega
          subst hkk
          have P1 := Lib.hid (fun W hw h1 => parts A X c W (HR.out.below (C := w.heap.size) hw (Nat.le_refl _) h1) hlen hc (by unfold maxLen; omega))
          have P2 := Lib.hid (fun A c W hr hc hm => rightAll A X c W hr hX hc hm)
          have P3 := Lib.hid (fun W hw h1 => refRightAll A X c W (HR.out.below (C := w.heap.size) hw (Nat.le_refl _) h1) hX hc (by unfold maxLen; omega))
          have P4 := Lib.hid (toResB cc v)
          have P5 := Lib.hid (rightResB cc v)
          have P6 := Lib.hid (refRightResB cc v)
          obtain ⟨c0, c1⟩ := CC.out
          clear hX
          go_wp2_with fail
          have hlw : w.heap.size < wr.heap.size := World.block_lt_of_cell? _ _ c0
          go_region_held3 (fun w' => w'.cell? ⟨w.heap.size, 0, none⟩ = some (.int .u8 cc) ∧ w'.cell? ⟨w.heap.size, 1, none⟩ = some (.string v)) (((first | (simp; done) | (go_simp; done) | go_keep)))
            (first
              | (go_at_call 12; refine (P1.out _ (BB.out.drew) hbs).mono ?_; rintro e w2 ⟨v2, rfl, O2, b2⟩; obtain ⟨A2, d2, rfl, R2, l2, m2⟩ := rowsP_of_own O2; obtain ⟨H2, L2, C20, C21⟩ := stepB (W := wr.drew) (Lib.hid BB.out.drew) hlw c0 c1 b2; clear O2 b2)
              | (go_at_call 11; refine (P2.out _ _ _ R2 l2 m2).mono ?_; rintro e w3 ⟨rfl, b3⟩; obtain ⟨H3, L3, C30, C31⟩ := stepB H2 L2 C20 C21 b3; clear b3)
              | (go_at_call 13; refine (P3.out _ H3.out (Nat.le_of_lt L3)).mono ?_; rintro e w4 ⟨rfl, b4⟩; obtain ⟨H4, L4, C40, C41⟩ := stepB H3 L3 C30 C31 b4; clear b4)
              | (go_at_call 14; refine (P4.out _).mono ?_; rintro e w5 ⟨rfl, b5⟩; obtain ⟨H5, L5, C50, C51⟩ := stepB H4 L4 C40 C41 b5; clear b5)
              | (go_at_call 15; refine (P5.out _).mono ?_; rintro e w6 ⟨rfl, b6⟩; obtain ⟨H6, L6, C60, C61⟩ := stepB H5 L5 C50 C51 b6; clear b6)
              | (go_at_call 16; refine (P6.out _).mono ?_; rintro e w7 ⟨rfl, b7⟩; obtain ⟨H7, L7, C70, C71⟩ := stepB H6 L6 C60 C61 b7; clear b7)
              | (go_at_call 7; refine (hK.out _ H7.out).mono ?_; rintro e w8 ⟨rfl, b8⟩; obtain ⟨H8, L8, C80, C81⟩ := stepB H7 L7 C70 C71 b8; clear b8))
          all_goals
            go_wp2
            go_ret
            exact ⟨rfl, H8.out⟩
    · have hv' : (3000 : Int) < (v.size : Int) := by omega
      go_wp2_with fail
      refine (hK.out _ HB1.out).mono ?_
      rintro e w2 ⟨rfl, b2⟩
      go_wp2
      go_ret
      exact ⟨rfl, HB1.out.trans (b2.mono (by omega))⟩

end Go.Proofs.YtggaakjimkfliaaDoor
