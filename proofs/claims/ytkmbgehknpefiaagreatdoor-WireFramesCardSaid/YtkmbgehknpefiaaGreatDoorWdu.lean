/-
  The document's Unframe: by an exact answer. Condition: the bytes lie in memory, they are at most 2000.
-/
import Derived.Test.YtkmbgehknpefiaaGreatDoorWds
import Derived.Test.YtkmbgehknpefiaaGreatDoorWuf
import Derived.Test.YtkmbgehknpefiaaGreatDoorOdt
namespace Go.Proofs.YtkmbgehknpefiaaGreatDoor
set_option linter.unusedSimpArgs false
set_option linter.unusedVariables false
open Go.RowKit Go.Sort

theorem unframe_short (x : List UInt8) (h : x.length ≤ 2000) : unframe x =
    (if summedB x = false then (Pk.zero, 7)
     else if (got 524288 (x.take (x.length - 4))).2.2.fin ≠ 0 then (Pk.zero, (got 524288 (x.take (x.length - 4))).2.2.fin)
     else if (got 524288 (x.take (x.length - 4))).2.1 ≤ 1 ∧ rp (got 524288 (x.take (x.length - 4))).1.fn (got 524288 (x.take (x.length - 4))).1.fl ∧ rp (got 524288 (x.take (x.length - 4))).1.tn (got 524288 (x.take (x.length - 4))).1.tl then ((got 524288 (x.take (x.length - 4))).1, 0) else (Pk.zero, 6)) := by
  unfold unframe
  rw [if_neg (by omega)]
  by_cases h2 : x.length < 4
  · have hs : summedB x = false := decide_eq_false (by omega)
    rw [if_pos h2, hs, if_pos rfl]
  rw [if_neg h2]
  by_cases h3 : x.drop (x.length - 4) = be4 (Crc.sumN (x.take (x.length - 4)))
  · have hs : summedB x = true := decide_eq_true ⟨by omega, h3⟩
    rw [hs, if_neg (fun h => h h3), if_neg (show ¬ (true = false) by decide)]
  · have hs : summedB x = false := decide_eq_false (fun h => h3 h.2)
    rw [if_pos h3, hs, if_pos rfl]

set_option maxRecDepth 100000 in
set_option maxHeartbeats 4000000 in
theorem dUnframeM (A : Option Addr) (x : List UInt8) (c : Nat) (W : World) (h : BytesAt W W.heap.size A x) (hl : x.length ≤ 2000) (hc : x.length ≤ c) (hm : c ≤ maxLen) (hF0 : summedB x = false) :
    Calls Tryz.prog 21 #[.slice A x.length c] W fun e W' => ∃ B d, e = .returned (.tuple #[pkV (unframe x).1 B d, .int .i64 (unframe x).2]) ∧ BytesAt W' W'.heap.size B (unframe x).1.body ∧ Below W.heap.size W W' := by
  rw [unframe_short x hl]
  obtain ⟨W0, hW0⟩ : ∃ W0, W.alloc (.cells #[.int .u8 0, .int .u16 0, .int .u8 0, .int .u16 0, .int .u64 0, .int .u64 0, .bool false, .slice none 0 0] 73) = W0 := ⟨_, rfl⟩
  have b0 : Below W.heap.size W W0 := by rw [← hW0]; exact (Below.refl _ _).alloc (Nat.le_refl _) _
  have R0 : Hid (W0.heap[W.heap.size]? = some (.cells #[.int .u8 0, .int .u16 0, .int .u8 0, .int .u16 0, .int .u64 0, .int .u64 0, .bool false, .slice none 0 0] 73 (0, 0))) := Lib.hid (by rw [← hW0]; exact heap_alloc_new W _)
  have S0 : W.heap.size < W0.heap.size := by rw [← hW0]; simp
  have a0 : BytesAt W0 W0.heap.size A x := h.below b0 (Nat.le_refl _) b0.size
  have B0 := Lib.hid b0
  have HW0 := Lib.hid hW0
  clear h b0 hW0
  by_cases h4 : x.length < 4
  · have hs : summedB x = false := decide_eq_false (by omega)
    rw [hs, if_pos rfl]
    have h4' : (x.length : Int) - 4 < 0 := by omega
    have h5' : ¬ (524288 : Int) < (x.length : Int) := by omega
    clear a0 hl hc hm h4 hs
    go_enter Tryz.func21, Tryz.ntmps21
    go_wp2_with (first
      | (rw [HW0.out]; refine wpList_store_row rfl 73 (.tmp 2) _ rfl W.heap.size #[.int .u8 0, .int .u16 0, .int .u8 0, .int .u16 0, .int .u64 0, .int .u64 0, .bool false, .slice none 0 0] (by rfl) (by rfl) 73 #[.int .u8 0, .int .u16 0, .int .u8 0, .int .u16 0, .int .u64 0, .int .u64 0, .bool false, .slice none 0 0] R0.out (by kernel_rfl) rfl (by simp [Value.oneCell']) ?_; have ER := Lib.hid (setRow_heap W0 W.heap.size _ #[.int .u8 0, .int .u16 0, .int .u8 0, .int .u16 0, .int .u64 0, .int .u64 0, .bool false, .slice none 0 0] _ _ R0.out)))
    first
      | exact bodyPost_ret (results_cell2_row (p := 2) (u := 3) (ty := 73) rfl _ _ W.heap.size 73 #[.int .u8 0, .int .u16 0, .int .u8 0, .int .u16 0, .int .u64 0, .int .u64 0, .bool false, .slice none 0 0] (0, 0) _ (by rfl) ER.out Tryz.underlying73 rfl (by kernel_rfl)) rfl ⟨none, 0, rfl, fun hx => absurd rfl hx, below_setRow B0.out (Nat.le_refl _) _⟩
      | exact bodyPost_ret (results_cell2_row (p := 2) (u := 3) (ty := 73) rfl _ _ W.heap.size 73 #[.int .u8 0, .int .u16 0, .int .u8 0, .int .u16 0, .int .u64 0, .int .u64 0, .bool false, .slice none 0 0] (0, 0) _ (by rfl) ER.out Tryz.underlying73 rfl (by kernel_rfl)) rfl ⟨none, ⟨0, rfl⟩, fun hx => absurd rfl hx, below_setRow B0.out (Nat.le_refl _) _⟩
  obtain ⟨n, hn⟩ : ∃ n, x.length = n + 4 := ⟨x.length - 4, by omega⟩
  obtain ⟨g, o, rfl, hg, hcx⟩ := a0 (by intro e; rw [e] at hn; simp at hn)
  have htl : (x.take n).length = n := by rw [List.length_take]; omega
  have hne4 : x.length - 4 = n := by omega
  have K1 := dSum (some ⟨g, o, none⟩) (x.take n) c W0 (a0.take n) (by omega)
  rw [htl] at K1
  have hsl := Crc.sumN_lt (x.take n)
  obtain ⟨s, hsq⟩ : ∃ s, Crc.sumN (x.take n) = s := ⟨_, rfl⟩
  have HYES : Hid ((∀ j, j < 4 → x[n + j]? = (be4 s)[j]?) → summedB x = true) := Lib.hid (fun hq => summedB_yes (by omega) (by rw [hne4, hsq]; exact hq))
  have HNO : Hid (∀ j, x[n + j]? ≠ (be4 s)[j]? → summedB x = false) := Lib.hid (fun j hq => summedB_no j (by rw [hne4, hsq]; exact hq))
  rw [hsq] at K1 hsl
  have HK1 := Lib.hid K1
  rw [hne4]
  obtain ⟨G, hG⟩ : ∃ G, got 524288 (x.take n) = G := ⟨_, rfl⟩
  rw [hG]
  have HG := Lib.hid hG
  obtain ⟨bs, hbs⟩ : ∃ b, summedB x = b := ⟨_, rfl⟩
  rw [hbs] at HYES HNO hF0 ⊢
  have HTL := Lib.hid htl
  have HA0 := Lib.hid (a0.take n)
  have HCC := Lib.hid (show n ≤ c by omega)
  have HNL := Lib.hid (show n ≤ 2000 by omega)
  have HSL := Lib.hid hsl
  obtain ⟨y0, hy0⟩ : ∃ y, x[n + 0]? = some y := ⟨_, List.getElem?_eq_getElem (by omega)⟩
  have cy0 : W0.cell? ⟨g, o + (n + 0), none⟩ = some (.int .u8 (y0.toNat : Nat)) := hcx (n + 0) y0 hy0
  obtain ⟨Y0, hY0⟩ : ∃ Y, y0.toNat = Y := ⟨_, rfl⟩
  rw [hY0] at cy0
  obtain ⟨z0, hz0⟩ : ∃ z : UInt8, z.toNat = s / 16777216 := ⟨UInt8.ofNat (s / 16777216), toNat_of (by omega)⟩
  have hb0 : (be4 s)[0]? = some z0 := by
    have e : UInt8.ofNat (s / 16777216) = z0 := by rw [← hz0]; simp
    rw [← e]; rfl
  obtain ⟨Z0, hZ0⟩ : ∃ Z, z0.toNat = Z := ⟨_, rfl⟩
  have hv0 : (s : Int) / 16777216 = (Z0 : Int) := by omega
  have HY0 := Lib.hid (And.intro hy0 hb0)
  have HZ0 : Hid (Y0 = Z0 ↔ y0 = z0) := Lib.hid ⟨fun h => UInt8.toNat_inj.1 (by omega), fun h => by rw [← hY0, ← hZ0, h]⟩
  obtain ⟨y1, hy1⟩ : ∃ y, x[n + 1]? = some y := ⟨_, List.getElem?_eq_getElem (by omega)⟩
  have cy1 : W0.cell? ⟨g, o + (n + 1), none⟩ = some (.int .u8 (y1.toNat : Nat)) := hcx (n + 1) y1 hy1
  obtain ⟨Y1, hY1⟩ : ∃ Y, y1.toNat = Y := ⟨_, rfl⟩
  rw [hY1] at cy1
  obtain ⟨z1, hz1⟩ : ∃ z : UInt8, z.toNat = s / 65536 % 256 := ⟨UInt8.ofNat (s / 65536 % 256), toNat_of (by omega)⟩
  have hb1 : (be4 s)[1]? = some z1 := by
    have e : UInt8.ofNat (s / 65536 % 256) = z1 := by rw [← hz1]; simp
    rw [← e]; rfl
  obtain ⟨Z1, hZ1⟩ : ∃ Z, z1.toNat = Z := ⟨_, rfl⟩
  have hv1 : (s : Int) / 65536 % 256 = (Z1 : Int) := by omega
  have HY1 := Lib.hid (And.intro hy1 hb1)
  have HZ1 : Hid (Y1 = Z1 ↔ y1 = z1) := Lib.hid ⟨fun h => UInt8.toNat_inj.1 (by omega), fun h => by rw [← hY1, ← hZ1, h]⟩
  obtain ⟨y2, hy2⟩ : ∃ y, x[n + 2]? = some y := ⟨_, List.getElem?_eq_getElem (by omega)⟩
  have cy2 : W0.cell? ⟨g, o + (n + 2), none⟩ = some (.int .u8 (y2.toNat : Nat)) := hcx (n + 2) y2 hy2
  obtain ⟨Y2, hY2⟩ : ∃ Y, y2.toNat = Y := ⟨_, rfl⟩
  rw [hY2] at cy2
  obtain ⟨z2, hz2⟩ : ∃ z : UInt8, z.toNat = s / 256 % 256 := ⟨UInt8.ofNat (s / 256 % 256), toNat_of (by omega)⟩
  have hb2 : (be4 s)[2]? = some z2 := by
    have e : UInt8.ofNat (s / 256 % 256) = z2 := by rw [← hz2]; simp
    rw [← e]; rfl
  obtain ⟨Z2, hZ2⟩ : ∃ Z, z2.toNat = Z := ⟨_, rfl⟩
  have hv2 : (s : Int) / 256 % 256 = (Z2 : Int) := by omega
  have HY2 := Lib.hid (And.intro hy2 hb2)
  have HZ2 : Hid (Y2 = Z2 ↔ y2 = z2) := Lib.hid ⟨fun h => UInt8.toNat_inj.1 (by omega), fun h => by rw [← hY2, ← hZ2, h]⟩
  obtain ⟨y3, hy3⟩ : ∃ y, x[n + 3]? = some y := ⟨_, List.getElem?_eq_getElem (by omega)⟩
  have cy3 : W0.cell? ⟨g, o + (n + 3), none⟩ = some (.int .u8 (y3.toNat : Nat)) := hcx (n + 3) y3 hy3
  obtain ⟨Y3, hY3⟩ : ∃ Y, y3.toNat = Y := ⟨_, rfl⟩
  rw [hY3] at cy3
  obtain ⟨z3, hz3⟩ : ∃ z : UInt8, z.toNat = s % 256 := ⟨UInt8.ofNat (s % 256), toNat_of (by omega)⟩
  have hb3 : (be4 s)[3]? = some z3 := by
    have e : UInt8.ofNat (s % 256) = z3 := by rw [← hz3]; simp
    rw [← e]; rfl
  obtain ⟨Z3, hZ3⟩ : ∃ Z, z3.toNat = Z := ⟨_, rfl⟩
  have hv3 : (s : Int) % 256 = (Z3 : Int) := by omega
  have HY3 := Lib.hid (And.intro hy3 hb3)
  have HZ3 : Hid (Y3 = Z3 ↔ y3 = z3) := Lib.hid ⟨fun h => UInt8.toNat_inj.1 (by omega), fun h => by rw [← hY3, ← hZ3, h]⟩
  have cy0' : W0.cell? ⟨g, o + n, none⟩ = some (.int .u8 (Y0 : Nat)) := cy0
  have hn0 : (0 : Int) ≤ (n : Int) := by omega
  have hn1 : (n : Int) < (n : Int) + 4 := by omega
  have hw1 : IntKind.i64.wrap ((n : Int) + 1) = (n : Int) + 1 := IntWalk.i64_in _ (by omega)
  have ht1 : ((n : Int) + 1).toNat = n + 1 := by omega
  have hp1 : (0 : Int) ≤ (n : Int) + 1 := by omega
  have hq1 : (n : Int) + 1 < (n : Int) + 4 := by omega
  have hw2 : IntKind.i64.wrap ((n : Int) + 2) = (n : Int) + 2 := IntWalk.i64_in _ (by omega)
  have ht2 : ((n : Int) + 2).toNat = n + 2 := by omega
  have hp2 : (0 : Int) ≤ (n : Int) + 2 := by omega
  have hq2 : (n : Int) + 2 < (n : Int) + 4 := by omega
  have hw3 : IntKind.i64.wrap ((n : Int) + 3) = (n : Int) + 3 := IntWalk.i64_in _ (by omega)
  have ht3 : ((n : Int) + 3).toNat = n + 3 := by omega
  have hp3 : (0 : Int) ≤ (n : Int) + 3 := by omega
  have hq3 : (n : Int) + 3 < (n : Int) + 4 := by omega
  have h5' : ¬ (524288 : Int) < (n : Int) + 4 := by omega
  have h6' : ¬ ((n : Int) < 0) := by omega
  rw [hn]
  clear hl hc h4 hn hne4 htl hsq K1 a0 hG hcx hy0 hy1 hy2 hy3 hb0 hb1 hb2 hb3 hz0 hz1 hz2 hz3 hbs hY0 hY1 hY2 hY3 hZ0 hZ1 hZ2 hZ3 hsl
  by_cases q0 : Y0 = Z0
  rotate_left
  · obtain rfl : false = bs := (HNO.out 0 (by rw [HY0.out.1, HY0.out.2]; intro h; exact q0 (HZ0.out.2 (Option.some.inj h)))).symm
    rw [if_pos rfl]
    have hneq : ¬ ((Y0 : Int) = (Z0 : Int)) := fun h => q0 (by omega)
    have hv0b : (s : Int) / 16777216 % 256 = (Z0 : Int) := by have := HSL.out; omega
    go_enter Tryz.func21, Tryz.ntmps21
    go_wp2_with fail
    rw [HW0.out]
    refine HK1.out.mono ?_
    rintro e w1 ⟨rfl, rfl⟩
    go_wp2_with (first
      | (refine wpList_store_row rfl 73 (.tmp 2) _ rfl W.heap.size #[.int .u8 0, .int .u16 0, .int .u8 0, .int .u16 0, .int .u64 0, .int .u64 0, .bool false, .slice none 0 0] (by rfl) (by rfl) 73 #[.int .u8 0, .int .u16 0, .int .u8 0, .int .u16 0, .int .u64 0, .int .u64 0, .bool false, .slice none 0 0] R0.out (by kernel_rfl) rfl (by simp [Value.oneCell']) ?_; have ER := Lib.hid (setRow_heap w1 W.heap.size _ #[.int .u8 0, .int .u16 0, .int .u8 0, .int .u16 0, .int .u64 0, .int .u64 0, .bool false, .slice none 0 0] _ _ R0.out)))
    first
      | exact bodyPost_ret (results_cell2_row (p := 2) (u := 3) (ty := 73) rfl _ _ W.heap.size 73 #[.int .u8 0, .int .u16 0, .int .u8 0, .int .u16 0, .int .u64 0, .int .u64 0, .bool false, .slice none 0 0] (0, 0) _ (by rfl) ER.out Tryz.underlying73 rfl (by kernel_rfl)) rfl ⟨none, 0, rfl, fun hx => absurd rfl hx, below_setRow B0.out (Nat.le_refl _) _⟩
      | exact bodyPost_ret (results_cell2_row (p := 2) (u := 3) (ty := 73) rfl _ _ W.heap.size 73 #[.int .u8 0, .int .u16 0, .int .u8 0, .int .u16 0, .int .u64 0, .int .u64 0, .bool false, .slice none 0 0] (0, 0) _ (by rfl) ER.out Tryz.underlying73 rfl (by kernel_rfl)) rfl ⟨none, ⟨0, rfl⟩, fun hx => absurd rfl hx, below_setRow B0.out (Nat.le_refl _) _⟩
  have r0 := HZ0.out.1 q0
  have R0e := Lib.hid r0
  subst q0
  clear r0
  by_cases q1 : Y1 = Z1
  rotate_left
  · obtain rfl : false = bs := (HNO.out 1 (by rw [HY1.out.1, HY1.out.2]; intro h; exact q1 (HZ1.out.2 (Option.some.inj h)))).symm
    rw [if_pos rfl]
    have hneq : ¬ ((Y1 : Int) = (Z1 : Int)) := fun h => q1 (by omega)
    have hv0b : (s : Int) / 16777216 % 256 = (Y0 : Int) := by have := HSL.out; omega
    go_enter Tryz.func21, Tryz.ntmps21
    go_wp2_with fail
    rw [HW0.out]
    refine HK1.out.mono ?_
    rintro e w1 ⟨rfl, rfl⟩
    go_wp2_with (first
      | (refine wpList_store_row rfl 73 (.tmp 2) _ rfl W.heap.size #[.int .u8 0, .int .u16 0, .int .u8 0, .int .u16 0, .int .u64 0, .int .u64 0, .bool false, .slice none 0 0] (by rfl) (by rfl) 73 #[.int .u8 0, .int .u16 0, .int .u8 0, .int .u16 0, .int .u64 0, .int .u64 0, .bool false, .slice none 0 0] R0.out (by kernel_rfl) rfl (by simp [Value.oneCell']) ?_; have ER := Lib.hid (setRow_heap w1 W.heap.size _ #[.int .u8 0, .int .u16 0, .int .u8 0, .int .u16 0, .int .u64 0, .int .u64 0, .bool false, .slice none 0 0] _ _ R0.out)))
    first
      | exact bodyPost_ret (results_cell2_row (p := 2) (u := 3) (ty := 73) rfl _ _ W.heap.size 73 #[.int .u8 0, .int .u16 0, .int .u8 0, .int .u16 0, .int .u64 0, .int .u64 0, .bool false, .slice none 0 0] (0, 0) _ (by rfl) ER.out Tryz.underlying73 rfl (by kernel_rfl)) rfl ⟨none, 0, rfl, fun hx => absurd rfl hx, below_setRow B0.out (Nat.le_refl _) _⟩
      | exact bodyPost_ret (results_cell2_row (p := 2) (u := 3) (ty := 73) rfl _ _ W.heap.size 73 #[.int .u8 0, .int .u16 0, .int .u8 0, .int .u16 0, .int .u64 0, .int .u64 0, .bool false, .slice none 0 0] (0, 0) _ (by rfl) ER.out Tryz.underlying73 rfl (by kernel_rfl)) rfl ⟨none, ⟨0, rfl⟩, fun hx => absurd rfl hx, below_setRow B0.out (Nat.le_refl _) _⟩
  have r1 := HZ1.out.1 q1
  have R1e := Lib.hid r1
  subst q1
  clear r1
  by_cases q2 : Y2 = Z2
  rotate_left
  · obtain rfl : false = bs := (HNO.out 2 (by rw [HY2.out.1, HY2.out.2]; intro h; exact q2 (HZ2.out.2 (Option.some.inj h)))).symm
    rw [if_pos rfl]
    have hneq : ¬ ((Y2 : Int) = (Z2 : Int)) := fun h => q2 (by omega)
    have hv0b : (s : Int) / 16777216 % 256 = (Y0 : Int) := by have := HSL.out; omega
    go_enter Tryz.func21, Tryz.ntmps21
    go_wp2_with fail
    rw [HW0.out]
    refine HK1.out.mono ?_
    rintro e w1 ⟨rfl, rfl⟩
    go_wp2_with (first
      | (refine wpList_store_row rfl 73 (.tmp 2) _ rfl W.heap.size #[.int .u8 0, .int .u16 0, .int .u8 0, .int .u16 0, .int .u64 0, .int .u64 0, .bool false, .slice none 0 0] (by rfl) (by rfl) 73 #[.int .u8 0, .int .u16 0, .int .u8 0, .int .u16 0, .int .u64 0, .int .u64 0, .bool false, .slice none 0 0] R0.out (by kernel_rfl) rfl (by simp [Value.oneCell']) ?_; have ER := Lib.hid (setRow_heap w1 W.heap.size _ #[.int .u8 0, .int .u16 0, .int .u8 0, .int .u16 0, .int .u64 0, .int .u64 0, .bool false, .slice none 0 0] _ _ R0.out)))
    first
      | exact bodyPost_ret (results_cell2_row (p := 2) (u := 3) (ty := 73) rfl _ _ W.heap.size 73 #[.int .u8 0, .int .u16 0, .int .u8 0, .int .u16 0, .int .u64 0, .int .u64 0, .bool false, .slice none 0 0] (0, 0) _ (by rfl) ER.out Tryz.underlying73 rfl (by kernel_rfl)) rfl ⟨none, 0, rfl, fun hx => absurd rfl hx, below_setRow B0.out (Nat.le_refl _) _⟩
      | exact bodyPost_ret (results_cell2_row (p := 2) (u := 3) (ty := 73) rfl _ _ W.heap.size 73 #[.int .u8 0, .int .u16 0, .int .u8 0, .int .u16 0, .int .u64 0, .int .u64 0, .bool false, .slice none 0 0] (0, 0) _ (by rfl) ER.out Tryz.underlying73 rfl (by kernel_rfl)) rfl ⟨none, ⟨0, rfl⟩, fun hx => absurd rfl hx, below_setRow B0.out (Nat.le_refl _) _⟩
  have r2 := HZ2.out.1 q2
  have R2e := Lib.hid r2
  subst q2
  clear r2
  by_cases q3 : Y3 = Z3
  rotate_left
  · obtain rfl : false = bs := (HNO.out 3 (by rw [HY3.out.1, HY3.out.2]; intro h; exact q3 (HZ3.out.2 (Option.some.inj h)))).symm
    rw [if_pos rfl]
    have hbn : ((Y3 : Int) != (s : Int) % 256) = true := by rw [bne_iff_ne]; exact fun h => q3 (by omega)
    clear hv3 q3
    have hv0b : (s : Int) / 16777216 % 256 = (Y0 : Int) := by have := HSL.out; omega
    go_enter Tryz.func21, Tryz.ntmps21
    go_wp2_with fail
    rw [HW0.out]
    refine HK1.out.mono ?_
    rintro e w1 ⟨rfl, rfl⟩
    go_wp2_with (first
      | (refine wpList_store_row rfl 73 (.tmp 2) _ rfl W.heap.size #[.int .u8 0, .int .u16 0, .int .u8 0, .int .u16 0, .int .u64 0, .int .u64 0, .bool false, .slice none 0 0] (by rfl) (by rfl) 73 #[.int .u8 0, .int .u16 0, .int .u8 0, .int .u16 0, .int .u64 0, .int .u64 0, .bool false, .slice none 0 0] R0.out (by kernel_rfl) rfl (by simp [Value.oneCell']) ?_; have ER := Lib.hid (setRow_heap w1 W.heap.size _ #[.int .u8 0, .int .u16 0, .int .u8 0, .int .u16 0, .int .u64 0, .int .u64 0, .bool false, .slice none 0 0] _ _ R0.out)))
    first
      | exact bodyPost_ret (results_cell2_row (p := 2) (u := 3) (ty := 73) rfl _ _ W.heap.size 73 #[.int .u8 0, .int .u16 0, .int .u8 0, .int .u16 0, .int .u64 0, .int .u64 0, .bool false, .slice none 0 0] (0, 0) _ (by rfl) ER.out Tryz.underlying73 rfl (by kernel_rfl)) rfl ⟨none, 0, rfl, fun hx => absurd rfl hx, below_setRow B0.out (Nat.le_refl _) _⟩
      | exact bodyPost_ret (results_cell2_row (p := 2) (u := 3) (ty := 73) rfl _ _ W.heap.size 73 #[.int .u8 0, .int .u16 0, .int .u8 0, .int .u16 0, .int .u64 0, .int .u64 0, .bool false, .slice none 0 0] (0, 0) _ (by rfl) ER.out Tryz.underlying73 rfl (by kernel_rfl)) rfl ⟨none, ⟨0, rfl⟩, fun hx => absurd rfl hx, below_setRow B0.out (Nat.le_refl _) _⟩
  have r3 := HZ3.out.1 q3
  have R3e := Lib.hid r3
  clear r3
  have : true = bs := (HYES.out (fun j hj => by
    rcases (show j = 0 ∨ j = 1 ∨ j = 2 ∨ j = 3 by omega) with rfl | rfl | rfl | rfl
    · rw [HY0.out.1, HY0.out.2, R0e.out]
    · rw [HY1.out.1, HY1.out.2, R1e.out]
    · rw [HY2.out.1, HY2.out.2, R2e.out]
    · rw [HY3.out.1, HY3.out.2, R3e.out])).symm
  rw [← this] at hF0
  cases hF0

end Go.Proofs.YtkmbgehknpefiaaGreatDoor
