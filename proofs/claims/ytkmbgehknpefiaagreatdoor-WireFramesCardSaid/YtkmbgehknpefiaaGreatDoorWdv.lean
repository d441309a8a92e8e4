/-
  The document's Unframe of bytes whose sum fits: by an exact answer. Condition: the bytes lie in memory, they are at most 2000.
-/
import Derived.Test.YtkmbgehknpefiaaGreatDoorWdu
namespace Go.Proofs.YtkmbgehknpefiaaGreatDoor
set_option linter.unusedSimpArgs false
set_option linter.unusedVariables false
open Go.RowKit Go.Sort

/-- what goes along: the reader, the packet that is being read, the result's row. -/
structure UnSt (T b q : Nat) (W X : World) (s : RS) (cs : Array Value) : Prop where
  rd : DdAt T b X s
  row : X.heap[q]? = some (.cells cs 73 (0, 0))
  res : X.heap[W.heap.size]? = some (.cells #[.int .u8 0, .int .u16 0, .int .u8 0, .int .u16 0, .int .u64 0, .int .u64 0, .bool false, .slice none 0 0] 73 (0, 0))
  below : Below W.heap.size W X
  lt : q < X.heap.size
  tq : T ≤ q
  bT : b < T
  wb : W.heap.size < b
theorem UnSt.call {T b q : Nat} {W X Y : World} {s s' : RS} {cs : Array Value} (h : UnSt T b q W X s cs) (hd : DdAt T b Y s') (hg : X.grownBy Y (some b)) : UnSt T b q W Y s' cs :=
  ⟨hd, (hg.block q h.lt (by have := h.tq; have := h.bT; simp; omega)).trans h.row, (hg.block _ (by have := h.wb; have := h.bT; have := h.tq; have := h.lt; omega) (by have := h.wb; simp; omega)).trans h.res,
   h.below.grown hg h.below.size (fun j hj => by cases hj; exact Nat.le_of_lt h.wb), Nat.lt_of_lt_of_le h.lt hg.size, h.tq, h.bT, h.wb⟩
theorem UnSt.on {T b q : Nat} {W X Y : World} {s : RS} {cs : Array Value} (h : UnSt T b q W X s cs) (hb : Below X.heap.size X Y) : UnSt T b q W Y s cs :=
  ⟨h.rd.below (hb.mono h.rd.fits), (hb.block q h.lt).trans h.row, (hb.block _ (by have := h.wb; have := h.bT; have := h.tq; have := h.lt; omega)).trans h.res, h.below.trans (hb.mono h.below.size), Nat.lt_of_lt_of_le h.lt hb.size, h.tq, h.bT, h.wb⟩
theorem UnSt.set {T b q : Nat} {W X : World} {s : RS} {cs : Array Value} (h : UnSt T b q W X s cs) (i : Nat) (v : Value) : UnSt T b q W (X.setCell ⟨q, i, none⟩ v) s (cs.setIfInBounds i v) :=
  ⟨h.rd.below ((Below.refl T X).setCell (p := ⟨q, i, none⟩) h.tq v), by rw [heap_setCell_same _ _ _ _ _ _ h.row], by rw [Below.heap_setCell _ _ _ _ (by have := h.wb; have := h.bT; have := h.tq; simp; omega)]; exact h.res,
   h.below.setCell (p := ⟨q, i, none⟩) (by have := h.wb; have := h.bT; have := h.tq; show W.heap.size ≤ q; omega) v, by simpa using h.lt, h.tq, h.bT, h.wb⟩

set_option maxRecDepth 100000 in
set_option maxHeartbeats 4000000 in
theorem dUnframeE (A : Option Addr) (x : List UInt8) (c : Nat) (W : World) (h : BytesAt W W.heap.size A x) (hl : x.length ≤ 2000) (hc : x.length ≤ c) (hm : c ≤ maxLen) (hs : summedB x = true) :
    Calls Tryz.prog 21 #[.slice A x.length c] W fun e W' => ∃ B d, e = .returned (.tuple #[pkV (unframe x).1 B d, .int .i64 (unframe x).2]) ∧ BytesAt W' W'.heap.size B (unframe x).1.body ∧ Below W.heap.size W W' := by
  rw [unframe_short x hl, hs, if_neg (show ¬ (true = false) by decide)]
  obtain ⟨W0, hW0⟩ : ∃ W0, W.alloc (.cells #[.int .u8 0, .int .u16 0, .int .u8 0, .int .u16 0, .int .u64 0, .int .u64 0, .bool false, .slice none 0 0] 73) = W0 := ⟨_, rfl⟩
  have b0 : Below W.heap.size W W0 := by rw [← hW0]; exact (Below.refl _ _).alloc (Nat.le_refl _) _
  have R0 : Hid (W0.heap[W.heap.size]? = some (.cells #[.int .u8 0, .int .u16 0, .int .u8 0, .int .u16 0, .int .u64 0, .int .u64 0, .bool false, .slice none 0 0] 73 (0, 0))) := Lib.hid (by rw [← hW0]; exact heap_alloc_new W _)
  have S0 : W.heap.size < W0.heap.size := by rw [← hW0]; simp
  have a0 : BytesAt W0 W0.heap.size A x := h.below b0 (Nat.le_refl _) b0.size
  have B0 := Lib.hid b0
  have HW0 := Lib.hid hW0
  clear h b0 hW0
  have hs' := of_decide_eq_true hs
  obtain ⟨n, hn⟩ : ∃ n, x.length = n + 4 := ⟨x.length - 4, by omega⟩
  obtain ⟨g, o, rfl, hg, hcx⟩ := a0 (by intro e; rw [e] at hn; simp at hn)
  have htl : (x.take n).length = n := by rw [List.length_take]; omega
  have hne4 : x.length - 4 = n := by omega
  have K1 := dSum (some ⟨g, o, none⟩) (x.take n) c W0 (a0.take n) (by omega)
  rw [htl] at K1
  have hsl := Crc.sumN_lt (x.take n)
  have hdr := hs'.2
  rw [hne4] at hdr ⊢
  obtain ⟨s, hsq⟩ : ∃ s, Crc.sumN (x.take n) = s := ⟨_, rfl⟩
  rw [hsq] at K1 hsl hdr
  have HK1 := Lib.hid K1
  have HTL := Lib.hid htl
  have HA0 := Lib.hid (a0.take n)
  have HCC := Lib.hid (show n ≤ c by omega)
  have HNL := Lib.hid (show n ≤ 2000 by omega)
  have HSL := Lib.hid hsl
  obtain ⟨Z0, hZ0⟩ : ∃ Z : Nat, s / 16777216 = Z := ⟨_, rfl⟩
  have cy0 : W0.cell? ⟨g, o + (n + 0), none⟩ = some (.int .u8 (Z0 : Nat)) := by
    have h1 : x[n + 0]? = some (UInt8.ofNat (s / 16777216)) := by
      have h2 : (x.drop n)[0]? = (be4 s)[0]? := by rw [hdr]
      rw [List.getElem?_drop] at h2
      exact h2
    have h3 := hcx (n + 0) _ h1
    rw [toNat_of (by omega), hZ0] at h3
    exact h3
  have hv0 : (s : Int) / 16777216 = (Z0 : Int) := by omega
  obtain ⟨Z1, hZ1⟩ : ∃ Z : Nat, s / 65536 % 256 = Z := ⟨_, rfl⟩
  have cy1 : W0.cell? ⟨g, o + (n + 1), none⟩ = some (.int .u8 (Z1 : Nat)) := by
    have h1 : x[n + 1]? = some (UInt8.ofNat (s / 65536 % 256)) := by
      have h2 : (x.drop n)[1]? = (be4 s)[1]? := by rw [hdr]
      rw [List.getElem?_drop] at h2
      exact h2
    have h3 := hcx (n + 1) _ h1
    rw [toNat_of (by omega), hZ1] at h3
    exact h3
  have hv1 : (s : Int) / 65536 % 256 = (Z1 : Int) := by omega
  obtain ⟨Z2, hZ2⟩ : ∃ Z : Nat, s / 256 % 256 = Z := ⟨_, rfl⟩
  have cy2 : W0.cell? ⟨g, o + (n + 2), none⟩ = some (.int .u8 (Z2 : Nat)) := by
    have h1 : x[n + 2]? = some (UInt8.ofNat (s / 256 % 256)) := by
      have h2 : (x.drop n)[2]? = (be4 s)[2]? := by rw [hdr]
      rw [List.getElem?_drop] at h2
      exact h2
    have h3 := hcx (n + 2) _ h1
    rw [toNat_of (by omega), hZ2] at h3
    exact h3
  have hv2 : (s : Int) / 256 % 256 = (Z2 : Int) := by omega
  obtain ⟨Z3, hZ3⟩ : ∃ Z : Nat, s % 256 = Z := ⟨_, rfl⟩
  have cy3 : W0.cell? ⟨g, o + (n + 3), none⟩ = some (.int .u8 (Z3 : Nat)) := by
    have h1 : x[n + 3]? = some (UInt8.ofNat (s % 256)) := by
      have h2 : (x.drop n)[3]? = (be4 s)[3]? := by rw [hdr]
      rw [List.getElem?_drop] at h2
      exact h2
    have h3 := hcx (n + 3) _ h1
    rw [toNat_of (by omega), hZ3] at h3
    exact h3
  have hv3 : (s : Int) % 256 = (Z3 : Int) := by omega
  have cy0' : W0.cell? ⟨g, o + n, none⟩ = some (.int .u8 (Z0 : Nat)) := cy0
  have hbn : ((Z3 : Int) != (s : Int) % 256) = false := by rw [bne_eq_false_iff_eq]; omega
  have hv0b : (s : Int) / 16777216 % 256 = (Z0 : Int) := by omega
  have hn0 : (0 : Int) ≤ (n : Int) := by omega
  have hn1 : (n : Int) < (n : Int) + 4 := by omega
  have hw1 : IntKind.i64.wrap ((n : Int) + 1) = (n : Int) + 1 := IntWalk.i64_in _ (by omega)
  have ht1 : ((n : Int) + 1).toNat = n + 1 := by omega
  have hp1 : (0 : Int) ≤ (n : Int) + 1 := by omega
  have hq1 : (n : Int) + 1 < (n : Int) + 4 := by omega
  have hw2 : IntKind.i64.wrap ((n : Int) + 2) = (n : Int) + 2 := IntWalk.i64_in _ (by omega)
  have ht2 : ((n : Int) + 2).toNat = n + 2 := by omega
  have hp2 : (0 : Int) ≤ (n : Int) + 2 := by omega
  have hq2 : (n : Int) + 2 < (n : Int) + 4 := by omega
  have hw3 : IntKind.i64.wrap ((n : Int) + 3) = (n : Int) + 3 := IntWalk.i64_in _ (by omega)
  have ht3 : ((n : Int) + 3).toNat = n + 3 := by omega
  have hp3 : (0 : Int) ≤ (n : Int) + 3 := by omega
  have hq3 : (n : Int) + 3 < (n : Int) + 4 := by omega
  have h5' : ¬ (524288 : Int) < (n : Int) + 4 := by omega
  have h6' : ¬ ((n : Int) < 0) := by omega
  rw [hn]
  unfold got
  obtain ⟨⟨⟨fn, fl⟩, s1⟩, e1⟩ : ∃ q, RS.proc ⟨x.take n, 0⟩ = q := ⟨_, rfl⟩
  obtain ⟨⟨⟨tn, tl⟩, s2⟩, e2⟩ : ∃ q, s1.proc = q := ⟨_, rfl⟩
  obtain ⟨⟨seq, s3⟩, e3⟩ : ∃ q, s2.u 18446744073709551615 = q := ⟨_, rfl⟩
  obtain ⟨⟨ack, s4⟩, e4⟩ : ∃ q, s3.u 18446744073709551615 = q := ⟨_, rfl⟩
  obtain ⟨⟨hb, s5⟩, e5⟩ : ∃ q, s4.b = q := ⟨_, rfl⟩
  obtain ⟨⟨body, s6⟩, e6⟩ : ∃ q, (if hb = 1 then s5.text 524288 else ([], s5)) = q := ⟨_, rfl⟩
  simp only [e1, e2, e3, e4, e5, e6]
  obtain ⟨F, hF⟩ : ∃ F, (if s6.fin ≠ 0 then (Pk.zero, s6.fin) else if hb ≤ 1 ∧ rp fn fl = true ∧ rp tn tl = true then (Pk.mk fn fl tn tl seq ack (decide (hb = 1)) body, 0) else (Pk.zero, 6)) = F := ⟨_, rfl⟩
  rw [hF]
  have HF := Lib.hid hF
  have E1 := Lib.hid e1
  have E2 := Lib.hid e2
  have E3 := Lib.hid e3
  have E4 := Lib.hid e4
  have E5 := Lib.hid e5
  have E6 := Lib.hid e6
  obtain ⟨W1, hW1⟩ : ∃ W1, W0.alloc (.cells #[] 5) = W1 := ⟨_, rfl⟩
  have O1 : Hid (W1.ownsRow W0.heap.size 5 1 (.slice (some ⟨W0.heap.size, 0, none⟩) 0 0) 0 []) := Lib.hid (by rw [← hW1]; exact ⟨rfl, .inr ⟨W0.heap.size, 0, #[], rfl, Nat.le_refl _, heap_alloc_new W0 _, Nat.le_refl _, by unfold maxLen; omega, rfl, rfl⟩⟩)
  have B1 : Hid (Below W0.heap.size W0 W1) := Lib.hid (by rw [← hW1]; exact (Below.refl _ _).alloc (Nat.le_refl _) _)
  have HW1 := Lib.hid hW1
  have HM := Lib.hid hm
  have HS0 := Lib.hid S0
  clear hl hc hm hn hne4 htl hsq K1 a0 hcx hZ0 hZ1 hZ2 hZ3 hsl hdr hs hs' hF e1 e2 e3 e4 e5 e6 hW1 hv3 hg S0
  go_enter Tryz.func21, Tryz.ntmps21
  go_wp2_with fail
  rw [HW0.out]
  refine HK1.out.mono ?_
  rintro e w1 ⟨rfl, rfl⟩
  go_wp2_with (first
    | (rw [HW1.out]
       refine wpList_app rfl 69 rfl (.tmp 65) (.tmp 68) rfl w1.heap.size _ 0 [] rfl O1.out ⟨g, o, none⟩ (x.take n) n c w1.heap.size rfl HTL.out.symm (HA0.out.below B1.out (Nat.le_refl _) (Nat.le_refl _)) (by rw [HTL.out]; have := HNL.out; omega) B1.out.size ?_
       intro v3 W3 hown3 hgrow3
       have B3 := Lib.hid (B1.out.grown hgrow3 B1.out.size fun k hk => (O1.out.lt k hk).1)
       rw [Nat.zero_add, List.nil_append, HTL.out] at hown3
       obtain ⟨A3, c3, rfl, -, at3, le3, mx3⟩ := bytes_of_own hown3
       rw [HTL.out] at le3
       have AT3 := Lib.hid at3
       have LM3 := Lib.hid (And.intro le3 mx3)
       clear hown3 hgrow3 at3 le3 mx3))
  have hb4 : DdAt (W3.heap.size + 1) W3.heap.size (W3.alloc (.cells #[.slice A3 n c3, .int .i64 0] 108)) ⟨x.take n, 0⟩ :=
    ⟨Nat.lt_succ_self _, by simp, A3, n, c3, heap_alloc_new _ _, fun _ => HTL.out.symm, LM3.out.1, LM3.out.2, fun _ hne => by
      obtain ⟨g3, o3, e, hg3, hc3⟩ := AT3.out hne
      exact ⟨g3, o3, e, by omega, by omega, fun j x hj => by
        rw [World.cell?_of_block (a := ⟨g3, o3 + j, none⟩) (Below.heap_alloc W3 _ g3 hg3)]
        exact hc3 j x hj⟩⟩
  have K4 := dGetProc (W3.heap.size + 1) W3.heap.size _ _ hb4
  rw [E1.out] at K4
  obtain ⟨W4, hW4⟩ : ∃ W4, W3.alloc (.cells #[.slice A3 n c3, .int .i64 0] 108) = W4 := ⟨_, rfl⟩
  have hr4 : W4.heap[W.heap.size]? = some (.cells #[.int .u8 0, .int .u16 0, .int .u8 0, .int .u16 0, .int .u64 0, .int .u64 0, .bool false, .slice none 0 0] 73 (0, 0)) := by
    rw [← hW4, Below.heap_alloc W3 _ _ (by have := HS0.out; have := B3.out.size; omega), B3.out.block _ HS0.out]
    exact R0.out
  have hbw4 : Below W.heap.size W W4 := by
    rw [← hW4]
    exact (B0.out.trans (B3.out.mono B0.out.size)).alloc (by have := HS0.out; have := B3.out.size; omega) _
  have hs4 : W4.heap.size = W3.heap.size + 1 := by rw [← hW4]; simp
  have hwb : W.heap.size < W3.heap.size := by have := HS0.out; have := B3.out.size; omega
  rw [hW4] at K4 ⊢
  obtain ⟨b, hb'⟩ : ∃ b, W3.heap.size = b := ⟨_, rfl⟩
  rw [hb'] at K4 hs4 hwb ⊢
  have HK4 := Lib.hid K4
  have HR4 := Lib.hid hr4
  have HB4 := Lib.hid hbw4
  have HS4 := Lib.hid hs4
  have HWB := Lib.hid hwb
  clear hb4 K4 hW4 hr4 hbw4 hs4 hwb AT3 LM3 B3 HK1 HA0 R0 B0 B1 O1 HW0 HW1 hb'
  clear hv0 hv1 hv2 hbn hv0b hw1 hw2 hw3 ht1 ht2 ht3 hp1 hp2 hp3 hq1 hq2 hq3 cy0 cy1 cy2 cy3 cy0' h5' h6'
  refine HK4.out.mono ?_
  rintro e w5 ⟨rfl, hd, hg⟩
  have S6 : Hid (UnSt (b + 1) b w5.heap.size W (w5.alloc (.cells #[.int .u8 fn, .int .u16 fl, .int .u8 0, .int .u16 0, .int .u64 0, .int .u64 0, .bool false, .slice none 0 0] 73)) s1 #[.int .u8 fn, .int .u16 fl, .int .u8 0, .int .u16 0, .int .u64 0, .int .u64 0, .bool false, .slice none 0 0]) := Lib.hid (by
    have h1 : W.heap.size < w5.heap.size := by have := hg.size; have := HS4.out; have := HWB.out; omega
    have h2 : b + 1 ≤ w5.heap.size := by have := hg.size; have := HS4.out; omega
    refine ⟨hd.alloc _, heap_alloc_new _ _, ?_, ?_, by simp, h2, Nat.lt_succ_self _, HWB.out⟩
    · rw [Below.heap_alloc _ _ _ h1, hg.block _ (by have := HS4.out; have := HWB.out; omega) (by have := HWB.out; simp; omega)]
      exact HR4.out
    · exact (HB4.out.grown hg HB4.out.size (fun j hj => by cases hj; exact Nat.le_of_lt HWB.out)).alloc (Nat.le_of_lt h1) _)
  have K6 := dGetProc (b + 1) b _ _ S6.out.rd
  rw [E2.out] at K6
  have HK6 := Lib.hid K6
  clear K6 hd hg HR4 HB4 HK4
  go_wp2_with fail
  refine HK6.out.mono ?_
  rintro e w6 ⟨rfl, hd, hg⟩
  have S6a := Lib.hid (S6.out.call hd hg)
  clear hd hg
  have d2 : w6.cell? ⟨w5.heap.size, 2, none⟩ = some (.int .u8 0) := (cell_of_row _ _ 2 _ _ _ S6a.out.row).trans rfl
  have f2 : w6.frozen? ⟨w5.heap.size, 2, none⟩ = false := frz_row 2 S6a.out.row
  have d3 : w6.cell? ⟨w5.heap.size, 3, none⟩ = some (.int .u16 0) := (cell_of_row _ _ 3 _ _ _ S6a.out.row).trans rfl
  have f3 : w6.frozen? ⟨w5.heap.size, 3, none⟩ = false := frz_row 3 S6a.out.row
  obtain ⟨x7, hx7⟩ : ∃ x, ((w6).setCell ⟨w5.heap.size, 2, none⟩ (.int .u8 tn)).setCell ⟨w5.heap.size, 3, none⟩ (.int .u16 tl) = x := ⟨_, rfl⟩
  have S7 : Hid (UnSt (b + 1) b w5.heap.size W x7 s2 #[.int .u8 fn, .int .u16 fl, .int .u8 tn, .int .u16 tl, .int .u64 0, .int .u64 0, .bool false, .slice none 0 0]) := Lib.hid (by rw [← hx7]; exact ((S6a.out.set 2 (.int .u8 tn)).set 3 (.int .u16 tl)))
  have HX7 := Lib.hid hx7
  clear hx7 S6 
  have K7 := dU (b + 1) b 18446744073709551615 _ _ S7.out.rd (by decide)
  rw [E3.out] at K7
  have HK7 := Lib.hid K7
  clear K7
  go_wp2_with fail
  rw [HX7.out]
  refine HK7.out.mono ?_
  clear S6a d2 f2 d3 f3 HK6
  rintro e w7 ⟨rfl, hd, hg⟩
  have S7a := Lib.hid (S7.out.call hd hg)
  clear hd hg
  have d4 : w7.cell? ⟨w5.heap.size, 4, none⟩ = some (.int .u64 0) := (cell_of_row _ _ 4 _ _ _ S7a.out.row).trans rfl
  have f4 : w7.frozen? ⟨w5.heap.size, 4, none⟩ = false := frz_row 4 S7a.out.row
  obtain ⟨x8, hx8⟩ : ∃ x, (w7).setCell ⟨w5.heap.size, 4, none⟩ (.int .u64 seq) = x := ⟨_, rfl⟩
  have S8 : Hid (UnSt (b + 1) b w5.heap.size W x8 s3 #[.int .u8 fn, .int .u16 fl, .int .u8 tn, .int .u16 tl, .int .u64 seq, .int .u64 0, .bool false, .slice none 0 0]) := Lib.hid (by rw [← hx8]; exact (S7a.out.set 4 (.int .u64 seq)))
  have HX8 := Lib.hid hx8
  clear hx8 S7 
  have K8 := dU (b + 1) b 18446744073709551615 _ _ S8.out.rd (by decide)
  rw [E4.out] at K8
  have HK8 := Lib.hid K8
  clear K8
  go_wp2_with fail
  rw [HX8.out]
  refine HK8.out.mono ?_
  clear S7a d4 f4 HK7
  rintro e w8 ⟨rfl, hd, hg⟩
  have S8a := Lib.hid (S8.out.call hd hg)
  clear hd hg
  have d5 : w8.cell? ⟨w5.heap.size, 5, none⟩ = some (.int .u64 0) := (cell_of_row _ _ 5 _ _ _ S8a.out.row).trans rfl
  have f5 : w8.frozen? ⟨w5.heap.size, 5, none⟩ = false := frz_row 5 S8a.out.row
  obtain ⟨x9, hx9⟩ : ∃ x, (w8).setCell ⟨w5.heap.size, 5, none⟩ (.int .u64 ack) = x := ⟨_, rfl⟩
  have S9 : Hid (UnSt (b + 1) b w5.heap.size W x9 s4 #[.int .u8 fn, .int .u16 fl, .int .u8 tn, .int .u16 tl, .int .u64 seq, .int .u64 ack, .bool false, .slice none 0 0]) := Lib.hid (by rw [← hx9]; exact (S8a.out.set 5 (.int .u64 ack)))
  have HX9 := Lib.hid hx9
  clear hx9 S8 
  have K9 := dB (b + 1) b _ _ S9.out.rd
  rw [E5.out] at K9
  have HK9 := Lib.hid K9
  clear K9
  go_wp2_with fail
  rw [HX9.out]
  refine HK9.out.mono ?_
  clear S8a d5 f5 HK8
  rintro e w9 ⟨rfl, hd, hg⟩
  have S9b := Lib.hid (S9.out.call hd hg)
  clear hd hg S9 HK9
  have d6 : w9.cell? ⟨w5.heap.size, 6, none⟩ = some (.bool false) := (cell_of_row _ _ 6 _ _ _ S9b.out.row).trans rfl
  have f6 : w9.frozen? ⟨w5.heap.size, 6, none⟩ = false := frz_row 6 S9b.out.row
  by_cases h1 : hb = 1
  · have h1' : (hb : Int) = 1 := by omega
    have HE6 : Hid (s5.text 524288 = (body, s6)) := Lib.hid (by have h := E6.out; rw [if_pos h1] at h; exact h)
    have HD : Hid (decide (hb = 1) = true) := Lib.hid (decide_eq_true h1)
    have H1 := Lib.hid h1
    clear h1
    obtain ⟨x10, hx10⟩ : ∃ x, w9.setCell ⟨w5.heap.size, 6, none⟩ (.bool true) = x := ⟨_, rfl⟩
    have S10 : Hid (UnSt (b + 1) b w5.heap.size W x10 s5 #[.int .u8 fn, .int .u16 fl, .int .u8 tn, .int .u16 tl, .int .u64 seq, .int .u64 ack, .bool true, .slice none 0 0]) := Lib.hid (by rw [← hx10]; exact S9b.out.set 6 (.bool true))
    have HX10 := Lib.hid hx10
    clear hx10
    have d6' : x10.cell? ⟨w5.heap.size, 6, none⟩ = some (.bool true) := (cell_of_row _ _ 6 _ _ _ S10.out.row).trans rfl
    have K10 := dT (b + 1) b 524288 _ _ S10.out.rd (by omega)
    rw [HE6.out] at K10
    have HK10 := Lib.hid K10
    clear K10
    go_wp2_with fail
    rw [HX10.out]
    refine HK10.out.mono ?_
    rintro e w10 ⟨rfl, hd, hg⟩
    have S10a := Lib.hid (S10.out.call hd hg)
    clear hd hg S10 HK10 d6' d6 f6 S9b
    obtain ⟨cT, W11, hcv, b7, s7, at7, g7⟩ := conv_text w10 body
    have S11 := Lib.hid (S10a.out.on b7)
    have d7 : W11.cell? ⟨w5.heap.size, 7, none⟩ = some (.slice none 0 0) := (cell_of_row _ _ 7 _ _ _ S11.out.row).trans rfl
    have f7 : W11.frozen? ⟨w5.heap.size, 7, none⟩ = false := frz_row 7 S11.out.row
    obtain ⟨x12, hx12⟩ : ∃ x, W11.setCell ⟨w5.heap.size, 7, none⟩ (.slice (some ⟨w10.heap.size, 0, none⟩) body.length cT) = x := ⟨_, rfl⟩
    have S12 : Hid (UnSt (b + 1) b w5.heap.size W x12 s6 #[.int .u8 fn, .int .u16 fl, .int .u8 tn, .int .u16 tl, .int .u64 seq, .int .u64 ack, .bool true, .slice (some ⟨w10.heap.size, 0, none⟩) body.length cT]) := Lib.hid (by rw [← hx12]; exact S11.out.set 7 (.slice (some ⟨w10.heap.size, 0, none⟩) body.length cT))
    have HLT := Lib.hid S10a.out.lt
    have HAT : Hid (BytesAt x12 x12.heap.size (some ⟨w10.heap.size, 0, none⟩) body) := Lib.hid (fun _ => ⟨_, 0, rfl, by rw [← hx12]; simp; omega, fun j x hj => by
      rw [Nat.zero_add, ← hx12, cell_setNe _ _ _ _ _ _ (by have := HLT.out; omega)]
      exact at7 j x hj⟩)
    have HX12 := Lib.hid hx12
    clear hx12 b7 s7 at7 g7 S10a S11
    obtain ⟨m6, hm6⟩ : ∃ m, s6.fin = m := ⟨_, rfl⟩
    have k12 := dEnd (b + 1) b _ _ S12.out.rd
    rw [hm6] at k12
    have K12 := Lib.hid k12
    have HM6 := Lib.hid hm6
    clear hm6 k12
    go_wp2_with fail
    rw [HX12.out]
    refine K12.out.mono ?_
    rintro e y ⟨rfl, rfl⟩
    by_cases hf : m6 = 0
    rotate_left
    · have hf' : ¬ (m6 : Int) = 0 := by omega
      obtain rfl : (Pk.zero, m6) = F := by rw [← HF.out]; rw [HM6.out, if_pos hf]
      go_wp2_with (first
        | (refine wpList_store_row rfl 73 (.tmp 2) _ rfl W.heap.size #[.int .u8 0, .int .u16 0, .int .u8 0, .int .u16 0, .int .u64 0, .int .u64 0, .bool false, .slice none 0 0] (by rfl) (by rfl) 73 #[.int .u8 0, .int .u16 0, .int .u8 0, .int .u16 0, .int .u64 0, .int .u64 0, .bool false, .slice none 0 0] S12.out.res (by kernel_rfl) rfl (by simp [Value.oneCell']) ?_; have ER := Lib.hid (setRow_heap y W.heap.size _ #[.int .u8 0, .int .u16 0, .int .u8 0, .int .u16 0, .int .u64 0, .int .u64 0, .bool false, .slice none 0 0] _ _ S12.out.res)
           repeat go_step
           try simp only [Exit.inBlock, Exit.then]
           first
             | exact bodyPost_ret (results_cell2_row (p := 2) (u := 3) (ty := 73) rfl _ _ W.heap.size 73 #[.int .u8 0, .int .u16 0, .int .u8 0, .int .u16 0, .int .u64 0, .int .u64 0, .bool false, .slice none 0 0] (0, 0) _ (by rfl) ER.out Tryz.underlying73 rfl (by kernel_rfl)) rfl ⟨none, 0, rfl, fun hx => absurd rfl hx, below_setRow S12.out.below (Nat.le_refl _) _⟩
             | exact bodyPost_ret (results_cell2_row (p := 2) (u := 3) (ty := 73) rfl _ _ W.heap.size 73 #[.int .u8 0, .int .u16 0, .int .u8 0, .int .u16 0, .int .u64 0, .int .u64 0, .bool false, .slice none 0 0] (0, 0) _ (by rfl) ER.out Tryz.underlying73 rfl (by kernel_rfl)) rfl ⟨none, ⟨0, rfl⟩, fun hx => absurd rfl hx, below_setRow S12.out.below (Nat.le_refl _) _⟩))
    subst hf
    have HFF : Hid (s6.fin = 0) := HM6
    have hf : (0 : Nat) = 0 := rfl
    clear hf K12
    have d0 : y.cell? ⟨w5.heap.size, 0, none⟩ = some (.int .u8 fn) := (cell_of_row _ _ 0 _ _ _ S12.out.row).trans rfl
    have d1 : y.cell? ⟨w5.heap.size, 1, none⟩ = some (.int .u16 fl) := (cell_of_row _ _ 1 _ _ _ S12.out.row).trans rfl
    go_wp2_with fail
    refine (dRight fn fl _).mono ?_
    rintro e y2 ⟨rfl, bb⟩
    have T2 := Lib.hid (S12.out.on bb)
    have AT2 := Lib.hid (HAT.out.below bb (Nat.le_refl _) bb.size)
    clear bb d0 d1
    cases hr1 : rp fn fl with
    | false =>
      obtain rfl : (Pk.zero, 6) = F := by rw [← HF.out]; rw [if_neg (fun h => h HFF.out), if_neg (fun h => by rw [hr1] at h; exact absurd h.2.1 (by decide))]
      go_wp2_with (first
        | (refine wpList_store_row rfl 73 (.tmp 2) _ rfl W.heap.size #[.int .u8 0, .int .u16 0, .int .u8 0, .int .u16 0, .int .u64 0, .int .u64 0, .bool false, .slice none 0 0] (by rfl) (by rfl) 73 #[.int .u8 0, .int .u16 0, .int .u8 0, .int .u16 0, .int .u64 0, .int .u64 0, .bool false, .slice none 0 0] T2.out.res (by kernel_rfl) rfl (by simp [Value.oneCell']) ?_; have ER := Lib.hid (setRow_heap y2 W.heap.size _ #[.int .u8 0, .int .u16 0, .int .u8 0, .int .u16 0, .int .u64 0, .int .u64 0, .bool false, .slice none 0 0] _ _ T2.out.res)
           repeat go_step
           try simp only [Exit.inBlock, Exit.then]
           first
             | exact bodyPost_ret (results_cell2_row (p := 2) (u := 3) (ty := 73) rfl _ _ W.heap.size 73 #[.int .u8 0, .int .u16 0, .int .u8 0, .int .u16 0, .int .u64 0, .int .u64 0, .bool false, .slice none 0 0] (0, 0) _ (by rfl) ER.out Tryz.underlying73 rfl (by kernel_rfl)) rfl ⟨none, 0, rfl, fun hx => absurd rfl hx, below_setRow T2.out.below (Nat.le_refl _) _⟩
             | exact bodyPost_ret (results_cell2_row (p := 2) (u := 3) (ty := 73) rfl _ _ W.heap.size 73 #[.int .u8 0, .int .u16 0, .int .u8 0, .int .u16 0, .int .u64 0, .int .u64 0, .bool false, .slice none 0 0] (0, 0) _ (by rfl) ER.out Tryz.underlying73 rfl (by kernel_rfl)) rfl ⟨none, ⟨0, rfl⟩, fun hx => absurd rfl hx, below_setRow T2.out.below (Nat.le_refl _) _⟩))
    | true =>
      have d2 : y2.cell? ⟨w5.heap.size, 2, none⟩ = some (.int .u8 tn) := (cell_of_row _ _ 2 _ _ _ T2.out.row).trans rfl
      have d3 : y2.cell? ⟨w5.heap.size, 3, none⟩ = some (.int .u16 tl) := (cell_of_row _ _ 3 _ _ _ T2.out.row).trans rfl
      have HR1 := Lib.hid hr1
      clear hr1
      go_wp2_with fail
      refine (dRight tn tl _).mono ?_
      rintro e y3 ⟨rfl, bb⟩
      have T3 := Lib.hid (T2.out.on bb)
      have AT3 := Lib.hid (AT2.out.below bb (Nat.le_refl _) bb.size)
      clear bb d2 d3
      cases hr2 : rp tn tl with
      | false =>
        obtain rfl : (Pk.zero, 6) = F := by rw [← HF.out]; rw [if_neg (fun h => h HFF.out), if_neg (fun h => by rw [hr2] at h; exact absurd h.2.2 (by decide))]
        go_wp2_with (first
          | (refine wpList_store_row rfl 73 (.tmp 2) _ rfl W.heap.size #[.int .u8 0, .int .u16 0, .int .u8 0, .int .u16 0, .int .u64 0, .int .u64 0, .bool false, .slice none 0 0] (by rfl) (by rfl) 73 #[.int .u8 0, .int .u16 0, .int .u8 0, .int .u16 0, .int .u64 0, .int .u64 0, .bool false, .slice none 0 0] T3.out.res (by kernel_rfl) rfl (by simp [Value.oneCell']) ?_; have ER := Lib.hid (setRow_heap y3 W.heap.size _ #[.int .u8 0, .int .u16 0, .int .u8 0, .int .u16 0, .int .u64 0, .int .u64 0, .bool false, .slice none 0 0] _ _ T3.out.res)
             repeat go_step
             try simp only [Exit.inBlock, Exit.then]
             first
               | exact bodyPost_ret (results_cell2_row (p := 2) (u := 3) (ty := 73) rfl _ _ W.heap.size 73 #[.int .u8 0, .int .u16 0, .int .u8 0, .int .u16 0, .int .u64 0, .int .u64 0, .bool false, .slice none 0 0] (0, 0) _ (by rfl) ER.out Tryz.underlying73 rfl (by kernel_rfl)) rfl ⟨none, 0, rfl, fun hx => absurd rfl hx, below_setRow T3.out.below (Nat.le_refl _) _⟩
               | exact bodyPost_ret (results_cell2_row (p := 2) (u := 3) (ty := 73) rfl _ _ W.heap.size 73 #[.int .u8 0, .int .u16 0, .int .u8 0, .int .u16 0, .int .u64 0, .int .u64 0, .bool false, .slice none 0 0] (0, 0) _ (by rfl) ER.out Tryz.underlying73 rfl (by kernel_rfl)) rfl ⟨none, ⟨0, rfl⟩, fun hx => absurd rfl hx, below_setRow T3.out.below (Nat.le_refl _) _⟩))
      | true =>
        obtain rfl : (Pk.mk fn fl tn tl seq ack true body, 0) = F := by rw [← HF.out, if_neg (fun h => h HFF.out), if_pos ⟨by rw [H1.out]; decide, HR1.out, hr2⟩, HD.out]
        clear hr2
        go_wp2_with (first
          | (refine wpList_load_row rfl 73 (.tmp 7) rfl w5.heap.size (by rfl) 73 #[.int .u8 fn, .int .u16 fl, .int .u8 tn, .int .u16 tl, .int .u64 seq, .int .u64 ack, .bool true, .slice (some ⟨w10.heap.size, 0, none⟩) body.length cT] (0, 0) _ T3.out.row Tryz.underlying73 rfl (by kernel_rfl) ?_)
          | (refine wpList_store_row rfl 73 (.tmp 2) _ rfl W.heap.size #[.int .u8 fn, .int .u16 fl, .int .u8 tn, .int .u16 tl, .int .u64 seq, .int .u64 ack, .bool true, .slice (some ⟨w10.heap.size, 0, none⟩) body.length cT] (by rfl) (by rfl) 73 #[.int .u8 0, .int .u16 0, .int .u8 0, .int .u16 0, .int .u64 0, .int .u64 0, .bool false, .slice none 0 0] T3.out.res (by kernel_rfl) rfl (by simp [Value.oneCell']) ?_; have ER := Lib.hid (setRow_heap y3 W.heap.size _ #[.int .u8 fn, .int .u16 fl, .int .u8 tn, .int .u16 tl, .int .u64 seq, .int .u64 ack, .bool true, .slice (some ⟨w10.heap.size, 0, none⟩) body.length cT] _ _ T3.out.res)
             repeat go_step
             try simp only [Exit.inBlock, Exit.then]
             first
               | exact bodyPost_ret (results_cell2_row (p := 2) (u := 3) (ty := 73) rfl _ _ W.heap.size 73 #[.int .u8 fn, .int .u16 fl, .int .u8 tn, .int .u16 tl, .int .u64 seq, .int .u64 ack, .bool true, .slice (some ⟨w10.heap.size, 0, none⟩) body.length cT] (0, 0) _ (by rfl) ER.out Tryz.underlying73 rfl (by kernel_rfl)) rfl ⟨some ⟨w10.heap.size, 0, none⟩, cT, rfl, (AT3.out.setRow (fun g o h => by cases h; have := HLT.out; have := S12.out.wb; have := S12.out.bT; have := S12.out.tq; omega) _).up (by simp), below_setRow T3.out.below (Nat.le_refl _) _⟩
               | exact bodyPost_ret (results_cell2_row (p := 2) (u := 3) (ty := 73) rfl _ _ W.heap.size 73 #[.int .u8 fn, .int .u16 fl, .int .u8 tn, .int .u16 tl, .int .u64 seq, .int .u64 ack, .bool true, .slice (some ⟨w10.heap.size, 0, none⟩) body.length cT] (0, 0) _ (by rfl) ER.out Tryz.underlying73 rfl (by kernel_rfl)) rfl ⟨some ⟨w10.heap.size, 0, none⟩, ⟨cT, rfl⟩, (AT3.out.setRow (fun g o h => by cases h; have := HLT.out; have := S12.out.wb; have := S12.out.bT; have := S12.out.tq; omega) _).up (by simp), below_setRow T3.out.below (Nat.le_refl _) _⟩))
  · have h1' : ¬ (hb : Int) = 1 := by omega
    have HE6 : Hid (body = [] ∧ s5 = s6) := Lib.hid (by have h := E6.out; rw [if_neg h1] at h; exact ⟨(Prod.mk.inj h).1.symm, (Prod.mk.inj h).2⟩)
    obtain rfl : body = [] := HE6.out.1
    have HD : Hid (decide (hb = 1) = false) := Lib.hid (decide_eq_false h1)
    have H1 := Lib.hid h1
    clear h1
    obtain ⟨x12, hx12⟩ : ∃ x, w9.setCell ⟨w5.heap.size, 6, none⟩ (.bool false) = x := ⟨_, rfl⟩
    have S12 : Hid (UnSt (b + 1) b w5.heap.size W x12 s6 #[.int .u8 fn, .int .u16 fl, .int .u8 tn, .int .u16 tl, .int .u64 seq, .int .u64 ack, .bool false, .slice none 0 0]) := Lib.hid (by rw [← hx12, ← HE6.out.2]; exact S9b.out.set 6 (.bool false))
    have HAT : Hid (BytesAt x12 x12.heap.size none []) := Lib.hid (fun hx => absurd rfl hx)
    have HX12 := Lib.hid hx12
    clear hx12
    obtain ⟨m6, hm6⟩ : ∃ m, s6.fin = m := ⟨_, rfl⟩
    have k12 := dEnd (b + 1) b _ _ S12.out.rd
    rw [hm6] at k12
    have K12 := Lib.hid k12
    have HM6 := Lib.hid hm6
    clear hm6 k12
    go_wp2_with fail
    rw [HX12.out]
    refine K12.out.mono ?_
    rintro e y ⟨rfl, rfl⟩
    by_cases hf : m6 = 0
    rotate_left
    · have hf' : ¬ (m6 : Int) = 0 := by omega
      obtain rfl : (Pk.zero, m6) = F := by rw [← HF.out]; rw [HM6.out, if_pos hf]
      go_wp2_with (first
        | (refine wpList_store_row rfl 73 (.tmp 2) _ rfl W.heap.size #[.int .u8 0, .int .u16 0, .int .u8 0, .int .u16 0, .int .u64 0, .int .u64 0, .bool false, .slice none 0 0] (by rfl) (by rfl) 73 #[.int .u8 0, .int .u16 0, .int .u8 0, .int .u16 0, .int .u64 0, .int .u64 0, .bool false, .slice none 0 0] S12.out.res (by kernel_rfl) rfl (by simp [Value.oneCell']) ?_; have ER := Lib.hid (setRow_heap y W.heap.size _ #[.int .u8 0, .int .u16 0, .int .u8 0, .int .u16 0, .int .u64 0, .int .u64 0, .bool false, .slice none 0 0] _ _ S12.out.res)
           repeat go_step
           try simp only [Exit.inBlock, Exit.then]
           first
             | exact bodyPost_ret (results_cell2_row (p := 2) (u := 3) (ty := 73) rfl _ _ W.heap.size 73 #[.int .u8 0, .int .u16 0, .int .u8 0, .int .u16 0, .int .u64 0, .int .u64 0, .bool false, .slice none 0 0] (0, 0) _ (by rfl) ER.out Tryz.underlying73 rfl (by kernel_rfl)) rfl ⟨none, 0, rfl, fun hx => absurd rfl hx, below_setRow S12.out.below (Nat.le_refl _) _⟩
             | exact bodyPost_ret (results_cell2_row (p := 2) (u := 3) (ty := 73) rfl _ _ W.heap.size 73 #[.int .u8 0, .int .u16 0, .int .u8 0, .int .u16 0, .int .u64 0, .int .u64 0, .bool false, .slice none 0 0] (0, 0) _ (by rfl) ER.out Tryz.underlying73 rfl (by kernel_rfl)) rfl ⟨none, ⟨0, rfl⟩, fun hx => absurd rfl hx, below_setRow S12.out.below (Nat.le_refl _) _⟩))
    subst hf
    have HFF : Hid (s6.fin = 0) := HM6
    have hf : (0 : Nat) = 0 := rfl
    clear hf K12
    by_cases h2 : 1 < hb
    · have h2' : (1 : Int) < (hb : Int) := by omega
      obtain rfl : (Pk.zero, 6) = F := by rw [← HF.out]; rw [if_neg (fun h => h HFF.out), if_neg (fun h => by have := h.1; omega)]
      go_wp2_with (first
        | (refine wpList_store_row rfl 73 (.tmp 2) _ rfl W.heap.size #[.int .u8 0, .int .u16 0, .int .u8 0, .int .u16 0, .int .u64 0, .int .u64 0, .bool false, .slice none 0 0] (by rfl) (by rfl) 73 #[.int .u8 0, .int .u16 0, .int .u8 0, .int .u16 0, .int .u64 0, .int .u64 0, .bool false, .slice none 0 0] S12.out.res (by kernel_rfl) rfl (by simp [Value.oneCell']) ?_; have ER := Lib.hid (setRow_heap y W.heap.size _ #[.int .u8 0, .int .u16 0, .int .u8 0, .int .u16 0, .int .u64 0, .int .u64 0, .bool false, .slice none 0 0] _ _ S12.out.res)
           repeat go_step
           try simp only [Exit.inBlock, Exit.then]
           first
             | exact bodyPost_ret (results_cell2_row (p := 2) (u := 3) (ty := 73) rfl _ _ W.heap.size 73 #[.int .u8 0, .int .u16 0, .int .u8 0, .int .u16 0, .int .u64 0, .int .u64 0, .bool false, .slice none 0 0] (0, 0) _ (by rfl) ER.out Tryz.underlying73 rfl (by kernel_rfl)) rfl ⟨none, 0, rfl, fun hx => absurd rfl hx, below_setRow S12.out.below (Nat.le_refl _) _⟩
             | exact bodyPost_ret (results_cell2_row (p := 2) (u := 3) (ty := 73) rfl _ _ W.heap.size 73 #[.int .u8 0, .int .u16 0, .int .u8 0, .int .u16 0, .int .u64 0, .int .u64 0, .bool false, .slice none 0 0] (0, 0) _ (by rfl) ER.out Tryz.underlying73 rfl (by kernel_rfl)) rfl ⟨none, ⟨0, rfl⟩, fun hx => absurd rfl hx, below_setRow S12.out.below (Nat.le_refl _) _⟩))
    have h2' : ¬ (1 : Int) < (hb : Int) := by omega
    have H2 := Lib.hid h2
    clear h2
    have d0 : y.cell? ⟨w5.heap.size, 0, none⟩ = some (.int .u8 fn) := (cell_of_row _ _ 0 _ _ _ S12.out.row).trans rfl
    have d1 : y.cell? ⟨w5.heap.size, 1, none⟩ = some (.int .u16 fl) := (cell_of_row _ _ 1 _ _ _ S12.out.row).trans rfl
    go_wp2_with fail
    refine (dRight fn fl _).mono ?_
    rintro e y2 ⟨rfl, bb⟩
    have T2 := Lib.hid (S12.out.on bb)
    have AT2 := Lib.hid (HAT.out.below bb (Nat.le_refl _) bb.size)
    clear bb d0 d1
    cases hr1 : rp fn fl with
    | false =>
      obtain rfl : (Pk.zero, 6) = F := by rw [← HF.out]; rw [if_neg (fun h => h HFF.out), if_neg (fun h => by rw [hr1] at h; exact absurd h.2.1 (by decide))]
      go_wp2_with (first
        | (refine wpList_store_row rfl 73 (.tmp 2) _ rfl W.heap.size #[.int .u8 0, .int .u16 0, .int .u8 0, .int .u16 0, .int .u64 0, .int .u64 0, .bool false, .slice none 0 0] (by rfl) (by rfl) 73 #[.int .u8 0, .int .u16 0, .int .u8 0, .int .u16 0, .int .u64 0, .int .u64 0, .bool false, .slice none 0 0] T2.out.res (by kernel_rfl) rfl (by simp [Value.oneCell']) ?_; have ER := Lib.hid (setRow_heap y2 W.heap.size _ #[.int .u8 0, .int .u16 0, .int .u8 0, .int .u16 0, .int .u64 0, .int .u64 0, .bool false, .slice none 0 0] _ _ T2.out.res)
           repeat go_step
           try simp only [Exit.inBlock, Exit.then]
           first
             | exact bodyPost_ret (results_cell2_row (p := 2) (u := 3) (ty := 73) rfl _ _ W.heap.size 73 #[.int .u8 0, .int .u16 0, .int .u8 0, .int .u16 0, .int .u64 0, .int .u64 0, .bool false, .slice none 0 0] (0, 0) _ (by rfl) ER.out Tryz.underlying73 rfl (by kernel_rfl)) rfl ⟨none, 0, rfl, fun hx => absurd rfl hx, below_setRow T2.out.below (Nat.le_refl _) _⟩
             | exact bodyPost_ret (results_cell2_row (p := 2) (u := 3) (ty := 73) rfl _ _ W.heap.size 73 #[.int .u8 0, .int .u16 0, .int .u8 0, .int .u16 0, .int .u64 0, .int .u64 0, .bool false, .slice none 0 0] (0, 0) _ (by rfl) ER.out Tryz.underlying73 rfl (by kernel_rfl)) rfl ⟨none, ⟨0, rfl⟩, fun hx => absurd rfl hx, below_setRow T2.out.below (Nat.le_refl _) _⟩))
    | true =>
      have d2 : y2.cell? ⟨w5.heap.size, 2, none⟩ = some (.int .u8 tn) := (cell_of_row _ _ 2 _ _ _ T2.out.row).trans rfl
      have d3 : y2.cell? ⟨w5.heap.size, 3, none⟩ = some (.int .u16 tl) := (cell_of_row _ _ 3 _ _ _ T2.out.row).trans rfl
      have HR1 := Lib.hid hr1
      clear hr1
      go_wp2_with fail
      refine (dRight tn tl _).mono ?_
      rintro e y3 ⟨rfl, bb⟩
      have T3 := Lib.hid (T2.out.on bb)
      have AT3 := Lib.hid (AT2.out.below bb (Nat.le_refl _) bb.size)
      clear bb d2 d3
      cases hr2 : rp tn tl with
      | false =>
        obtain rfl : (Pk.zero, 6) = F := by rw [← HF.out]; rw [if_neg (fun h => h HFF.out), if_neg (fun h => by rw [hr2] at h; exact absurd h.2.2 (by decide))]
        go_wp2_with (first
          | (refine wpList_store_row rfl 73 (.tmp 2) _ rfl W.heap.size #[.int .u8 0, .int .u16 0, .int .u8 0, .int .u16 0, .int .u64 0, .int .u64 0, .bool false, .slice none 0 0] (by rfl) (by rfl) 73 #[.int .u8 0, .int .u16 0, .int .u8 0, .int .u16 0, .int .u64 0, .int .u64 0, .bool false, .slice none 0 0] T3.out.res (by kernel_rfl) rfl (by simp [Value.oneCell']) ?_; have ER := Lib.hid (setRow_heap y3 W.heap.size _ #[.int .u8 0, .int .u16 0, .int .u8 0, .int .u16 0, .int .u64 0, .int .u64 0, .bool false, .slice none 0 0] _ _ T3.out.res)
             repeat go_step
             try simp only [Exit.inBlock, Exit.then]
             first
               | exact bodyPost_ret (results_cell2_row (p := 2) (u := 3) (ty := 73) rfl _ _ W.heap.size 73 #[.int .u8 0, .int .u16 0, .int .u8 0, .int .u16 0, .int .u64 0, .int .u64 0, .bool false, .slice none 0 0] (0, 0) _ (by rfl) ER.out Tryz.underlying73 rfl (by kernel_rfl)) rfl ⟨none, 0, rfl, fun hx => absurd rfl hx, below_setRow T3.out.below (Nat.le_refl _) _⟩
               | exact bodyPost_ret (results_cell2_row (p := 2) (u := 3) (ty := 73) rfl _ _ W.heap.size 73 #[.int .u8 0, .int .u16 0, .int .u8 0, .int .u16 0, .int .u64 0, .int .u64 0, .bool false, .slice none 0 0] (0, 0) _ (by rfl) ER.out Tryz.underlying73 rfl (by kernel_rfl)) rfl ⟨none, ⟨0, rfl⟩, fun hx => absurd rfl hx, below_setRow T3.out.below (Nat.le_refl _) _⟩))
      | true =>
        obtain rfl : (Pk.mk fn fl tn tl seq ack false [], 0) = F := by rw [← HF.out, if_neg (fun h => h HFF.out), if_pos ⟨by have := H2.out; omega, HR1.out, hr2⟩, HD.out]
        clear hr2
        go_wp2_with (first
          | (refine wpList_load_row rfl 73 (.tmp 7) rfl w5.heap.size (by rfl) 73 #[.int .u8 fn, .int .u16 fl, .int .u8 tn, .int .u16 tl, .int .u64 seq, .int .u64 ack, .bool false, .slice none 0 0] (0, 0) _ T3.out.row Tryz.underlying73 rfl (by kernel_rfl) ?_)
          | (refine wpList_store_row rfl 73 (.tmp 2) _ rfl W.heap.size #[.int .u8 fn, .int .u16 fl, .int .u8 tn, .int .u16 tl, .int .u64 seq, .int .u64 ack, .bool false, .slice none 0 0] (by rfl) (by rfl) 73 #[.int .u8 0, .int .u16 0, .int .u8 0, .int .u16 0, .int .u64 0, .int .u64 0, .bool false, .slice none 0 0] T3.out.res (by kernel_rfl) rfl (by simp [Value.oneCell']) ?_; have ER := Lib.hid (setRow_heap y3 W.heap.size _ #[.int .u8 fn, .int .u16 fl, .int .u8 tn, .int .u16 tl, .int .u64 seq, .int .u64 ack, .bool false, .slice none 0 0] _ _ T3.out.res)
             repeat go_step
             try simp only [Exit.inBlock, Exit.then]
             first
               | exact bodyPost_ret (results_cell2_row (p := 2) (u := 3) (ty := 73) rfl _ _ W.heap.size 73 #[.int .u8 fn, .int .u16 fl, .int .u8 tn, .int .u16 tl, .int .u64 seq, .int .u64 ack, .bool false, .slice none 0 0] (0, 0) _ (by rfl) ER.out Tryz.underlying73 rfl (by kernel_rfl)) rfl ⟨none, 0, rfl, (AT3.out.setRow (fun g o h => by cases h) _).up (by simp), below_setRow T3.out.below (Nat.le_refl _) _⟩
               | exact bodyPost_ret (results_cell2_row (p := 2) (u := 3) (ty := 73) rfl _ _ W.heap.size 73 #[.int .u8 fn, .int .u16 fl, .int .u8 tn, .int .u16 tl, .int .u64 seq, .int .u64 ack, .bool false, .slice none 0 0] (0, 0) _ (by rfl) ER.out Tryz.underlying73 rfl (by kernel_rfl)) rfl ⟨none, ⟨0, rfl⟩, (AT3.out.setRow (fun g o h => by cases h) _).up (by simp), below_setRow T3.out.below (Nat.le_refl _) _⟩))

end Go.Proofs.YtkmbgehknpefiaaGreatDoor
