/-
  WireSpoilt, walked: every input gives true. Conditions: the numbers fit their kinds, the body, the sums and the words lie in memory.
-/
import Derived.Test.YtkmbgehknpefiaaDoorWpn
import Derived.Test.YtkmbgehknpefiaaDoorWkn
import Derived.Test.YtkmbgehknpefiaaDoorWuf
import Derived.Test.YtkmbgehknpefiaaDoorWxm
namespace Go.Proofs.YtkmbgehknpefiaaDoor
set_option linter.unusedSimpArgs false
set_option linter.unusedVariables false
open Go.RowKit Go.Sort

/-- the law's Packet, with a body or without. -/
theorem packI (fn fl tn tl seq ack : Nat) (has : Bool) (body : List UInt8) (A : Option Addr) (c : Nat) (W : World) (hA : A = none → body.length = 0 ∧ c = 0) (hr : BytesAt W W.heap.size A body) (hl : body.length ≤ 140737488355328) :
    Calls Tryd.prog 16 #[.agg #[.int .u8 fn, .int .u16 fl, .int .u8 tn, .int .u16 tl, .int .u64 seq, .int .u64 ack, .bool has, .slice A body.length c]] W fun e W' => ∃ A2 c2, e = .returned (.agg #[.int .u8 fn, .int .u16 fl, .int .u8 tn, .int .u16 tl, .int .u64 seq, .int .u64 ack, .bool has, .slice A2 body.length c2]) ∧ BytesAt W' W'.heap.size A2 body ∧ Below W.heap.size W W' := by
  cases A with
  | none =>
    obtain ⟨h1, rfl⟩ := hA rfl
    have hb : body = [] := List.eq_nil_of_length_eq_zero h1
    subst hb
    refine (packO0 fn fl tn tl seq ack has W).mono ?_
    rintro e W' ⟨A2, c2, rfl, h2, -, h4⟩
    exact ⟨A2, c2, rfl, h2, h4⟩
  | some ad =>
    refine (packO fn fl tn tl seq ack has body ad c body.length W rfl hr hl).mono ?_
    rintro e W' ⟨A2, c2, rfl, h2, -, -, h4⟩
    exact ⟨A2, c2, rfl, h2, h4⟩

theorem tmod_bounds (x k : Int) : x.tmod k = if 0 ≤ x then x % k else -((-x) % k) := by
  split
  · exact Int.tmod_eq_emod_of_nonneg ‹_›
  · have h := Int.tmod_eq_emod_of_nonneg (a := -x) (b := k) (by omega)
    rw [Int.neg_tmod] at h
    omega

set_option maxRecDepth 100000 in
set_option maxHeartbeats 4000000 in
theorem walkSpoilt (fn fl tn tl seq ack : Nat) (has : Bool) (body : List UInt8) (A : Option Addr) (c : Nat) (at' : Int) (mask : Nat) (W : World) (hA : A = none → body.length = 0 ∧ c = 0) (hr : BytesAt W W.heap.size A body) (hl : body.length ≤ 140737488355328)
    (p1 : fn < 256) (p2 : fl < 65536) (p3 : tn < 256) (p4 : tl < 65536) (p5 : seq < 18446744073709551616) (p6 : ack < 18446744073709551616) (a0 : -9223372036854775808 ≤ at') (a1 : at' ≤ 9223372036854775807) (m1 : mask < 4294967296) (hT : TabAt W.heap.size W) (hW : WordAt W.heap.size W) :
    Calls Tryd.prog 4 #[.agg #[.int .u8 fn, .int .u16 fl, .int .u8 tn, .int .u16 tl, .int .u64 seq, .int .u64 ack, .bool has, .slice A body.length c], .int .i64 at', .int .u32 mask] W fun e W' => e = .returned (.bool true) ∧ Below W.heap.size W W' := by
  obtain ⟨W1, hW1⟩ : ∃ W1, W.alloc (.cells #[.int .u8 fn, .int .u16 fl, .int .u8 tn, .int .u16 tl, .int .u64 seq, .int .u64 ack, .bool has, .slice A body.length c] 62) = W1 := ⟨_, rfl⟩
  have b1 : Below W.heap.size W W1 := by rw [← hW1]; exact (Below.refl _ _).alloc (Nat.le_refl _) _
  have R1 : Hid (W1.heap[W.heap.size]? = some (.cells #[.int .u8 fn, .int .u16 fl, .int .u8 tn, .int .u16 tl, .int .u64 seq, .int .u64 ack, .bool has, .slice A body.length c] 62 (0, 0))) := Lib.hid (by rw [← hW1]; exact heap_alloc_new _ _)
  have L1 : W.heap.size < W1.heap.size := by rw [← hW1]; simp
  have K1 := Lib.hid (packI fn fl tn tl seq ack has body A c W1 hA (hr.below b1 (Nat.le_refl _) b1.size) hl)
  have B1 := Lib.hid b1
  have HT := Lib.hid hT
  have KK : Hid (∀ w, Below W.heap.size W w → Calls Tryd.prog 7 #[] w fun e w' => e = .returned (.bool true) ∧ Below w.heap.size w w') := Lib.hid (fun w hb => knows7 w ((hW.below hb (Nat.le_refl _)).up hb.size))
  have HF : Hid (Pk.fits ⟨fn, fl, tn, tl, seq, ack, has, body⟩) := Lib.hid ⟨p1, by show fl ≤ _; omega, p3, by show tl ≤ _; omega, by show seq ≤ _; omega, by show ack ≤ _; omega⟩
  obtain ⟨⟨x, er⟩, hF⟩ : ∃ q, Pk.frame ⟨fn, fl, tn, tl, seq, ack, has, body⟩ = q := ⟨_, rfl⟩
  have HFR := Lib.hid hF
  have HW1 := Lib.hid hW1
  have HM' := Lib.hid m1
  have HL := Lib.hid hl
  clear hA hr hl hT hW b1 hW1 p1 p2 p3 p4 p5 p6 m1 hF
  go_enter Tryd.func4, Tryd.ntmps4
  go_wp2_with fail
  rw [HW1.out]
  refine K1.out.mono ?_
  rintro e w2 ⟨A2, c2, rfl, at2, b2⟩
  have B2 := Lib.hid (B1.out.trans (b2.mono B1.out.size))
  have R2 := Lib.hid ((b2.block _ L1).trans R1.out)
  have L2 := Nat.lt_of_lt_of_le L1 b2.size
  have K2 := frameO ⟨fn, fl, tn, tl, seq, ack, has, body⟩ A2 c2 w2 HF.out at2 ((HT.out.below B2.out (Nat.le_refl _)).up B2.out.size)
  rw [HFR.out] at K2
  unfold pkV at K2
  simp only at K2
  have HK2 := Lib.hid K2
  clear K2 at2 b2 K1
  go_wp2_with fail
  refine HK2.out.mono ?_
  rintro e w3 ⟨v, rfl, ho, b3⟩
  obtain ⟨A3, c3, rfl, -, -, le3, mx3⟩ := bytes_of_own ho
  have B3 := Lib.hid (B2.out.trans (b3.mono B2.out.size))
  have r3 := (b3.block _ L2).trans R2.out
  have L3 := Nat.lt_of_lt_of_le L2 b3.size
  have c7 : w3.cell? ⟨W.heap.size, 7, none⟩ = some (.slice A body.length c) := (cell_of_row _ _ 7 _ _ _ r3).trans rfl
  have HO := Lib.hid ho
  have LE := Lib.hid (And.intro le3 mx3)
  have L2' := Lib.hid L2
  have KE := Lib.hid (KK.out w3 B3.out)
  clear HK2 ho b3 r3 le3 mx3 L1 L2
  by_cases h1 : 2000 < body.length
  · have h1' : (2000 : Int) < (body.length : Int) := by omega
    go_wp2_with fail
    refine KE.out.mono ?_
    rintro e w4 ⟨rfl, b4⟩
    have B4 := Lib.hid (B3.out.trans (b4.mono B3.out.size))
    clear b4
    go_wp2
    go_ret
    exact ⟨rfl, B4.out⟩
  have h1' : ¬ (2000 : Int) < (body.length : Int) := by omega
  by_cases h2 : er = 0
  rotate_left
  · have h2' : ¬ (er : Int) = 0 := by omega
    go_wp2_with (first
      | (go_at_call 17; refine (num7 _ _).mono ?_; rintro e2 w4 ⟨rfl, rfl⟩))
    refine KE.out.mono ?_
    rintro e w4 ⟨rfl, b4⟩
    have B4 := Lib.hid (B3.out.trans (b4.mono B3.out.size))
    clear b4
    go_wp2
    go_ret
    exact ⟨rfl, B4.out⟩
  subst h2
  by_cases h3 : mask = 0
  · subst h3
    go_wp2_with (first
      | (go_at_call 17; refine (num7 _ _).mono ?_; rintro e2 w4 ⟨rfl, rfl⟩))
    refine KE.out.mono ?_
    rintro e w4 ⟨rfl, b4⟩
    have B4 := Lib.hid (B3.out.trans (b4.mono B3.out.size))
    clear b4
    go_wp2
    go_ret
    exact ⟨rfl, B4.out⟩
  have h3' : ¬ (mask : Int) = 0 := by omega
  have HM := Lib.hid (And.intro h3 HM'.out)
  have hx4 : 4 ≤ x.length := by
    have h := HFR.out
    rw [frame_is] at h
    split at h
    · split at h
      · cases h
      · cases h
        rw [summed_length]
        omega
    · cases h
  go_wp2_with (first
    | (go_at_call 17; refine (num7 _ _).mono ?_; rintro e2 w4 ⟨rfl, rfl⟩))
  refine KE.out.mono ?_
  rintro e w4 ⟨rfl, b4⟩
  have B4 := Lib.hid (B3.out.trans (b4.mono B3.out.size))
  have O4 := Lib.hid (own_kept' HO.out b4)
  have L4 := Lib.hid b4.size
  clear b4 KE HO
  obtain ⟨g3, c3', hsl⟩ := ownsRow_pos O4.out (by omega)
  obtain ⟨rfl, -, rfl⟩ := Value.slice.inj hsl
  clear hsl
  obtain ⟨N, hN⟩ : ∃ N, x.length = N := ⟨_, rfl⟩
  rw [hN] at hx4 O4 LE ⊢
  have HN := Lib.hid hN
  have hb := HL.out
  have hNb : N ≤ 700000 := by
    have h := HFR.out
    rw [frame_is] at h
    split at h
    · split at h
      · cases h
      · rename_i h2
        cases h
        omega
    · cases h
  have A0 := Lib.hid (And.intro a0 a1)
  have hN3 : IntKind.i64.wrap ((N : Int) - 3) = (N : Int) - 3 := IntWalk.i64_in _ (by omega)
  have hne3 : ¬ ((N : Int) - 3 = 0) := by omega
  obtain ⟨r, hr⟩ : ∃ r, Int.tmod at' ((N : Int) - 3) = r := ⟨_, rfl⟩
  have hr0 : -((N : Int) - 3) < r ∧ r < (N : Int) - 3 := by
    rw [← hr, tmod_bounds]
    have hp : (0 : Int) < (N : Int) - 3 := by omega
    split
    · have h1 := Int.emod_nonneg at' (show (N : Int) - 3 ≠ 0 by omega)
      have h2 := Int.emod_lt_of_pos at' hp
      omega
    · have h1 := Int.emod_nonneg (-at') (show (N : Int) - 3 ≠ 0 by omega)
      have h2 := Int.emod_lt_of_pos (-at') hp
      omega
  have hw1 : IntKind.i64.wrap r = r := IntWalk.i64_in _ (by omega)
  have hw2 : IntKind.i64.wrap (r + (N : Int)) = r + (N : Int) := IntWalk.i64_in _ (by omega)
  have hw3 : IntKind.i64.wrap (r + (N : Int) - 3) = r + (N : Int) - 3 := IntWalk.i64_in _ (by omega)
  obtain ⟨i, hi, hi1⟩ : ∃ i : Nat, Int.tmod (r + (N : Int) - 3) ((N : Int) - 3) = (i : Int) ∧ i + 4 ≤ N := by
    have hp : (0 : Int) < (N : Int) - 3 := by omega
    have h1 := Int.emod_nonneg (r + (N : Int) - 3) (show (N : Int) - 3 ≠ 0 by omega)
    have h2 := Int.emod_lt_of_pos (r + (N : Int) - 3) hp
    refine ⟨((r + (N : Int) - 3) % ((N : Int) - 3)).toNat, ?_, by omega⟩
    rw [tmod_bounds, if_pos (by omega)]
    omega
  have hw4 : IntKind.i64.wrap (i : Int) = (i : Int) := IntWalk.i64_in _ (by omega)
  have hq1 : decide ((2000 : Int) < (body.length : Int)) = false := decide_eq_false (by omega)
  have hq2 : ((mask : Int) == 0) = false := by simpa using h3'
  have HI := Lib.hid hi1
  have HNB := Lib.hid hNb
  clear a0 a1 hN hb hNb hr0 hx4 hi1 h1 h3
  have HXC : Hid (∀ (k : Nat) (hk : k < 4) {w : World}, w.ownsRow w2.heap.size 5 1 (.slice (some ⟨g3, 0, none⟩) N c3) N (Lib.byteCells (xorAt x i (maskB mask) k)) → w.cell? ⟨g3, i + k, none⟩ = some (.int .u8 ((x.getD (i + k) 0).toNat : Nat))) := Lib.hid (fun k hk w h => by
    have hx := xorAt_next x i (maskB mask) k (by have := HN.out; have := HI.out; omega)
    have := h.cells (g := g3) rfl (i + k) (.int .u8 ((x.getD (i + k) 0).toNat : Nat)) (by rw [Lib.byteCells, List.getElem?_map, hx]; rfl)
    rwa [addr_add, Nat.zero_add] at this)
  have HSET : Hid (∀ (L : List UInt8) (t : Nat) (b : UInt8), Lib.byteCells (L.set t b) = (Lib.byteCells L).set t (.int .u8 (b.toNat : Nat))) := Lib.hid (fun L t b => by simp [Lib.byteCells, List.map_set])
  go_wp2_with fail
  go_loopw [9] (fun v wx => ∃ k : Nat, v = .int .i64 k ∧ k ≤ 4 ∧ Hid (wx.ownsRow w2.heap.size 5 1 (.slice (some ⟨g3, 0, none⟩) N c3) N (Lib.byteCells (xorAt x i (maskB mask) k))) ∧ Hid (Below W.heap.size W wx)) (fun v _ => 4 - (intOf v).toNat)
  case atStart => exact ⟨0, rfl, by omega, O4, B4⟩
  case round =>
    obtain ⟨k, rfl, hk, I, B⟩ := hrel
    rcases (show k = 0 ∨ k = 1 ∨ k = 2 ∨ k = 3 ∨ k = 4 by omega) with rfl | rfl | rfl | rfl | rfl
    · obtain ⟨q, hq⟩ : ∃ q, (x.getD (i + 0) 0).toNat = q := ⟨_, rfl⟩
      obtain ⟨z, hz⟩ : ∃ z, ((x.getD (i + 0) 0) ^^^ maskB mask 0).toNat = z := ⟨_, rfl⟩
      have hcell : wr.cell? ⟨g3, i, none⟩ = some (.int .u8 (q : Nat)) := by
        have h := HXC.out 0 (by omega) I.out
        rw [hq] at h
        exact h
      have HZ := Lib.hid hz
      have hfrz : wr.frozen? ⟨g3, i, none⟩ = false := I.out.frozenAt _
      have hb0 : (0 : Int) ≤ (i : Int) := by omega
      have hb1 : (i : Int) < (N : Int) := by have := HI.out; omega
      have hnk : ((i : Int)).toNat = i := by omega
      have hwk : IntKind.i64.wrap ((i : Int)) = (i : Int) := IntWalk.i64_in _ (by have := HI.out; have := HNB.out; omega)
      have hxo : bits BinOp.xor IntKind.u8 (q : Int) ((mask : Int) % 256) = ((z : Nat) : Int) := by
        rw [← hq, ← hz, show ((mask : Int) % 256) = (((maskB mask 0).toNat : Nat) : Int) by unfold maskB; rw [toNat_of (by have := HM.out.2; omega)]; have := HM.out.2; omega, u8_xor_nat _ _ (UInt8.toNat_lt _) (UInt8.toNat_lt _), UInt8.toNat_xor]
      have S5 := Lib.hid (I.out.stored (i) (.int .u8 ((z : Nat) : Int)))
      clear hq hz
      have hm0 : (0 : Int) ≤ (mask : Int) := by omega
      have hm1 : (mask : Int) < 4294967296 := by have := HM.out.2; omega
      go_wp2_with fail
      go_roundw
      case rel =>
        refine ⟨1, by rfl, by omega, Lib.hid ?_, Lib.hid (B.out.grown S5.out.2 B.out.size (fun j hj => by cases hj; exact Nat.le_trans (Nat.le_of_lt L2'.out) (I.out.lt _ rfl).1))⟩
        rw [xorAt, HSET.out, HZ.out]
        exact S5.out.1
      case measure => simp [intOf]
    · obtain ⟨q, hq⟩ : ∃ q, (x.getD (i + 1) 0).toNat = q := ⟨_, rfl⟩
      obtain ⟨z, hz⟩ : ∃ z, ((x.getD (i + 1) 0) ^^^ maskB mask 1).toNat = z := ⟨_, rfl⟩
      have hcell : wr.cell? ⟨g3, i + 1, none⟩ = some (.int .u8 (q : Nat)) := by
        have h := HXC.out 1 (by omega) I.out
        rw [hq] at h
        exact h
      have HZ := Lib.hid hz
      have hfrz : wr.frozen? ⟨g3, i + 1, none⟩ = false := I.out.frozenAt _
      have hb0 : (0 : Int) ≤ (i : Int) + 1 := by omega
      have hb1 : (i : Int) + 1 < (N : Int) := by have := HI.out; omega
      have hnk : ((i : Int) + 1).toNat = i + 1 := by omega
      have hwk : IntKind.i64.wrap ((i : Int) + 1) = (i : Int) + 1 := IntWalk.i64_in _ (by have := HI.out; have := HNB.out; omega)
      have hxo : bits BinOp.xor IntKind.u8 (q : Int) ((mask : Int) / 256 % 256) = ((z : Nat) : Int) := by
        rw [← hq, ← hz, show ((mask : Int) / 256 % 256) = (((maskB mask 1).toNat : Nat) : Int) by unfold maskB; rw [toNat_of (by have := HM.out.2; omega)]; have := HM.out.2; omega, u8_xor_nat _ _ (UInt8.toNat_lt _) (UInt8.toNat_lt _), UInt8.toNat_xor]
      have S5 := Lib.hid (I.out.stored (i + 1) (.int .u8 ((z : Nat) : Int)))
      clear hq hz
      have hm0 : (0 : Int) ≤ (mask : Int) := by omega
      have hm1 : (mask : Int) < 4294967296 := by have := HM.out.2; omega
      go_wp2_with fail
      go_roundw
      case rel =>
        refine ⟨2, by rfl, by omega, Lib.hid ?_, Lib.hid (B.out.grown S5.out.2 B.out.size (fun j hj => by cases hj; exact Nat.le_trans (Nat.le_of_lt L2'.out) (I.out.lt _ rfl).1))⟩
        rw [xorAt, HSET.out, HZ.out]
        exact S5.out.1
      case measure => simp [intOf]
    · obtain ⟨q, hq⟩ : ∃ q, (x.getD (i + 2) 0).toNat = q := ⟨_, rfl⟩
      obtain ⟨z, hz⟩ : ∃ z, ((x.getD (i + 2) 0) ^^^ maskB mask 2).toNat = z := ⟨_, rfl⟩
      have hcell : wr.cell? ⟨g3, i + 2, none⟩ = some (.int .u8 (q : Nat)) := by
        have h := HXC.out 2 (by omega) I.out
        rw [hq] at h
        exact h
      have HZ := Lib.hid hz
      have hfrz : wr.frozen? ⟨g3, i + 2, none⟩ = false := I.out.frozenAt _
      have hb0 : (0 : Int) ≤ (i : Int) + 2 := by omega
      have hb1 : (i : Int) + 2 < (N : Int) := by have := HI.out; omega
      have hnk : ((i : Int) + 2).toNat = i + 2 := by omega
      have hwk : IntKind.i64.wrap ((i : Int) + 2) = (i : Int) + 2 := IntWalk.i64_in _ (by have := HI.out; have := HNB.out; omega)
      have hxo : bits BinOp.xor IntKind.u8 (q : Int) ((mask : Int) / 65536 % 256) = ((z : Nat) : Int) := by
        rw [← hq, ← hz, show ((mask : Int) / 65536 % 256) = (((maskB mask 2).toNat : Nat) : Int) by unfold maskB; rw [toNat_of (by have := HM.out.2; omega)]; have := HM.out.2; omega, u8_xor_nat _ _ (UInt8.toNat_lt _) (UInt8.toNat_lt _), UInt8.toNat_xor]
      have S5 := Lib.hid (I.out.stored (i + 2) (.int .u8 ((z : Nat) : Int)))
      clear hq hz
      have hm0 : (0 : Int) ≤ (mask : Int) := by omega
      have hm1 : (mask : Int) < 4294967296 := by have := HM.out.2; omega
      go_wp2_with fail
      go_roundw
      case rel =>
        refine ⟨3, by rfl, by omega, Lib.hid ?_, Lib.hid (B.out.grown S5.out.2 B.out.size (fun j hj => by cases hj; exact Nat.le_trans (Nat.le_of_lt L2'.out) (I.out.lt _ rfl).1))⟩
        rw [xorAt, HSET.out, HZ.out]
        exact S5.out.1
      case measure => simp [intOf]
    · obtain ⟨q, hq⟩ : ∃ q, (x.getD (i + 3) 0).toNat = q := ⟨_, rfl⟩
      obtain ⟨z, hz⟩ : ∃ z, ((x.getD (i + 3) 0) ^^^ maskB mask 3).toNat = z := ⟨_, rfl⟩
      have hcell : wr.cell? ⟨g3, i + 3, none⟩ = some (.int .u8 (q : Nat)) := by
        have h := HXC.out 3 (by omega) I.out
        rw [hq] at h
        exact h
      have HZ := Lib.hid hz
      have hfrz : wr.frozen? ⟨g3, i + 3, none⟩ = false := I.out.frozenAt _
      have hb0 : (0 : Int) ≤ (i : Int) + 3 := by omega
      have hb1 : (i : Int) + 3 < (N : Int) := by have := HI.out; omega
      have hnk : ((i : Int) + 3).toNat = i + 3 := by omega
      have hwk : IntKind.i64.wrap ((i : Int) + 3) = (i : Int) + 3 := IntWalk.i64_in _ (by have := HI.out; have := HNB.out; omega)
      have hxo : bits BinOp.xor IntKind.u8 (q : Int) ((mask : Int) / 16777216) = ((z : Nat) : Int) := by
        rw [← hq, ← hz, show ((mask : Int) / 16777216) = (((maskB mask 3).toNat : Nat) : Int) by unfold maskB; rw [toNat_of (by have := HM.out.2; omega)]; have := HM.out.2; omega, u8_xor_nat _ _ (UInt8.toNat_lt _) (UInt8.toNat_lt _), UInt8.toNat_xor]
      have S5 := Lib.hid (I.out.stored (i + 3) (.int .u8 ((z : Nat) : Int)))
      clear hq hz
      have hm0 : (0 : Int) ≤ (mask : Int) := by omega
      have hm1 : (mask : Int) < 4294967296 := by have := HM.out.2; omega
      go_wp2_with fail
      go_roundw
      case rel =>
        refine ⟨4, by rfl, by omega, Lib.hid ?_, Lib.hid (B.out.grown S5.out.2 B.out.size (fun j hj => by cases hj; exact Nat.le_trans (Nat.le_of_lt L2'.out) (I.out.lt _ rfl).1))⟩
        rw [xorAt, HSET.out, HZ.out]
        exact S5.out.1
      case measure => simp [intOf]
    · obtain ⟨A9, c9, e9, -, hat, -, -⟩ := bytes_of_own (L := xorAt x i (maskB mask) 4) I.out
      obtain ⟨rfl, -, rfl⟩ := Value.slice.inj e9
      have hlen : (xorAt x i (maskB mask) 4).length = N := by rw [xorAt_length, HN.out]
      have hu := spoilt_refused (i := i) (mask := mask) HFR.out HM.out.1 HM.out.2 (by have := HN.out; have := HI.out; omega)
      have K9 := unframeO (some ⟨g3, 0, none⟩) (xorAt x i (maskB mask) 4) c3 wr hat (by rw [hlen]; have := HNB.out; omega) (by rw [hlen]; exact LE.out.1) LE.out.2 ((HT.out.below B.out (Nat.le_refl _)).up B.out.size)
      rw [hlen, hu] at K9
      unfold pkV at K9
      have HK9 := Lib.hid K9
      clear K9 hat hlen hu e9
      go_wp2_with fail
      refine HK9.out.mono ?_
      rintro e w9 ⟨B9, d9, rfl, -, b9⟩
      have B9' := Lib.hid (B.out.trans (b9.mono B.out.size))
      clear b9
      have e0 : Pk.zero.body.length = 0 := rfl
      have e1 : Pk.zero.has = false := rfl
      go_wp2_with (first
        | (go_at_call 17; refine (num7 _ _).mono ?_; rintro e2 w10 ⟨rfl, rfl⟩))
      go_ret
      refine ⟨rfl, ?_⟩
      exact B9'.out.alloc B9'.out.size _

end Go.Proofs.YtkmbgehknpefiaaDoor
