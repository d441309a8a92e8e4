/-
  Which packets may be; the sum put behind what was written: by exact answers. Condition: Writer and table lie in memory.
-/
import Derived.Test.YtkmbgehknpefiaaGreatDoorWpu
namespace Go.Proofs.YtkmbgehknpefiaaGreatDoor
set_option linter.unusedSimpArgs false
set_option linter.unusedVariables false
open Go.RowKit

set_option maxHeartbeats 400000 in
theorem procRight (n l : Nat) (w : World) :
    Calls Tryz.prog 125 #[.agg #[.int .u8 n, .int .u16 l]] w fun e w' => e = .returned (.bool (rp n l)) ∧ Below w.heap.size w w' := by
  by_cases h1 : n < 16
  · have h1' : (n : Int) < 16 := by omega
    by_cases h2 : 1 ≤ l
    · have h2' : (0 : Int) < (l : Int) := by omega
      go_enter Tryz.func125, Tryz.ntmps125
      go_wp2
      go_ret
      exact ⟨by simp [rp, h1, h2]; omega, (Below.refl _ _).alloc (Nat.le_refl _) _⟩
    · have h2' : ¬ (0 : Int) < (l : Int) := by omega
      go_enter Tryz.func125, Tryz.ntmps125
      go_wp2
      go_ret
      exact ⟨by simp [rp, h1, h2]; omega, (Below.refl _ _).alloc (Nat.le_refl _) _⟩
  · have h1' : ¬ (n : Int) < 16 := by omega
    go_enter Tryz.func125, Tryz.ntmps125
    go_wp2
    go_ret
    exact ⟨by simp [rp, h1], (Below.refl _ _).alloc (Nat.le_refl _) _⟩

/-- may there be such a packet? -/
def Pk.rightB (p : Pk) : Bool := rp p.fn p.fl && rp p.tn p.tl && (p.has || p.body.isEmpty)

set_option maxRecDepth 100000 in
set_option maxHeartbeats 1000000 in
theorem pkRight (p : Pk) (A : Option Addr) (c : Nat) (W : World) :
    Calls Tryz.prog 61 #[pkV p A c] W fun e W' => e = .returned (.bool p.rightB) ∧ Below W.heap.size W W' := by
  obtain ⟨fn, fl, tn, tl, seq, ack, has, body⟩ := p
  unfold pkV Pk.rightB
  simp only
  obtain ⟨O, hO⟩ : ∃ O, W.alloc (.cells #[.int .u8 fn, .int .u16 fl, .int .u8 tn, .int .u16 tl, .int .u64 seq, .int .u64 ack, .bool has, .slice A body.length c] 76) = O := ⟨_, rfl⟩
  have K1 := procRight fn fl O
  have K2 := fun w => procRight tn tl w
  have B0 := Lib.hid (show Below W.heap.size W O by rw [← hO]; exact (Below.refl _ _).alloc (Nat.le_refl _) _)
  have R0 := Lib.hid (show O.heap[W.heap.size]? = some (.cells #[.int .u8 fn, .int .u16 fl, .int .u8 tn, .int .u16 tl, .int .u64 seq, .int .u64 ack, .bool has, .slice A body.length c] 76 (0, 0)) by rw [← hO]; exact heap_alloc_new W _)
  have S0 := Lib.hid (show W.heap.size < O.heap.size by rw [← hO]; simp)
  have HO := Lib.hid hO
  have HK1 := Lib.hid K1
  have HK2 := Lib.hid K2
  clear K1 K2 hO
  generalize rp fn fl = b1 at *
  generalize rp tn tl = b2 at *
  cases b1 with
  | false =>
    go_enter Tryz.func61, Tryz.ntmps61
    go_wp2_with fail
    rw [HO.out]
    refine HK1.out.mono ?_
    rintro e w1 ⟨rfl, b1⟩
    have B1 := Lib.hid (B0.out.trans (b1.mono B0.out.size))
    clear b1
    go_wp2
    go_ret
    exact ⟨by simp, B1.out⟩
  | true =>
    go_enter Tryz.func61, Tryz.ntmps61
    go_wp2_with fail
    rw [HO.out]
    refine HK1.out.mono ?_
    rintro e w1 ⟨rfl, b1⟩
    have B1 := Lib.hid (B0.out.trans (b1.mono B0.out.size))
    have r1 := (b1.block _ S0.out).trans R0.out
    have S1 := Lib.hid (Nat.lt_of_lt_of_le S0.out b1.size)
    have R1 := Lib.hid r1
    have c2 : w1.cell? ⟨W.heap.size, 2, none⟩ = some (.int .u8 tn) := (cell_of_row _ _ 2 _ _ _ r1).trans rfl
    have c3 : w1.cell? ⟨W.heap.size, 3, none⟩ = some (.int .u16 tl) := (cell_of_row _ _ 3 _ _ _ r1).trans rfl
    clear b1 r1
    cases b2 with
    | false =>
      go_wp2_with fail
      refine (HK2.out _).mono ?_
      rintro e w2 ⟨rfl, b2⟩
      have B2 := Lib.hid (B1.out.trans (b2.mono B1.out.size))
      clear b2
      go_wp2
      go_ret
      exact ⟨by simp, B2.out⟩
    | true =>
      go_wp2_with fail
      refine (HK2.out _).mono ?_
      rintro e w2 ⟨rfl, b2⟩
      have B2 := Lib.hid (B1.out.trans (b2.mono B1.out.size))
      have r2 := (b2.block _ S1.out).trans R1.out
      have c6 : w2.cell? ⟨W.heap.size, 6, none⟩ = some (.bool has) := (cell_of_row _ _ 6 _ _ _ r2).trans rfl
      have c7 : w2.cell? ⟨W.heap.size, 7, none⟩ = some (.slice A body.length c) := (cell_of_row _ _ 7 _ _ _ r2).trans rfl
      clear b2 r2
      cases has with
      | true =>
        go_wp2
        go_ret
        exact ⟨by simp, B2.out⟩
      | false =>
        cases body with
        | nil =>
          go_wp2
          go_ret
          exact ⟨by simp, B2.out⟩
        | cons x body =>
          have hne : ¬ ((body.length : Int) + 1 = 0) := by omega
          go_wp2
          go_ret
          exact ⟨by simp; exact hne, B2.out⟩

set_option maxRecDepth 100000 in
set_option maxHeartbeats 1000000 in
theorem putSumO (base b : Nat) (L : List UInt8) (W : World) (h : WrAt base b L W) (hB : base ≤ W.heap.size) (hl : L.length + 4 ≤ 140737488355328) (hT : TabAt base W) :
    Calls Tryz.prog 63 #[.pointer (some ⟨b, 0, none⟩)] W fun e W' => e = .returned (.tuple #[]) ∧ WrAt base b (summed L) W' ∧ Below base W W' ∧ KeepW b W W' := by
  have K1 := Lib.hid (wY base b L W h hB (by omega))
  have H := Lib.hid h
  have HT := Lib.hid hT
  clear h hT
  go_enter Tryz.func63, Tryz.ntmps63
  go_wp2_with fail
  refine K1.out.mono ?_
  rintro e w1 ⟨v, rfl, ho, b1⟩
  obtain ⟨A, c, rfl, -, hat, hc1, hc2⟩ := bytes_of_own ho
  have K2 := Lib.hid (sumO A L c w1 hat (by omega) (HT.out.below b1 hB).2)
  have H1 := Lib.hid (H.out.below b1)
  have B1 := Lib.hid (b1.mono hB)
  have Q1 := Lib.hid (KeepW.below (b := b) b1)
  clear ho hat b1
  go_wp2_with fail
  refine K2.out.mono ?_
  rintro e w2 ⟨rfl, rfl⟩
  have hs := Crc.sumN_lt L
  have HS := Lib.hid (fun (i : Nat) (x : UInt8) w => sumByteO (Crc.sumN L) i x w hs)
  clear hs
  go_wp2
  go_loopw [7] (fun x wx => ∃ k : Nat, x = .int .i64 k ∧ k ≤ 4 ∧ Hid (WrAt base b (L ++ (be4 (Crc.sumN L)).take k) wx) ∧ Hid (Below base W wx) ∧ Hid (KeepW b W wx)) (fun x _ => 4 - (intOf x).toNat)
  case atStart => exact ⟨0, rfl, by omega, Lib.hid (by rw [List.take_zero, List.append_nil]; exact H1.out), B1, Q1⟩
  case round =>
    obtain ⟨k, rfl, hk, I, B, Q⟩ := hrel
    by_cases hk4 : k < 4
    · have hk4' : (k : Int) < 4 := by omega
      obtain ⟨x, hx⟩ : ∃ x, (be4 (Crc.sumN L))[k]? = some x := ⟨_, List.getElem?_eq_getElem (by rw [be4_length]; exact hk4)⟩
      have hlk : ((be4 (Crc.sumN L)).take k).length = k := by rw [List.length_take, be4_length]; omega
      have K3 := Lib.hid (HS.out k x wr hx)
      have K4 := Lib.hid (wB base b _ x.toNat wr I.out (Nat.le_trans hB B.out.size) (by rw [List.length_append, hlk]; omega) (by omega) (by have := x.toNat_lt; omega))
      have HX : Hid ((L ++ (be4 (Crc.sumN L)).take k) ++ [UInt8.ofNat ((x.toNat : Nat) : Int).toNat] = L ++ (be4 (Crc.sumN L)).take (k + 1)) := Lib.hid (by
        rw [List.take_add_one, hx, List.append_assoc]
        congr 2
        simp)
      go_wp2_with fail
      refine K3.out.mono ?_
      rintro e w3 ⟨rfl, rfl⟩
      go_wp2_with fail
      refine K4.out.mono ?_
      rintro e w4 ⟨rfl, h4, b4, q4⟩
      rw [HX.out] at h4
      have I4 := Lib.hid h4
      have B4 := Lib.hid (B.out.trans b4)
      have Q4 := Lib.hid (Q.out.trans q4)
      clear h4 b4 q4
      go_wp2
      go_roundw
      case rel => exact ⟨k + 1, by go_num, by omega, I4, B4, Q4⟩
      case measure => simp [intOf]; omega
    · have hk4' : ¬ (k : Int) < 4 := by omega
      obtain rfl : k = 4 := by omega
      go_wp2
      go_end0
      exact ⟨rfl, I.out, B.out, Q.out⟩

end Go.Proofs.YtkmbgehknpefiaaGreatDoor
