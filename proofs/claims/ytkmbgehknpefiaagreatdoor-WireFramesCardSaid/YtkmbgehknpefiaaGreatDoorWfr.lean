/-
  Frame: a packet as bytes, by exact answers. Condition: the body and the table of sums lie in memory.
-/
import Derived.Test.YtkmbgehknpefiaaGreatDoorWri
namespace Go.Proofs.YtkmbgehknpefiaaGreatDoor
set_option linter.unusedSimpArgs false
set_option linter.unusedVariables false
open Go.RowKit

theorem frame_is (p : Pk) : p.frame = if p.rightB then (if 524288 < (summed p.plain).length then ([], 5) else (summed p.plain, 0)) else ([], 1) := rfl
theorem frame_long (p : Pk) (h : p.rightB = true) (hl : 524288 < p.body.length) : p.frame = ([], 5) := by
  rw [frame_is, if_pos h, if_pos]
  cases hh : p.has with
  | true =>
    have := body_le p hh
    rw [summed_length]
    omega
  | false =>
    unfold Pk.rightB at h
    rw [hh] at h
    simp at h
    rw [h.2] at hl
    simp at hl
theorem writerNew (W W1 : World) (hb : Below W.heap.size W W1) : WrAt W.heap.size W1.heap.size [] (W1.alloc (.cells #[.slice none 0 0] 90)) :=
  ⟨hb.size, .slice none 0 0, Boxed.new W1 _ _, World.ownsRow_nil _ _ _ _⟩
theorem plain_le (p : Pk) (hp : p.fits) (hl : p.body.length ≤ 524288) : p.plain.length ≤ 600000 := by
  have l1 := putP_len p.fn p.fl hp.fl
  have l2 := putP_len p.tn p.tl hp.tl
  have l3 := putU_length p.seq (by have := hp.seq; omega)
  have l4 := putU_length p.ack (by have := hp.ack; omega)
  have l5 := putU_length p.body.length (by omega)
  unfold Pk.plain putT
  cases p.has with
  | true => simp only [if_true, List.length_append, List.length_cons]; omega
  | false => simp; omega

set_option maxRecDepth 100000 in
set_option maxHeartbeats 2000000 in
theorem frameO (p : Pk) (A : Option Addr) (c : Nat) (W : World) (hp : p.fits) (hr : BytesAt W W.heap.size A p.body) (hT : TabAt W.heap.size W) :
    Calls Tryz.prog 17 #[pkV p A c] W fun e W' => ∃ v, e = .returned (.tuple #[v, .int .i64 p.frame.2]) ∧ W'.ownsRow W.heap.size 5 1 v p.frame.1.length (Lib.byteCells p.frame.1) ∧ Below W.heap.size W W' := by
  have KR := Lib.hid (fun w => pkRight p A c w)
  have KP := Lib.hid (fun (w : World) (b : Nat) h1 h2 h3 h4 => putPacketO W.heap.size b [] p A c w h1 h2 hp h3 h4)
  have KL := Lib.hid (fun h1 h2 => frame_long p h1 h2)
  have KI := Lib.hid (frame_is p)
  have KN := Lib.hid (fun h => plain_le p hp h)
  have HR := Lib.hid hr
  have HT := Lib.hid hT
  obtain ⟨O, hO⟩ : ∃ O, W.alloc (.cells #[.int .u8 p.fn, .int .u16 p.fl, .int .u8 p.tn, .int .u16 p.tl, .int .u64 p.seq, .int .u64 p.ack, .bool p.has, .slice A p.body.length c] 76) = O := ⟨_, rfl⟩
  have B0 := Lib.hid (show Below W.heap.size W O by rw [← hO]; exact (Below.refl _ _).alloc (Nat.le_refl _) _)
  have R0 := Lib.hid (show O.heap[W.heap.size]? = some (.cells #[.int .u8 p.fn, .int .u16 p.fl, .int .u8 p.tn, .int .u16 p.tl, .int .u64 p.seq, .int .u64 p.ack, .bool p.has, .slice A p.body.length c] 76 (0, 0)) by rw [← hO]; exact heap_alloc_new W _)
  have S0 := Lib.hid (show W.heap.size < O.heap.size by rw [← hO]; simp)
  have HO := Lib.hid hO
  clear hO hr hT
  unfold pkV at KR KP ⊢
  by_cases hb : p.rightB = true
  · by_cases hlong : 524288 < p.body.length
    · have hF := KL.out hb hlong
      have hlong' : (524288 : Int) < (p.body.length : Int) := by omega
      rw [hF]
      rw [hb] at KR
      go_enter Tryz.func17, Tryz.ntmps17
      go_wp2_with fail
      rw [HO.out]
      refine (KR.out _).mono ?_
      rintro e w1 ⟨rfl, b1⟩
      have r1 := (b1.block _ S0.out).trans R0.out
      have B1 := Lib.hid (B0.out.trans (b1.mono B0.out.size))
      have c7 : w1.cell? ⟨W.heap.size, 7, none⟩ = some (.slice A p.body.length c) := (cell_of_row _ _ 7 _ _ _ r1).trans rfl
      clear b1 r1
      go_wp2
      go_ret2
      exact ⟨_, rfl, World.ownsRow_nil _ _ _ _, B1.out⟩
    · have hlong' : ¬ (524288 : Int) < (p.body.length : Int) := by omega
      have hF := KI.out
      rw [if_pos hb] at hF
      rw [hF]
      rw [hb] at KR
      have hpl := KN.out (by omega)
      have hsl := summed_length p.plain
      obtain ⟨S, hS⟩ : ∃ S, summed p.plain = S := ⟨_, rfl⟩
      rw [hS]
      rw [hS] at hsl
      have HS := Lib.hid hS
      have HSL := Lib.hid hsl
      clear hS hsl
      obtain ⟨F, hFF⟩ : ∃ F, (if 524288 < (S).length then (([] : List UInt8), 5) else (S, 0)) = F := ⟨_, rfl⟩
      rw [hFF]
      have HFF := Lib.hid hFF
      clear hF KI KL KN hFF
      go_enter Tryz.func17, Tryz.ntmps17
      go_wp2_with fail
      rw [HO.out]
      refine (KR.out _).mono ?_
      rintro e w1 ⟨rfl, b1⟩
      have r1 := (b1.block _ S0.out).trans R0.out
      have B1 := Lib.hid (B0.out.trans (b1.mono B0.out.size))
      have S1 := Lib.hid (Nat.lt_of_lt_of_le S0.out b1.size)
      have c7 : w1.cell? ⟨W.heap.size, 7, none⟩ = some (.slice A p.body.length c) := (cell_of_row _ _ 7 _ _ _ r1).trans rfl
      have r1a := (Below.heap_alloc w1 (.cells #[.slice none 0 0] 90) W.heap.size S1.out).trans r1
      have d0 : (w1.alloc (.cells #[.slice none 0 0] 90)).cell? ⟨W.heap.size, 0, none⟩ = some (.int .u8 p.fn) := (cell_of_row _ _ 0 _ _ _ r1a).trans rfl
      have d1 : (w1.alloc (.cells #[.slice none 0 0] 90)).cell? ⟨W.heap.size, 1, none⟩ = some (.int .u16 p.fl) := (cell_of_row _ _ 1 _ _ _ r1a).trans rfl
      have d2 : (w1.alloc (.cells #[.slice none 0 0] 90)).cell? ⟨W.heap.size, 2, none⟩ = some (.int .u8 p.tn) := (cell_of_row _ _ 2 _ _ _ r1a).trans rfl
      have d3 : (w1.alloc (.cells #[.slice none 0 0] 90)).cell? ⟨W.heap.size, 3, none⟩ = some (.int .u16 p.tl) := (cell_of_row _ _ 3 _ _ _ r1a).trans rfl
      have d4 : (w1.alloc (.cells #[.slice none 0 0] 90)).cell? ⟨W.heap.size, 4, none⟩ = some (.int .u64 p.seq) := (cell_of_row _ _ 4 _ _ _ r1a).trans rfl
      have d5 : (w1.alloc (.cells #[.slice none 0 0] 90)).cell? ⟨W.heap.size, 5, none⟩ = some (.int .u64 p.ack) := (cell_of_row _ _ 5 _ _ _ r1a).trans rfl
      have d6 : (w1.alloc (.cells #[.slice none 0 0] 90)).cell? ⟨W.heap.size, 6, none⟩ = some (.bool p.has) := (cell_of_row _ _ 6 _ _ _ r1a).trans rfl
      have d7 : (w1.alloc (.cells #[.slice none 0 0] 90)).cell? ⟨W.heap.size, 7, none⟩ = some (.slice A p.body.length c) := (cell_of_row _ _ 7 _ _ _ r1a).trans rfl
      have K2 := Lib.hid (KP.out (w1.alloc (.cells #[.slice none 0 0] 90)) w1.heap.size (writerNew W w1 B1.out) (B1.out.alloc B1.out.size _).size (HR.out.below (B1.out.alloc B1.out.size _) (Nat.le_refl _) (Nat.le_refl _)) (by simp; omega))
      have B1a := Lib.hid (B1.out.alloc B1.out.size (.cells #[.slice none 0 0] 90))
      clear b1 r1 r1a
      go_wp2_with fail
      refine K2.out.mono ?_
      rintro e w2 ⟨rfl, h2, b2, -⟩
      rw [List.nil_append] at h2
      have B2 := Lib.hid (B1a.out.trans b2)
      have K3 := Lib.hid (putSumO W.heap.size w1.heap.size p.plain w2 h2 B2.out.size (by omega) (HT.out.below B2.out (Nat.le_refl _)))
      clear h2 b2 d0 d1 d2 d3 d4 d5 d6 d7 c7
      go_wp2_with fail
      refine K3.out.mono ?_
      rintro e w3 ⟨rfl, h3, b3, -⟩
      have B3 := Lib.hid (B2.out.trans b3)
      rw [HS.out] at h3
      have hsl := HSL.out
      have K4 := Lib.hid (wY W.heap.size w1.heap.size (S) w3 h3 B3.out.size (by omega))
      clear h3 b3
      go_wp2_with fail
      refine K4.out.mono ?_
      rintro e w4 ⟨v, rfl, ho, b4⟩
      obtain ⟨A4, c4, rfl, -, hat, hc1, hc2⟩ := bytes_of_own ho
      have HO4 := Lib.hid ho
      have B4 := Lib.hid (B3.out.trans (b4.mono B3.out.size))
      have hu := Lib.hid B3.out.size
      clear ho b4 hat hsl hpl
      by_cases hq : 524288 < (S).length
      · have hq' : (524288 : Int) < ((S).length : Int) := by omega
        obtain rfl : ([], 5) = F := by rw [← HFF.out, if_pos hq]
        go_wp2
        go_ret2
        exact ⟨_, rfl, World.ownsRow_nil _ _ _ _, B4.out⟩
      · have hq' : ¬ (524288 : Int) < ((S).length : Int) := by omega
        obtain rfl : (S, 0) = F := by rw [← HFF.out, if_neg hq]
        go_wp2
        go_ret2
        exact ⟨_, rfl, own_up HO4.out hu.out, B4.out⟩
  · have hb' : p.rightB = false := by simpa using hb
    have hF := KI.out
    rw [if_neg hb] at hF
    rw [hF]
    rw [hb'] at KR
    clear KI KL KN
    go_enter Tryz.func17, Tryz.ntmps17
    go_wp2_with fail
    rw [HO.out]
    refine (KR.out _).mono ?_
    rintro e w1 ⟨rfl, b1⟩
    have B1 := Lib.hid (B0.out.trans (b1.mono B0.out.size))
    clear b1
    go_wp2
    go_ret2
    exact ⟨_, rfl, World.ownsRow_nil _ _ _ _, B1.out⟩

end Go.Proofs.YtkmbgehknpefiaaGreatDoor
