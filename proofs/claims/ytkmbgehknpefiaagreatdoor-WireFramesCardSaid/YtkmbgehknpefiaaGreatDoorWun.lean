/-
  A packet read off a Reader: by exact answers. Condition: the Reader lies in memory.
-/
import Derived.Test.YtkmbgehknpefiaaGreatDoorWfr
import Derived.Test.YtkmbgehknpefiaaGreatDoorWsm
import Derived.Lib.ConvBytes
import Derived.Laws.Rows
import Derived.Laws.Tables
import Derived.Laws.CopyOwn
import Derived.Laws.Rows
import Derived.Laws.Tables
import Derived.Laws.CopyOwn
import Derived.Laws.Rows
import Derived.Laws.Tables
import Derived.Laws.CopyOwn
namespace Go.Proofs.YtkmbgehknpefiaaGreatDoor
set_option linter.unusedSimpArgs false
set_option linter.unusedVariables false
open Go.RowKit

/-- a truth that is read. -/
def RS.has (s : RS) : Bool × RS := (decide (s.b.1 = 1), if 1 < s.b.1 then s.b.2.fail 6 else s.b.2)

set_option maxRecDepth 100000 in
set_option maxHeartbeats 1000000 in
theorem getHasO (top b : Nat) (s : RS) (W : World) (h : RdAt top b W s) :
    Calls Tryz.prog 106 #[.pointer (some ⟨b, 0, none⟩)] W fun e W' => e = .returned (.bool s.has.1) ∧ RdAt top b W' s.has.2 ∧ W.grownBy W' (some b) := by
  have K := Lib.hid (rB top b s W h)
  clear h
  unfold RS.has
  obtain ⟨⟨n, s1⟩, hs1⟩ : ∃ q, s.b = q := ⟨_, rfl⟩
  rw [hs1] at K ⊢
  clear hs1
  simp only at K ⊢
  by_cases h1 : 1 < n
  · have h1' : (1 : Int) < (n : Int) := by omega
    have h2' : ¬ (n : Int) = 1 := by omega
    rw [if_pos h1]
    go_enter Tryz.func106, Tryz.ntmps106
    go_wp2_with fail
    refine K.out.mono ?_
    rintro e w1 ⟨rfl, H, hg⟩
    have K2 := Lib.hid (failO top b 6 s1 w1 H)
    clear H
    go_wp2_with fail
    refine K2.out.mono ?_
    rintro e w2 ⟨rfl, H, hg2⟩
    go_wp2
    go_ret
    refine ⟨?_, H, grownTrans hg hg2⟩
    rw [show decide (n = 1) = false from decide_eq_false (by omega)]
    simp [h2']
  · have h1' : ¬ (1 : Int) < (n : Int) := by omega
    rw [if_neg h1]
    go_enter Tryz.func106, Tryz.ntmps106
    go_wp2_with fail
    refine K.out.mono ?_
    rintro e w1 ⟨rfl, H, hg⟩
    go_wp2
    go_ret
    refine ⟨?_, H, hg⟩
    by_cases h2 : n = 1
    · subst h2; rfl
    · rw [decide_eq_false h2]
      have h2' : ¬ (n : Int) = 1 := by omega
      simp [h2']

/-- a text as bytes in memory. -/
theorem conv_text (w : World) (T : List UInt8) : ∃ c W', Sem.run Tryz.prog (convert 9 41 (.string ⟨T.toArray⟩)) w = .ok (.slice (some ⟨w.heap.size, 0, none⟩) T.length c) W' ∧ Below w.heap.size w W' ∧ W'.heap.size = w.heap.size + 1 ∧ (∀ j x, T[j]? = some x → W'.cell? ⟨w.heap.size, j, none⟩ = some (.int .u8 x.toNat)) ∧ (∀ row, w.grownBy W' row) := by
  have h := Lib.run_convert_string_bytes (P := Tryz.prog) w 9 41 5 ⟨T.toArray⟩ Tryz.underlying9 Tryz.underlying41 Tryz.underlying5
  have hs : (ByteArray.mk T.toArray).size = T.length := by simp [ByteArray.size]
  rw [hs] at h
  refine ⟨_, _, h, ⟨rfl, rfl, rfl, ?_, fun k hk => Lib.bytesWorld_at_old w _ _ k hk⟩, Lib.bytesWorld_size w _ _, fun j x hx => ?_, fun row => ⟨rfl, rfl, rfl, ?_, fun k hk _ => Lib.bytesWorld_at_old w _ _ k hk⟩⟩
  · rw [Lib.bytesWorld_size]; omega
  · have hj := (List.getElem?_eq_some_iff.1 hx).1
    rw [Lib.bytesWorld_cell w _ _ j (by rw [hs]; exact hj)]
    have : (ByteArray.mk T.toArray).data.toList = T := by simp
    rw [this, List.getD_eq_getElem?_getD, hx]
    rfl
  · rw [Lib.bytesWorld_size]; omega
theorem cell_setNe (w : World) (k i g o : Nat) (v : Value) (h : g ≠ k) : (w.setCell ⟨k, i, none⟩ v).cell? ⟨g, o, none⟩ = w.cell? ⟨g, o, none⟩ :=
  World.cell?_of_block (a := ⟨g, o, none⟩) (Below.heap_setCell w ⟨k, i, none⟩ v g h)

theorem grownSetRow {W W1 : World} {row : Option Nat} (h : W.grownBy W1 row) {k : Nat} (hk : W.heap.size ≤ k) (cs : Array Value) : W.grownBy (W1.setRow k cs) row :=
  ⟨h.os, h.tape, h.output, by simpa using h.size, fun j hj hn => (setRow_other _ _ _ _ (by omega)).trans (h.block j hj hn)⟩

/-- what the program reads of a packet. -/
def gotP (d : RS) : Pk × RS :=
  let a := d.proc
  let b := a.2.proc
  let c := b.2.u 18446744073709551615
  let e := c.2.u 18446744073709551615
  let h := e.2.has
  let t := if h.1 then h.2.text 524288 else ([], h.2)
  (⟨if a.2.E = 0 then a.1.1 else 0, if a.2.E = 0 then a.1.2 else 0, if b.2.E = 0 then b.1.1 else 0, if b.2.E = 0 then b.1.2 else 0, c.1, e.1, h.1, t.1⟩, t.2)

set_option maxRecDepth 100000 in
set_option maxHeartbeats 1000000 in
theorem getPacketO (top b : Nat) (s : RS) (W : World) (h : RdAt top b W s) :
    Calls Tryz.prog 71 #[.pointer (some ⟨b, 0, none⟩)] W fun e W' => ∃ A c, e = .returned (pkV (gotP s).1 A c) ∧ (∀ g o, A = some ⟨g, o, none⟩ → W.heap.size ≤ g) ∧ BytesAt W' W'.heap.size A (gotP s).1.body ∧ RdAt top b W' (gotP s).2 ∧ W.grownBy W' (some b) := by
  unfold gotP
  obtain ⟨⟨⟨fn, fl⟩, s1⟩, e1⟩ : ∃ q, s.proc = q := ⟨_, rfl⟩
  obtain ⟨⟨⟨tn, tl⟩, s2⟩, e2⟩ : ∃ q, s1.proc = q := ⟨_, rfl⟩
  obtain ⟨⟨seq, s3⟩, e3⟩ : ∃ q, s2.u 18446744073709551615 = q := ⟨_, rfl⟩
  obtain ⟨⟨ack, s4⟩, e4⟩ : ∃ q, s3.u 18446744073709551615 = q := ⟨_, rfl⟩
  obtain ⟨⟨has, s5⟩, e5⟩ : ∃ q, s4.has = q := ⟨_, rfl⟩
  obtain ⟨⟨body, s6⟩, e6⟩ : ∃ q, (if has then s5.text 524288 else ([], s5)) = q := ⟨_, rfl⟩
  have K1 := fun w h => getProcO top b s w h
  have K2 := Lib.hid (fun w h => getProcO top b s1 w h)
  have K3 := Lib.hid (fun w h => rU top b 18446744073709551615 s2 w h (by decide))
  have K4 := Lib.hid (fun w h => rU top b 18446744073709551615 s3 w h (by decide))
  have K5 := Lib.hid (fun w h => getHasO top b s4 w h)
  simp only [e1, e2, e3, e4, e5, e6] at K1 K2 K3 K4 K5 ⊢
  have Z0 : RdAt top b (W.alloc (.cells #[.int .u8 0, .int .u16 0, .int .u8 0, .int .u16 0, .int .u64 0, .int .u64 0, .bool false, .slice none 0 0] 76)) s := h.alloc _
  have HK1 := Lib.hid (K1 _ Z0)
  have G0 := Lib.hid (World.grownBy_alloc W (.cells #[.int .u8 0, .int .u16 0, .int .u8 0, .int .u16 0, .int .u64 0, .int .u64 0, .bool false, .slice none 0 0] 76) (some b))
  have R0 := Lib.hid (heap_alloc_new W (.cells #[.int .u8 0, .int .u16 0, .int .u8 0, .int .u16 0, .int .u64 0, .int .u64 0, .bool false, .slice none 0 0] 76))
  have hbW : b < W.heap.size := Nat.lt_of_lt_of_le h.lt h.fits
  have hTop := Lib.hid h.fits
  generalize (if s1.E = 0 then fn else 0) = vfn at *
  generalize (if s1.E = 0 then fl else 0) = vfl at *
  generalize (if s2.E = 0 then tn else 0) = vtn at *
  generalize (if s2.E = 0 then tl else 0) = vtl at *
  clear h K1 Z0 e1 e2 e3 e4 e5
  have HE := Lib.hid e6
  clear e6
  go_enter Tryz.func71, Tryz.ntmps71
  go_wp2_with fail
  refine HK1.out.mono ?_
  rintro e w1 ⟨rfl, h1, g1⟩
  have HK2 := Lib.hid (K2.out w1 h1)
  have L1 : W.heap.size < w1.heap.size := by have := g1.size; simp at this; omega
  have R1 := Lib.hid ((g1.block W.heap.size (by simp) (by simp; omega)).trans R0.out)
  have G1 := Lib.hid (grownTrans G0.out g1)
  clear h1 g1 R0 G0 HK1 K2
  go_wp2_with fail
  refine HK2.out.mono ?_
  rintro e w2 ⟨rfl, h2, g2⟩
  have HK3 := Lib.hid (K3.out w2 h2)
  have L2 : W.heap.size < w2.heap.size := Nat.lt_of_lt_of_le L1 g2.size
  have R2 := Lib.hid ((g2.block W.heap.size L1 (by simp; omega)).trans R1.out)
  have G2 := Lib.hid (grownTrans G1.out g2)
  clear h2 g2 R1 G1 L1 HK2 K3
  go_wp2_with fail
  refine HK3.out.mono ?_
  rintro e w3 ⟨rfl, h3, g3⟩
  have HK4 := Lib.hid (K4.out w3 h3)
  have L3 : W.heap.size < w3.heap.size := Nat.lt_of_lt_of_le L2 g3.size
  have R3 := Lib.hid ((g3.block W.heap.size L2 (by simp; omega)).trans R2.out)
  have G3 := Lib.hid (grownTrans G2.out g3)
  clear h3 g3 R2 G2 L2 HK3 K4
  go_wp2_with fail
  refine HK4.out.mono ?_
  rintro e w4 ⟨rfl, h4, g4⟩
  have HK5 := Lib.hid (K5.out w4 h4)
  have L4 : W.heap.size < w4.heap.size := Nat.lt_of_lt_of_le L3 g4.size
  have R4 := Lib.hid ((g4.block W.heap.size L3 (by simp; omega)).trans R3.out)
  have G4 := Lib.hid (grownTrans G3.out g4)
  clear h4 g4 R3 G3 L3 HK4 K5
  go_wp2_with fail
  refine HK5.out.mono ?_
  rintro e w5 ⟨rfl, h5, g5⟩
  have L5 : W.heap.size < w5.heap.size := Nat.lt_of_lt_of_le L4 g5.size
  have R5 := Lib.hid ((g5.block W.heap.size L4 (by simp; omega)).trans R4.out)
  have G5 := Lib.hid (grownTrans G4.out g5)
  have H5 := Lib.hid h5
  clear h5 g5 R4 G4 L4 HK5
  cases has with
  | false =>
    obtain ⟨rfl, rfl⟩ : [] = body ∧ s5 = s6 := Prod.mk.inj HE.out
    have T5 : top ≤ w5.heap.size := Nat.le_trans hTop.out (Nat.le_of_lt L5)
    have RL := Lib.hid (heap_alloc_new w5 (.cells #[.int .u8 vfn, .int .u16 vfl, .int .u8 vtn, .int .u16 vtl, .int .u64 seq, .int .u64 ack, .bool false, .slice none 0 0] 76))
    have R5a := Lib.hid ((Below.heap_alloc w5 (.cells #[.int .u8 vfn, .int .u16 vfl, .int .u8 vtn, .int .u16 vtl, .int .u64 seq, .int .u64 ack, .bool false, .slice none 0 0] 76) W.heap.size L5).trans R5.out)
    have G5a := Lib.hid (grownTrans G5.out (World.grownBy_alloc w5 (.cells #[.int .u8 vfn, .int .u16 vfl, .int .u8 vtn, .int .u16 vtl, .int .u64 seq, .int .u64 ack, .bool false, .slice none 0 0] 76) (some b)))
    have H5a := Lib.hid (H5.out.below ((Below.refl top w5).alloc T5 (.cells #[.int .u8 vfn, .int .u16 vfl, .int .u8 vtn, .int .u16 vtl, .int .u64 seq, .int .u64 ack, .bool false, .slice none 0 0] 76)))
    go_wp2_with (first
      | (refine wpList_load_row rfl 76 (.tmp 3) rfl w5.heap.size (by rfl) 76 #[.int .u8 vfn, .int .u16 vfl, .int .u8 vtn, .int .u16 vtl, .int .u64 seq, .int .u64 ack, .bool false, .slice none 0 0] (0, 0) _ RL.out Tryz.underlying76 rfl (by kernel_rfl) ?_)
      | (refine wpList_store_row rfl 76 (.tmp 2) (.tmp 21) rfl W.heap.size #[.int .u8 vfn, .int .u16 vfl, .int .u8 vtn, .int .u16 vtl, .int .u64 seq, .int .u64 ack, .bool false, .slice none 0 0] (by rfl) (by rfl) 76 #[.int .u8 0, .int .u16 0, .int .u8 0, .int .u16 0, .int .u64 0, .int .u64 0, .bool false, .slice none 0 0] R5a.out (by kernel_rfl) rfl (by simp [Value.oneCell']) ?_
         have ER := Lib.hid (setRow_heap (w5.alloc (.cells #[.int .u8 vfn, .int .u16 vfl, .int .u8 vtn, .int .u16 vtl, .int .u64 seq, .int .u64 ack, .bool false, .slice none 0 0] 76)) W.heap.size _ #[.int .u8 vfn, .int .u16 vfl, .int .u8 vtn, .int .u16 vtl, .int .u64 seq, .int .u64 ack, .bool false, .slice none 0 0] _ _ R5a.out)))
    exact bodyPost_ret (v := pkV ⟨vfn, vfl, vtn, vtl, seq, ack, false, []⟩ none 0) (results_cell_row (p := 2) (ty := 76) rfl _ _ W.heap.size 76 #[.int .u8 vfn, .int .u16 vfl, .int .u8 vtn, .int .u16 vtl, .int .u64 seq, .int .u64 ack, .bool false, .slice none 0 0] (0, 0) _ (by rfl) ER.out Tryz.underlying76 rfl (by kernel_rfl)) rfl ⟨none, 0, rfl, (fun _ _ h => by cases h), fun h => absurd rfl h, H5a.out.below (below_setRow (Below.refl top _) hTop.out _), grownSetRow G5a.out (Nat.le_refl _) _⟩
  | true =>
    have he6 : s5.text 524288 = (body, s6) := HE.out
    have T5 : top ≤ w5.heap.size := Nat.le_trans hTop.out (Nat.le_of_lt L5)
    have K6 := rT top b 524288 s5 (w5.alloc (.cells #[.int .u8 vfn, .int .u16 vfl, .int .u8 vtn, .int .u16 vtl, .int .u64 seq, .int .u64 ack, .bool true, .slice none 0 0] 76)) (H5.out.alloc _) (by decide)
    rw [show (524288 : Int).toNat = 524288 from rfl, he6] at K6
    have HK6 := Lib.hid K6
    have RL := Lib.hid (heap_alloc_new w5 (.cells #[.int .u8 vfn, .int .u16 vfl, .int .u8 vtn, .int .u16 vtl, .int .u64 seq, .int .u64 ack, .bool true, .slice none 0 0] 76))
    have G5a := Lib.hid (grownTrans G5.out (World.grownBy_alloc w5 (.cells #[.int .u8 vfn, .int .u16 vfl, .int .u8 vtn, .int .u16 vtl, .int .u64 seq, .int .u64 ack, .bool true, .slice none 0 0] 76) (some b)))
    have R5a := Lib.hid ((Below.heap_alloc w5 (.cells #[.int .u8 vfn, .int .u16 vfl, .int .u8 vtn, .int .u16 vtl, .int .u64 seq, .int .u64 ack, .bool true, .slice none 0 0] 76) W.heap.size L5).trans R5.out)
    have LS : w5.heap.size < (w5.alloc (.cells #[.int .u8 vfn, .int .u16 vfl, .int .u8 vtn, .int .u16 vtl, .int .u64 seq, .int .u64 ack, .bool true, .slice none 0 0] 76)).heap.size := by simp
    have LSW : W.heap.size < (w5.alloc (.cells #[.int .u8 vfn, .int .u16 vfl, .int .u8 vtn, .int .u16 vtl, .int .u64 seq, .int .u64 ack, .bool true, .slice none 0 0] 76)).heap.size := by simp; omega
    clear he6 K6
    go_wp2_with fail
    refine HK6.out.mono ?_
    rintro e w6 ⟨rfl, h6, g6⟩
    obtain ⟨c, w7, hcv, b7, s7, at7, g7⟩ := conv_text w6 body
    have hs6 : w5.heap.size < w6.heap.size := Nat.lt_of_lt_of_le LS g6.size
    have rl7 := (b7.block w5.heap.size hs6).trans ((g6.block w5.heap.size LS (by simp; omega)).trans RL.out)
    have hr7 := (b7.block W.heap.size (by omega)).trans ((g6.block W.heap.size LSW (by simp; omega)).trans R5a.out)
    have G7 := Lib.hid (grownTrans (grownTrans G5a.out g6) (g7 (some b)))
    have H7 := Lib.hid (h6.below (b7.mono h6.fits))
    have AT := Lib.hid at7
    have S7 := Lib.hid s7
    have HS6 := Lib.hid hs6
    have RL7 := Lib.hid rl7
    have R7 := Lib.hid hr7
    have d7 : w7.cell? ⟨w5.heap.size, 7, none⟩ = some (.slice none 0 0) := (cell_of_row _ _ 7 _ _ _ rl7).trans rfl
    have fl7 := frz_row 7 rl7
    obtain ⟨w8, hw8⟩ : ∃ w8, w7.setCell ⟨w5.heap.size, 7, none⟩ (.slice (some ⟨w6.heap.size, 0, none⟩) body.length c) = w8 := ⟨_, rfl⟩
    have RL8 : Hid (w8.heap[w5.heap.size]? = some (.cells #[.int .u8 vfn, .int .u16 vfl, .int .u8 vtn, .int .u16 vtl, .int .u64 seq, .int .u64 ack, .bool true, .slice (some ⟨w6.heap.size, 0, none⟩) body.length c] 76 (0, 0))) := Lib.hid (by rw [← hw8, heap_setCell_same _ _ _ _ _ _ rl7]; rfl)
    have R8 : Hid (w8.heap[W.heap.size]? = some (.cells #[.int .u8 0, .int .u16 0, .int .u8 0, .int .u16 0, .int .u64 0, .int .u64 0, .bool false, .slice none 0 0] 76 (0, 0))) := Lib.hid (by rw [← hw8, Below.heap_setCell _ _ _ _ (by simp; omega)]; exact hr7)
    have H8 := Lib.hid (show RdAt top b w8 s6 by rw [← hw8]; exact H7.out.below ((Below.refl top w7).setCell (p := ⟨w5.heap.size, 7, none⟩) T5 _))
    have G8 := Lib.hid (show W.grownBy w8 (some b) by rw [← hw8]; exact grownSetNew G7.out (Nat.le_of_lt L5) 7 _)
    have A8 : Hid (BytesAt w8 w8.heap.size (some ⟨w6.heap.size, 0, none⟩) body) := Lib.hid (fun _ => ⟨_, 0, rfl, by rw [← hw8]; simp; omega, fun j x hj => by
      rw [Nat.zero_add, ← hw8, cell_setNe _ _ _ _ _ _ (by omega)]
      exact AT.out j x hj⟩)
    have HW8 := Lib.hid hw8
    clear hr7 rl7 b7 at7 g7 h6 g6 R5a G5a HK6 s7 H5 R5 G5 hs6 LS LSW hw8
    go_wp2_with (first
      | (rw [HW8.out]
         refine wpList_load_row rfl 76 (.tmp 3) rfl w5.heap.size (by rfl) 76 #[.int .u8 vfn, .int .u16 vfl, .int .u8 vtn, .int .u16 vtl, .int .u64 seq, .int .u64 ack, .bool true, .slice (some ⟨w6.heap.size, 0, none⟩) body.length c] (0, 0) _ RL8.out Tryz.underlying76 rfl (by kernel_rfl) ?_)
      | (refine wpList_store_row rfl 76 (.tmp 2) (.tmp 21) rfl W.heap.size #[.int .u8 vfn, .int .u16 vfl, .int .u8 vtn, .int .u16 vtl, .int .u64 seq, .int .u64 ack, .bool true, .slice (some ⟨w6.heap.size, 0, none⟩) body.length c] (by rfl) (by rfl) 76 #[.int .u8 0, .int .u16 0, .int .u8 0, .int .u16 0, .int .u64 0, .int .u64 0, .bool false, .slice none 0 0] R8.out (by kernel_rfl) rfl (by simp [Value.oneCell']) ?_
         have ER := Lib.hid (setRow_heap w8 W.heap.size _ #[.int .u8 vfn, .int .u16 vfl, .int .u8 vtn, .int .u16 vtl, .int .u64 seq, .int .u64 ack, .bool true, .slice (some ⟨w6.heap.size, 0, none⟩) body.length c] _ _ R8.out)))
    refine bodyPost_ret (v := pkV ⟨vfn, vfl, vtn, vtl, seq, ack, true, body⟩ (some ⟨w6.heap.size, 0, none⟩) c) (results_cell_row (p := 2) (ty := 76) rfl _ _ W.heap.size 76 #[.int .u8 vfn, .int .u16 vfl, .int .u8 vtn, .int .u16 vtl, .int .u64 seq, .int .u64 ack, .bool true, .slice (some ⟨w6.heap.size, 0, none⟩) body.length c] (0, 0) _ (by rfl) ER.out Tryz.underlying76 rfl (by kernel_rfl)) rfl ⟨_, c, rfl, (fun g o h => by cases h; have := HS6.out; omega), fun hx => ?_, H8.out.below (below_setRow (Below.refl top _) hTop.out _), grownSetRow G8.out (Nat.le_refl _) _⟩
    obtain ⟨g, o, e, hg, hcl⟩ := A8.out hx
    cases e
    refine ⟨_, 0, rfl, by simpa using hg, fun j x hj => ?_⟩
    rw [cell_setRow_other _ _ _ _ (by have := HS6.out; simp; omega)]
    exact hcl j x hj

end Go.Proofs.YtkmbgehknpefiaaGreatDoor
