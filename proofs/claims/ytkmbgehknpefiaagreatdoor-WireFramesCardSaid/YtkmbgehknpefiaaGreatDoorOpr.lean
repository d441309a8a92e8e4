/-
  Processes as bytes: the program's PutProc and GetProc, the document's: by exact answers. Condition: Writer and Reader lie in memory.
-/
import Derived.Test.YtkmbgehknpefiaaGreatDoorOrv
import Derived.Test.YtkmbgehknpefiaaGreatDoorOdt
import Derived.Test.YtkmbgehknpefiaaGreatDoorOdp
namespace Go.Proofs.YtkmbgehknpefiaaGreatDoor
set_option linter.unusedSimpArgs false
set_option linter.unusedVariables false
open Go.RowKit

/-- a process's bytes; what is read of them. -/
def putP (n l : Nat) : List UInt8 := UInt8.ofNat n :: putU l
def RS.proc (s : RS) : (Nat × Nat) × RS := ((s.b.1, (s.b.2.u 65535).1), (s.b.2.u 65535).2)
theorem u_le (most : Nat) (s : RS) : (s.u most).1 ≤ most := by
  unfold RS.u
  split
  · exact numAt_le most s.L 0 0 (by simp)
  · exact Nat.zero_le _
theorem b_le (s : RS) : s.b.1 < 256 := by
  unfold RS.b
  split
  · split
    · exact (by decide : 0 < 256)
    · rename_i x L _
      exact x.toNat_lt
  · exact (by decide : 0 < 256)
theorem WrAt.alloc {base b : Nat} {L : List UInt8} {W : World} (h : WrAt base b L W) (o : Obj) : WrAt base b L (W.alloc o) := by
  obtain ⟨hb, v, bV, hr⟩ := h
  exact ⟨hb, v, bV.alloc o, hr.alloc o⟩

theorem DdAt.alloc {top b : Nat} {W : World} {s : RS} (h : DdAt top b W s) (o : Obj) : DdAt top b (W.alloc o) s := h.below ((Below.refl top W).alloc h.fits o)

/-- a cell of a block that is laid within. -/
theorem grownSetNew {W W1 : World} {row : Option Nat} (h : W.grownBy W1 row) {k : Nat} (hk : W.heap.size ≤ k) (i : Nat) (v : Value) : W.grownBy (W1.setCell ⟨k, i, none⟩ v) row :=
  ⟨h.os, h.tape, h.output, by simpa using h.size, fun j hj hn => (Below.heap_setCell _ _ _ j (by simp; omega)).trans (h.block j hj hn)⟩

set_option maxRecDepth 100000 in
set_option maxHeartbeats 1000000 in
theorem putProcO (base b : Nat) (L : List UInt8) (n l : Nat) (W : World) (h : WrAt base b L W) (hB : base ≤ W.heap.size) (hl : L.length + 11 ≤ 140737488355328) (hn : n < 256) (hl2 : l < 65536) :
    Calls Tryz.prog 87 #[.pointer (some ⟨b, 0, none⟩), .agg #[.int .u8 n, .int .u16 l]] W fun e W' => e = .returned (.tuple #[]) ∧ WrAt base b (L ++ putP n l) W' ∧ Below base W W' ∧ KeepW b W W' := by
  obtain ⟨O, hO⟩ : ∃ O, Obj.cells #[.int .u8 n, .int .u16 l] 47 (0, 0) = O := ⟨_, rfl⟩
  have K1 := Lib.hid (wB base b L n (W.alloc (.cells #[.int .u8 n, .int .u16 l] 47)) (h.alloc _) (Nat.le_trans hB (by simp)) (by omega) (by omega) (by omega))
  have hbW : b < W.heap.size := by obtain ⟨_, v, bV, _⟩ := h; exact bV.lt
  have B0 := Lib.hid ((Below.refl base W).alloc hB (.cells #[.int .u8 n, .int .u16 l] 47))
  have Q0 := Lib.hid (KeepW.alloc (b := b) W (.cells #[.int .u8 n, .int .u16 l] 47))
  have R0 := Lib.hid (heap_alloc_new W (.cells #[.int .u8 n, .int .u16 l] 47))
  clear h hO
  go_enter Tryz.func87, Tryz.ntmps87
  go_wp2_with fail
  refine K1.out.mono ?_
  rintro e w1 ⟨rfl, h1, b1, q1⟩
  have hr := q1.same _ _ (by omega) R0.out (by intro cs fr h; cases h)
  have c1 : w1.cell? ⟨W.heap.size, 1, none⟩ = some (.int .u16 l) := (cell_of_row _ _ 1 _ _ _ hr).trans rfl
  have K2 := Lib.hid (wU base b _ l w1 h1 (Nat.le_trans hB (B0.out.trans b1).size) (by simp; omega) (by omega))
  have B1 := Lib.hid (B0.out.trans b1)
  have Q1 := Lib.hid (Q0.out.trans q1)
  clear h1 b1 q1 hr
  go_wp2_with fail
  refine K2.out.mono ?_
  rintro e w2 ⟨rfl, h2, b2, q2⟩
  go_wp2
  go_end0
  refine ⟨rfl, ?_, B1.out.trans b2, Q1.out.trans q2⟩
  have e : (L ++ [UInt8.ofNat ((n : Int)).toNat]) ++ putU l = L ++ putP n l := by
    unfold putP
    rw [List.append_assoc]
    rfl
  rw [← e]
  exact h2

set_option maxRecDepth 100000 in
set_option maxHeartbeats 1000000 in
theorem getProcO (top b : Nat) (s : RS) (W : World) (h : RdAt top b W s) :
    Calls Tryz.prog 109 #[.pointer (some ⟨b, 0, none⟩)] W fun e W' => e = .returned (.agg #[.int .u8 (if s.proc.2.E = 0 then s.proc.1.1 else 0 : Nat), .int .u16 (if s.proc.2.E = 0 then s.proc.1.2 else 0 : Nat)]) ∧ RdAt top b W' s.proc.2 ∧ W.grownBy W' (some b) := by
  have K1 := Lib.hid (rB top b s (W.alloc (.cells #[.int .u8 0, .int .u16 0] 47)) (h.alloc _))
  have G0 := Lib.hid (World.grownBy_alloc W (.cells #[.int .u8 0, .int .u16 0] 47) (some b))
  have R0 := Lib.hid (heap_alloc_new W (.cells #[.int .u8 0, .int .u16 0] 47))
  have hbW : b < W.heap.size := Nat.lt_of_lt_of_le h.lt h.fits
  have hTop := Lib.hid h.fits
  have hb8 := b_le s
  have hu := u_le 65535 s.b.2
  unfold RS.proc
  obtain ⟨⟨n, s1⟩, hs1⟩ : ∃ q, s.b = q := ⟨_, rfl⟩
  rw [hs1] at K1 hb8 hu ⊢
  have hb8' : n < 256 := hb8
  obtain ⟨⟨l, s2⟩, hs2⟩ : ∃ q, RS.u 65535 s1 = q := ⟨_, rfl⟩
  have hs2' : RS.u 65535 (n, s1).2 = (l, s2) := hs2
  rw [hs2'] at hu ⊢
  have hu' : l ≤ 65535 := hu
  show Calls Tryz.prog _ _ _ fun e W' => e = .returned (.agg #[.int .u8 (if s2.E = 0 then n else 0 : Nat), .int .u16 (if s2.E = 0 then l else 0 : Nat)]) ∧ RdAt top b W' s2 ∧ W.grownBy W' (some b)
  obtain ⟨vn, hvn⟩ : ∃ v, (if s2.E = 0 then n else 0) = v := ⟨_, rfl⟩
  obtain ⟨vl, hvl⟩ : ∃ v, (if s2.E = 0 then l else 0) = v := ⟨_, rfl⟩
  rw [hvn, hvl]
  have HVN := Lib.hid hvn
  have HVL := Lib.hid hvl
  clear h hb8 hu hs2' hvn hvl
  go_enter Tryz.func109, Tryz.ntmps109
  go_wp2_with fail
  refine K1.out.mono ?_
  rintro e w1 ⟨rfl, h1, g1⟩
  have G1 := Lib.hid (grownTrans G0.out g1)
  have R1 := Lib.hid ((g1.block W.heap.size (by simp) (by simp; omega)).trans R0.out)
  have K2 := Lib.hid (rU top b 65535 _ w1 h1 (by decide))
  rw [show RS.u 65535 (n, s1).2 = (l, s2) from hs2] at K2
  have L1 : W.heap.size < w1.heap.size := by have := g1.size; simp at this; omega
  clear h1 g1 R0 G0
  go_wp2_with fail
  refine K2.out.mono ?_
  rintro e w2 ⟨rfl, h2, g2⟩
  have G2 := Lib.hid (grownTrans G1.out g2)
  have hr2 := (g2.block W.heap.size L1 (by simp; omega)).trans R1.out
  have L2 : W.heap.size < w2.heap.size := Nat.lt_of_lt_of_le L1 g2.size
  have c0 : w2.cell? ⟨W.heap.size, 0, none⟩ = some (.int .u8 0) := (cell_of_row _ _ 0 _ _ _ hr2).trans rfl
  have c1 : w2.cell? ⟨W.heap.size, 1, none⟩ = some (.int .u16 0) := (cell_of_row _ _ 1 _ _ _ hr2).trans rfl
  have f0 := frz_row 0 hr2
  have f1 := frz_row 1 hr2
  have H2 := Lib.hid h2
  have K3 := Lib.hid (errO top b s2 (w2.alloc (.cells #[.int .u8 n, .int .u16 l] 47)) (h2.alloc _))
  have G3 := Lib.hid (grownTrans G2.out (World.grownBy_alloc w2 (.cells #[.int .u8 n, .int .u16 l] 47) (some b)))
  clear h2 g2 R1 G1 hr2
  by_cases hE : s2.E = 0
  · have hE' : (s2.E : Int) = 0 := by omega
    obtain rfl : n = vn := by rw [← HVN.out, if_pos hE]
    obtain rfl : l = vl := by rw [← HVL.out, if_pos hE]
    go_wp2_with fail
    refine K3.out.mono ?_
    rintro e w3 ⟨rfl, rfl⟩
    go_wp2
    refine bodyPost_ret (v := .agg #[.int .u8 (n : Nat), .int .u16 (l : Nat)]) (by simp [results, Tryz.results109, go_sem]; try go_simp) rfl ⟨rfl, ?_, ?_⟩
    · exact H2.out.below ((((Below.refl top w2).setCell (p := ⟨W.heap.size, 0, none⟩) hTop.out _).setCell (p := ⟨W.heap.size, 1, none⟩) hTop.out _).alloc (by simp; have := hTop.out; omega) _)
    · exact grownTrans (grownSetNew (grownSetNew G2.out (Nat.le_refl _) 0 _) (Nat.le_refl _) 1 _) (World.grownBy_alloc _ _ _)
  · have hE' : ¬ (s2.E : Int) = 0 := by omega
    obtain rfl : 0 = vn := by rw [← HVN.out, if_neg hE]
    obtain rfl : 0 = vl := by rw [← HVL.out, if_neg hE]
    go_wp2_with fail
    refine K3.out.mono ?_
    rintro e w3 ⟨rfl, rfl⟩
    go_wp2
    refine bodyPost_ret (v := .agg #[.int .u8 (0 : Nat), .int .u16 (0 : Nat)]) (by simp [results, Tryz.results109, go_sem]; try go_simp) rfl ⟨rfl, ?_, ?_⟩
    · exact H2.out.below ((((Below.refl top w2).setCell (p := ⟨W.heap.size, 0, none⟩) hTop.out _).setCell (p := ⟨W.heap.size, 1, none⟩) hTop.out _).alloc (by simp; have := hTop.out; omega) _)
    · exact grownTrans (grownSetNew (grownSetNew G2.out (Nat.le_refl _) 0 _) (Nat.le_refl _) 1 _) (World.grownBy_alloc _ _ _)

set_option maxRecDepth 100000 in
set_option maxHeartbeats 1000000 in
theorem dGetProc (top b : Nat) (s : RS) (W : World) (h : DdAt top b W s) :
    Calls Tryz.prog 73 #[.pointer (some ⟨b, 0, none⟩)] W fun e W' => e = .returned (.agg #[.int .u8 s.proc.1.1, .int .u16 s.proc.1.2]) ∧ DdAt top b W' s.proc.2 ∧ W.grownBy W' (some b) := by
  have K1 := Lib.hid (dB top b s (W.alloc (.cells #[.int .u8 0, .int .u16 0] 26)) (h.alloc _))
  have G0 := Lib.hid (World.grownBy_alloc W (.cells #[.int .u8 0, .int .u16 0] 26) (some b))
  have R0 := Lib.hid (heap_alloc_new W (.cells #[.int .u8 0, .int .u16 0] 26))
  have hbW : b < W.heap.size := Nat.lt_of_lt_of_le h.lt h.fits
  have hTop := Lib.hid h.fits
  have hb8 := b_le s
  have hu := u_le 65535 s.b.2
  unfold RS.proc
  obtain ⟨⟨n, s1⟩, hs1⟩ : ∃ q, s.b = q := ⟨_, rfl⟩
  rw [hs1] at K1 hb8 hu ⊢
  have hb8' : n < 256 := hb8
  obtain ⟨⟨l, s2⟩, hs2⟩ : ∃ q, RS.u 65535 s1 = q := ⟨_, rfl⟩
  have hs2' : RS.u 65535 (n, s1).2 = (l, s2) := hs2
  rw [hs2'] at hu ⊢
  have hu' : l ≤ 65535 := hu
  show Calls Tryz.prog _ _ _ fun e W' => e = .returned (.agg #[.int .u8 n, .int .u16 l]) ∧ DdAt top b W' s2 ∧ W.grownBy W' (some b)
  clear h hb8 hu hs2'
  go_enter Tryz.func73, Tryz.ntmps73
  go_wp2_with fail
  refine K1.out.mono ?_
  rintro e w1 ⟨rfl, h1, g1⟩
  have G1 := Lib.hid (grownTrans G0.out g1)
  have R1 := Lib.hid ((g1.block W.heap.size (by simp) (by simp; omega)).trans R0.out)
  have K2 := Lib.hid (dU top b 65535 _ w1 h1 (by decide))
  rw [show RS.u 65535 (n, s1).2 = (l, s2) from hs2] at K2
  have L1 : W.heap.size < w1.heap.size := by have := g1.size; simp at this; omega
  clear h1 g1 R0 G0
  go_wp2_with fail
  refine K2.out.mono ?_
  rintro e w2 ⟨rfl, h2, g2⟩
  have G2 := Lib.hid (grownTrans G1.out g2)
  have hr2 := (g2.block W.heap.size L1 (by simp; omega)).trans R1.out
  have L2 : W.heap.size < w2.heap.size := Nat.lt_of_lt_of_le L1 g2.size
  have c0 : w2.cell? ⟨W.heap.size, 0, none⟩ = some (.int .u8 0) := (cell_of_row _ _ 0 _ _ _ hr2).trans rfl
  have c1 : w2.cell? ⟨W.heap.size, 1, none⟩ = some (.int .u16 0) := (cell_of_row _ _ 1 _ _ _ hr2).trans rfl
  have f0 := frz_row 0 hr2
  have f1 := frz_row 1 hr2
  have H2 := Lib.hid h2
  clear h2 g2 R1 G1 hr2
  go_wp2
  refine bodyPost_ret (v := .agg #[.int .u8 (n : Nat), .int .u16 (l : Nat)]) (by simp [results, Tryz.results73, go_sem]; try go_simp) rfl ⟨rfl, ?_, ?_⟩
  · exact H2.out.below (((Below.refl top w2).setCell (p := ⟨W.heap.size, 0, none⟩) hTop.out _).setCell (p := ⟨W.heap.size, 1, none⟩) hTop.out _)
  · exact grownSetNew (grownSetNew G2.out (Nat.le_refl _) 0 _) (Nat.le_refl _) 1 _


end Go.Proofs.YtkmbgehknpefiaaGreatDoor
