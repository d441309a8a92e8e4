/-
  The document's Next: by an exact answer. Condition: the lists lie in memory; at most 40 members and changes.
-/
import Derived.Test.YtgmjhloednmfnaaDoorVnx1
namespace Go.Proofs.YtgmjhloednmfnaaDoor
set_option linter.unusedSimpArgs false
set_option linter.unusedVariables false
open Go.RowKit

set_option maxRecDepth 100000 in
set_option maxHeartbeats 1000000 in
theorem nextR_bad (g N : Int) (A B D : Option Addr) (V drop add : List P2) (c d e : Nat) (w : World) (hr : RowsV w w.heap.size A V) (hc : V.length ≤ c) (hm : c ≤ maxLen) (hok : vR g N V = false) :
    Calls Tryd.prog 10 #[.agg #[.int .u8 g, .int .u32 N, .slice A V.length c], .slice B drop.length d, .slice D add.length e] w fun x w' => ∃ v', x = .returned (.tuple #[.agg #[.int .u8 (nxG g N V drop add), .int .u32 (nxN g N V drop add), v'], .int .i64 (nxC g N V drop add)]) ∧ w'.ownsRow w.heap.size 46 2 v' (nxV g N V drop add).length (cellsV (nxV g N V drop add)) ∧ Below w.heap.size w w' := by
  have hCC : Hid (nxC g N V drop add = 1) := Lib.hid (by unfold nxC; rw [hok]; rfl)
  have K1 : Hid (∀ W, Below w.heap.size w W → Calls Tryd.prog 24 #[.agg #[.int .u8 g, .int .u32 N, .slice A V.length c]] W fun e w' => e = .returned (.bool false) ∧ Below W.heap.size W w') := Lib.hid (fun W hw => by
    have := rightR g N A V c W (hr.below (C := w.heap.size) hw (Nat.le_refl _) hw.size) hc hm
    rw [hok] at this
    exact this)
  have b0 : Hid (Below w.heap.size w ((w.alloc (.cells #[.int .u8 g, .int .u32 N, .slice A V.length c] 25)).alloc (.cells #[.int .u8 0, .int .u32 0, .slice none 0 0] 25))) := Lib.hid (two_below _ _ _ _ _)
  have r0 : Hid (((w.alloc (.cells #[.int .u8 g, .int .u32 N, .slice A V.length c] 25)).alloc (.cells #[.int .u8 0, .int .u32 0, .slice none 0 0] 25)).heap[w.heap.size]? = some (.cells #[.int .u8 g, .int .u32 N, .slice A V.length c] 25 (0, 0))) := Lib.hid (rowA _ _ _ _ _)
  have r1 : Hid (((w.alloc (.cells #[.int .u8 g, .int .u32 N, .slice A V.length c] 25)).alloc (.cells #[.int .u8 0, .int .u32 0, .slice none 0 0] 25)).heap[w.heap.size + 1]? = some (.cells #[.int .u8 0, .int .u32 0, .slice none 0 0] 25 (0, 0))) := Lib.hid (rowB _ _ _ _ _)
  have l1 : Hid (w.heap.size + 1 < ((w.alloc (.cells #[.int .u8 g, .int .u32 N, .slice A V.length c] 25)).alloc (.cells #[.int .u8 0, .int .u32 0, .slice none 0 0] 25)).heap.size) := Lib.hid (by simp)
  clear hr hc hm hok
  go_enter Tryd.func10, Tryd.ntmps10
  go_wp2_with (go_at_call 24; refine (K1.out _ b0.out).mono ?_; rintro e1 w1 ⟨rfl, b1⟩
               have B1 := Lib.hid (b0.out.trans (b1.mono b0.out.size))
               have R1 := Lib.hid ((b1.block _ (Nat.lt_of_succ_lt l1.out)).trans r0.out)
               have R2 := Lib.hid ((b1.block _ l1.out).trans r1.out)
               have L1 : Hid (w.heap.size + 1 < w1.heap.size) := Lib.hid (Nat.lt_of_lt_of_le l1.out b1.size)
               have e1 : w1.cell? ⟨w.heap.size, 1, none⟩ = some (.int .u32 N) := (cell_of_row _ _ 1 _ _ _ R1.out).trans rfl
               have q0 : w1.cell? ⟨w.heap.size + 1, 0, none⟩ = some (.int .u8 0) := (cell_of_row _ _ 0 _ _ _ R2.out).trans rfl
               have q1 : w1.cell? ⟨w.heap.size + 1, 1, none⟩ = some (.int .u32 0) := (cell_of_row _ _ 1 _ _ _ R2.out).trans rfl
               have q2 : w1.cell? ⟨w.heap.size + 1, 2, none⟩ = some (.slice none 0 0) := (cell_of_row _ _ 2 _ _ _ R2.out).trans rfl
               have p0 := frz_row 0 R2.out
               have p1 := frz_row 1 R2.out
               have p2 := frz_row 2 R2.out
               clear b1 b0 r0 r1 l1)
  have ls : w.heap.size + 1 < w1.heap.size := L1.out
  have hG : nxG g N V drop add = 0 := by unfold nxG; rw [hCC.out]; rfl
  have hN9 : nxN g N V drop add = 0 := by unfold nxN; rw [hCC.out]; rfl
  have hV9 : nxV g N V drop add = [] := by unfold nxV; rw [hCC.out]; rfl
  refine bodyPost_ret (v := .tuple #[.agg #[.int .u8 0, .int .u32 0, .slice none 0 0], .int .i64 1]) (by simp [results, Tryd.results10, go_sem]; try go_simp) rfl ⟨_, by rw [hG, hN9, hCC.out], ?_, ?_⟩
  · rw [hV9]
    exact ⟨rfl, .inl ⟨rfl, rfl⟩⟩
  · exact ((B1.out.setCell (by simp) _).setCell (by simp) _).setCell (by simp) _

set_option maxRecDepth 100000 in
set_option maxHeartbeats 1000000 in
theorem nextR_max (g N : Int) (A B D : Option Addr) (V drop add : List P2) (c d e : Nat) (w : World) (hr : RowsV w w.heap.size A V) (hc : V.length ≤ c) (hm : c ≤ maxLen) (hok : vR g N V = true) (hN : N = 4294967295) :
    Calls Tryd.prog 10 #[.agg #[.int .u8 g, .int .u32 N, .slice A V.length c], .slice B drop.length d, .slice D add.length e] w fun x w' => ∃ v', x = .returned (.tuple #[.agg #[.int .u8 (nxG g N V drop add), .int .u32 (nxN g N V drop add), v'], .int .i64 (nxC g N V drop add)]) ∧ w'.ownsRow w.heap.size 46 2 v' (nxV g N V drop add).length (cellsV (nxV g N V drop add)) ∧ Below w.heap.size w w' := by
  have hCC : Hid (nxC g N V drop add = 2) := Lib.hid (by unfold nxC; rw [if_pos hok, if_pos hN])
  have K1 : Hid (∀ W, Below w.heap.size w W → Calls Tryd.prog 24 #[.agg #[.int .u8 g, .int .u32 N, .slice A V.length c]] W fun e w' => e = .returned (.bool true) ∧ Below W.heap.size W w') := Lib.hid (fun W hw => by
    have := rightR g N A V c W (hr.below (C := w.heap.size) hw (Nat.le_refl _) hw.size) hc hm
    rw [hok] at this
    exact this)
  have b0 : Hid (Below w.heap.size w ((w.alloc (.cells #[.int .u8 g, .int .u32 N, .slice A V.length c] 25)).alloc (.cells #[.int .u8 0, .int .u32 0, .slice none 0 0] 25))) := Lib.hid (two_below _ _ _ _ _)
  have r0 : Hid (((w.alloc (.cells #[.int .u8 g, .int .u32 N, .slice A V.length c] 25)).alloc (.cells #[.int .u8 0, .int .u32 0, .slice none 0 0] 25)).heap[w.heap.size]? = some (.cells #[.int .u8 g, .int .u32 N, .slice A V.length c] 25 (0, 0))) := Lib.hid (rowA _ _ _ _ _)
  have r1 : Hid (((w.alloc (.cells #[.int .u8 g, .int .u32 N, .slice A V.length c] 25)).alloc (.cells #[.int .u8 0, .int .u32 0, .slice none 0 0] 25)).heap[w.heap.size + 1]? = some (.cells #[.int .u8 0, .int .u32 0, .slice none 0 0] 25 (0, 0))) := Lib.hid (rowB _ _ _ _ _)
  have l1 : Hid (w.heap.size + 1 < ((w.alloc (.cells #[.int .u8 g, .int .u32 N, .slice A V.length c] 25)).alloc (.cells #[.int .u8 0, .int .u32 0, .slice none 0 0] 25)).heap.size) := Lib.hid (by simp)
  have hNb : (N == 4294967295) = true := by rw [beq_iff_eq]; exact hN
  clear hN
  clear hr hc hm hok
  go_enter Tryd.func10, Tryd.ntmps10
  go_wp2_with (go_at_call 24; refine (K1.out _ b0.out).mono ?_; rintro e1 w1 ⟨rfl, b1⟩
               have B1 := Lib.hid (b0.out.trans (b1.mono b0.out.size))
               have R1 := Lib.hid ((b1.block _ (Nat.lt_of_succ_lt l1.out)).trans r0.out)
               have R2 := Lib.hid ((b1.block _ l1.out).trans r1.out)
               have L1 : Hid (w.heap.size + 1 < w1.heap.size) := Lib.hid (Nat.lt_of_lt_of_le l1.out b1.size)
               have e1 : w1.cell? ⟨w.heap.size, 1, none⟩ = some (.int .u32 N) := (cell_of_row _ _ 1 _ _ _ R1.out).trans rfl
               have q0 : w1.cell? ⟨w.heap.size + 1, 0, none⟩ = some (.int .u8 0) := (cell_of_row _ _ 0 _ _ _ R2.out).trans rfl
               have q1 : w1.cell? ⟨w.heap.size + 1, 1, none⟩ = some (.int .u32 0) := (cell_of_row _ _ 1 _ _ _ R2.out).trans rfl
               have q2 : w1.cell? ⟨w.heap.size + 1, 2, none⟩ = some (.slice none 0 0) := (cell_of_row _ _ 2 _ _ _ R2.out).trans rfl
               have p0 := frz_row 0 R2.out
               have p1 := frz_row 1 R2.out
               have p2 := frz_row 2 R2.out
               clear b1 b0 r0 r1 l1)
  have ls : w.heap.size + 1 < w1.heap.size := L1.out
  have hG : nxG g N V drop add = 0 := by unfold nxG; rw [hCC.out]; rfl
  have hN9 : nxN g N V drop add = 0 := by unfold nxN; rw [hCC.out]; rfl
  have hV9 : nxV g N V drop add = [] := by unfold nxV; rw [hCC.out]; rfl
  refine bodyPost_ret (v := .tuple #[.agg #[.int .u8 0, .int .u32 0, .slice none 0 0], .int .i64 2]) (by simp [results, Tryd.results10, go_sem]; try go_simp) rfl ⟨_, by rw [hG, hN9, hCC.out], ?_, ?_⟩
  · rw [hV9]
    exact ⟨rfl, .inl ⟨rfl, rfl⟩⟩
  · exact ((B1.out.setCell (by simp) _).setCell (by simp) _).setCell (by simp) _

theorem nextR (g N : Int) (A B D : Option Addr) (V drop add : List P2) (c d e : Nat) (w : World) (hr : RowsV w w.heap.size A V) (hc : V.length ≤ c) (hm : c ≤ maxLen) (hs : RowsV w w.heap.size B drop) (ht : RowsV w w.heap.size D add) (hd : drop.length ≤ d) (hn : d ≤ maxLen) (he : add.length ≤ e) (ho : e ≤ maxLen) (hV : V.length ≤ 40) (hA : add.length ≤ 40) (hN2 : N < 4294967296) :
    Calls Tryd.prog 10 #[.agg #[.int .u8 g, .int .u32 N, .slice A V.length c], .slice B drop.length d, .slice D add.length e] w fun x w' => ∃ v', x = .returned (.tuple #[.agg #[.int .u8 (nxG g N V drop add), .int .u32 (nxN g N V drop add), v'], .int .i64 (nxC g N V drop add)]) ∧ w'.ownsRow w.heap.size 46 2 v' (nxV g N V drop add).length (cellsV (nxV g N V drop add)) ∧ Below w.heap.size w w' := by
  cases hok : vR g N V with
  | false => exact nextR_bad g N A B D V drop add c d e w hr hc hm hok
  | true =>
    by_cases hN : N = 4294967295
    · exact nextR_max g N A B D V drop add c d e w hr hc hm hok hN
    · exact nextR_main g N A B D V drop add c d e w hr hs ht hc hm hd hn he ho hV hA hok hN hN2

end Go.Proofs.YtgmjhloednmfnaaDoor
