/-
  The program's Next: by an exact answer. Condition: the lists lie in memory; at most 1000 members and changes.
-/
import Derived.Test.YtgmjhloednmfnaaDoorVri
import Derived.Test.YtgmjhloednmfnaaDoorVwi
import Derived.Test.YtgmjhloednmfnaaDoorVwo
namespace Go.Proofs.YtgmjhloednmfnaaDoor
set_option linter.unusedSimpArgs false
set_option linter.unusedVariables false
open Go.RowKit

set_option maxRecDepth 100000 in
set_option maxHeartbeats 1000000 in
theorem nextO_bad (g N : Int) (A B D : Option Addr) (V drop add : List P2) (c d e : Nat) (w : World) (hr : RowsV w w.heap.size A V) (hs : RowsV w w.heap.size B drop) (ht : RowsV w w.heap.size D add) (hc : V.length ≤ c) (hm : c ≤ maxLen) (hd : drop.length ≤ d) (hn : d ≤ maxLen) (he : add.length ≤ e) (ho : e ≤ maxLen) (hV : V.length ≤ 1000) (hB : drop.length ≤ 1000) (hA : add.length ≤ 1000) (hok : vR g N V = false) :
    Calls Tryd.prog 8 #[.agg #[.int .u8 g, .int .u32 N, .slice A V.length c], .slice B drop.length d, .slice D add.length e] w fun x w' => ∃ v', x = .returned (.tuple #[.agg #[.int .u8 (nxG g N V drop add), .int .u32 (nxN g N V drop add), v'], .int .i64 (nxC g N V drop add)]) ∧ w'.ownsRow w.heap.size 48 2 v' (nxV g N V drop add).length (cellsV (nxV g N V drop add)) ∧ Below w.heap.size w w' := by
  have hCC : Hid (nxC g N V drop add = 1) := Lib.hid (by unfold nxC; rw [hok]; rfl)
  have K1 : Hid (∀ W, Below w.heap.size w W → Calls Tryd.prog 14 #[.agg #[.int .u8 g, .int .u32 N, .slice A V.length c]] W fun e w' => e = .returned (.bool false) ∧ Below W.heap.size W w') := Lib.hid (fun W hw => by
    have := rightO1 g N A V c W (hr.below (C := w.heap.size) hw (Nat.le_refl _) hw.size) hc hm
    rw [hok] at this
    exact this)
  have b0 : Hid (Below w.heap.size w ((w.alloc (.cells #[.int .u8 g, .int .u32 N, .slice A V.length c] 30)).alloc (.cells #[.int .u8 0, .int .u32 0, .slice none 0 0] 30))) := Lib.hid (two_below _ _ _ _ _)
  have r0 : Hid (((w.alloc (.cells #[.int .u8 g, .int .u32 N, .slice A V.length c] 30)).alloc (.cells #[.int .u8 0, .int .u32 0, .slice none 0 0] 30)).heap[w.heap.size]? = some (.cells #[.int .u8 g, .int .u32 N, .slice A V.length c] 30 (0, 0))) := Lib.hid (rowA _ _ _ _ _)
  have r1 : Hid (((w.alloc (.cells #[.int .u8 g, .int .u32 N, .slice A V.length c] 30)).alloc (.cells #[.int .u8 0, .int .u32 0, .slice none 0 0] 30)).heap[w.heap.size + 1]? = some (.cells #[.int .u8 0, .int .u32 0, .slice none 0 0] 30 (0, 0))) := Lib.hid (rowB _ _ _ _ _)
  have l1 : Hid (w.heap.size + 1 < ((w.alloc (.cells #[.int .u8 g, .int .u32 N, .slice A V.length c] 30)).alloc (.cells #[.int .u8 0, .int .u32 0, .slice none 0 0] 30)).heap.size) := Lib.hid (by simp)
  clear hr hs ht hok
  unfold maxLen at hm
  go_enter Tryd.func8, Tryd.ntmps8
  go_wp2_with (go_at_call 14; refine (K1.out _ b0.out).mono ?_; rintro e1 w1 ⟨rfl, b1⟩
               have B1 := Lib.hid (b0.out.trans (b1.mono b0.out.size))
               have R1a := Lib.hid ((b1.block _ (Nat.lt_of_succ_lt l1.out)).trans r0.out)
               have R2a := Lib.hid ((b1.block _ l1.out).trans r1.out)
               have L1 : Hid (w.heap.size + 1 < w1.heap.size) := Lib.hid (Nat.lt_of_lt_of_le l1.out b1.size)
               have e0 : w1.cell? ⟨w.heap.size, 0, none⟩ = some (.int .u8 g) := (cell_of_row _ _ 0 _ _ _ R1a.out).trans rfl
               have e1 : w1.cell? ⟨w.heap.size, 1, none⟩ = some (.int .u32 N) := (cell_of_row _ _ 1 _ _ _ R1a.out).trans rfl
               have e2 : w1.cell? ⟨w.heap.size, 2, none⟩ = some (.slice A V.length c) := (cell_of_row _ _ 2 _ _ _ R1a.out).trans rfl
               clear b1 b0 r0 r1 l1
               have q0 : w1.cell? ⟨w.heap.size + 1, 0, none⟩ = some (.int .u8 0) := (cell_of_row _ _ 0 _ _ _ R2a.out).trans rfl
               have q1 : w1.cell? ⟨w.heap.size + 1, 1, none⟩ = some (.int .u32 0) := (cell_of_row _ _ 1 _ _ _ R2a.out).trans rfl
               have q2 : w1.cell? ⟨w.heap.size + 1, 2, none⟩ = some (.slice none 0 0) := (cell_of_row _ _ 2 _ _ _ R2a.out).trans rfl
               have p0 := frz_row 0 R2a.out
               have p1 := frz_row 1 R2a.out
               have p2 := frz_row 2 R2a.out)
  have ls : w.heap.size + 1 < w1.heap.size := L1.out
  have hG : nxG g N V drop add = 0 := by unfold nxG; rw [hCC.out]; rfl
  have hN9 : nxN g N V drop add = 0 := by unfold nxN; rw [hCC.out]; rfl
  have hV9 : nxV g N V drop add = [] := by unfold nxV; rw [hCC.out]; rfl
  refine bodyPost_ret (v := .tuple #[.agg #[.int .u8 0, .int .u32 0, .slice none 0 0], .int .i64 1]) (by simp [results, Tryd.results8, go_sem]; try go_simp) rfl ⟨_, by rw [hG, hN9, hCC.out], ?_, ?_⟩
  · rw [hV9]
    exact ⟨rfl, .inl ⟨rfl, rfl⟩⟩
  · exact ((B1.out.setCell (by simp) _).setCell (by simp) _).setCell (by simp) _

set_option maxRecDepth 100000 in
set_option maxHeartbeats 1000000 in
theorem nextO_max (g N : Int) (A B D : Option Addr) (V drop add : List P2) (c d e : Nat) (w : World) (hr : RowsV w w.heap.size A V) (hs : RowsV w w.heap.size B drop) (ht : RowsV w w.heap.size D add) (hc : V.length ≤ c) (hm : c ≤ maxLen) (hd : drop.length ≤ d) (hn : d ≤ maxLen) (he : add.length ≤ e) (ho : e ≤ maxLen) (hV : V.length ≤ 1000) (hB : drop.length ≤ 1000) (hA : add.length ≤ 1000) (hok : vR g N V = true) (hN : N = 4294967295) :
    Calls Tryd.prog 8 #[.agg #[.int .u8 g, .int .u32 N, .slice A V.length c], .slice B drop.length d, .slice D add.length e] w fun x w' => ∃ v', x = .returned (.tuple #[.agg #[.int .u8 (nxG g N V drop add), .int .u32 (nxN g N V drop add), v'], .int .i64 (nxC g N V drop add)]) ∧ w'.ownsRow w.heap.size 48 2 v' (nxV g N V drop add).length (cellsV (nxV g N V drop add)) ∧ Below w.heap.size w w' := by
  have hCC : Hid (nxC g N V drop add = 2) := Lib.hid (by unfold nxC; rw [if_pos hok, if_pos hN])
  have K1 : Hid (∀ W, Below w.heap.size w W → Calls Tryd.prog 14 #[.agg #[.int .u8 g, .int .u32 N, .slice A V.length c]] W fun e w' => e = .returned (.bool true) ∧ Below W.heap.size W w') := Lib.hid (fun W hw => by
    have := rightO1 g N A V c W (hr.below (C := w.heap.size) hw (Nat.le_refl _) hw.size) hc hm
    rw [hok] at this
    exact this)
  have b0 : Hid (Below w.heap.size w ((w.alloc (.cells #[.int .u8 g, .int .u32 N, .slice A V.length c] 30)).alloc (.cells #[.int .u8 0, .int .u32 0, .slice none 0 0] 30))) := Lib.hid (two_below _ _ _ _ _)
  have r0 : Hid (((w.alloc (.cells #[.int .u8 g, .int .u32 N, .slice A V.length c] 30)).alloc (.cells #[.int .u8 0, .int .u32 0, .slice none 0 0] 30)).heap[w.heap.size]? = some (.cells #[.int .u8 g, .int .u32 N, .slice A V.length c] 30 (0, 0))) := Lib.hid (rowA _ _ _ _ _)
  have r1 : Hid (((w.alloc (.cells #[.int .u8 g, .int .u32 N, .slice A V.length c] 30)).alloc (.cells #[.int .u8 0, .int .u32 0, .slice none 0 0] 30)).heap[w.heap.size + 1]? = some (.cells #[.int .u8 0, .int .u32 0, .slice none 0 0] 30 (0, 0))) := Lib.hid (rowB _ _ _ _ _)
  have l1 : Hid (w.heap.size + 1 < ((w.alloc (.cells #[.int .u8 g, .int .u32 N, .slice A V.length c] 30)).alloc (.cells #[.int .u8 0, .int .u32 0, .slice none 0 0] 30)).heap.size) := Lib.hid (by simp)
  have hNb : (N == 4294967295) = true := by rw [beq_iff_eq]; exact hN
  clear hr hs ht hok hN
  unfold maxLen at hm
  go_enter Tryd.func8, Tryd.ntmps8
  go_wp2_with (go_at_call 14; refine (K1.out _ b0.out).mono ?_; rintro e1 w1 ⟨rfl, b1⟩
               have B1 := Lib.hid (b0.out.trans (b1.mono b0.out.size))
               have R1a := Lib.hid ((b1.block _ (Nat.lt_of_succ_lt l1.out)).trans r0.out)
               have R2a := Lib.hid ((b1.block _ l1.out).trans r1.out)
               have L1 : Hid (w.heap.size + 1 < w1.heap.size) := Lib.hid (Nat.lt_of_lt_of_le l1.out b1.size)
               have e0 : w1.cell? ⟨w.heap.size, 0, none⟩ = some (.int .u8 g) := (cell_of_row _ _ 0 _ _ _ R1a.out).trans rfl
               have e1 : w1.cell? ⟨w.heap.size, 1, none⟩ = some (.int .u32 N) := (cell_of_row _ _ 1 _ _ _ R1a.out).trans rfl
               have e2 : w1.cell? ⟨w.heap.size, 2, none⟩ = some (.slice A V.length c) := (cell_of_row _ _ 2 _ _ _ R1a.out).trans rfl
               clear b1 b0 r0 r1 l1
               have q0 : w1.cell? ⟨w.heap.size + 1, 0, none⟩ = some (.int .u8 0) := (cell_of_row _ _ 0 _ _ _ R2a.out).trans rfl
               have q1 : w1.cell? ⟨w.heap.size + 1, 1, none⟩ = some (.int .u32 0) := (cell_of_row _ _ 1 _ _ _ R2a.out).trans rfl
               have q2 : w1.cell? ⟨w.heap.size + 1, 2, none⟩ = some (.slice none 0 0) := (cell_of_row _ _ 2 _ _ _ R2a.out).trans rfl
               have p0 := frz_row 0 R2a.out
               have p1 := frz_row 1 R2a.out
               have p2 := frz_row 2 R2a.out)
  have ls : w.heap.size + 1 < w1.heap.size := L1.out
  have hG : nxG g N V drop add = 0 := by unfold nxG; rw [hCC.out]; rfl
  have hN9 : nxN g N V drop add = 0 := by unfold nxN; rw [hCC.out]; rfl
  have hV9 : nxV g N V drop add = [] := by unfold nxV; rw [hCC.out]; rfl
  refine bodyPost_ret (v := .tuple #[.agg #[.int .u8 0, .int .u32 0, .slice none 0 0], .int .i64 2]) (by simp [results, Tryd.results8, go_sem]; try go_simp) rfl ⟨_, by rw [hG, hN9, hCC.out], ?_, ?_⟩
  · rw [hV9]
    exact ⟨rfl, .inl ⟨rfl, rfl⟩⟩
  · exact ((B1.out.setCell (by simp) _).setCell (by simp) _).setCell (by simp) _

set_option maxRecDepth 100000 in
set_option maxHeartbeats 2000000 in
theorem nextO_block (g N : Int) (A B D : Option Addr) (V drop add : List P2) (c d e : Nat) (w : World) (hr : RowsV w w.heap.size A V) (hs : RowsV w w.heap.size B drop) (ht : RowsV w w.heap.size D add) (hc : V.length ≤ c) (hm : c ≤ maxLen) (hd : drop.length ≤ d) (hn : d ≤ maxLen) (he : add.length ≤ e) (ho : e ≤ maxLen) (hV : V.length ≤ 1000) (hB : drop.length ≤ 1000) (hA : add.length ≤ 1000) (hok : vR g N V = true) (hN : ¬ N = 4294967295) (hN0 : 0 ≤ N) (hN2 : N < 4294967296) (hq : quo V (nxM V drop add) = false) :
    Calls Tryd.prog 8 #[.agg #[.int .u8 g, .int .u32 N, .slice A V.length c], .slice B drop.length d, .slice D add.length e] w fun x w' => ∃ v', x = .returned (.tuple #[.agg #[.int .u8 (nxG g N V drop add), .int .u32 (nxN g N V drop add), v'], .int .i64 (nxC g N V drop add)]) ∧ w'.ownsRow w.heap.size 48 2 v' (nxV g N V drop add).length (cellsV (nxV g N V drop add)) ∧ Below w.heap.size w w' := by
  have K1 : Hid (∀ W, Below w.heap.size w W → Calls Tryd.prog 14 #[.agg #[.int .u8 g, .int .u32 N, .slice A V.length c]] W fun e w' => e = .returned (.bool true) ∧ Below W.heap.size W w') := Lib.hid (fun W hw => by
    have := rightO1 g N A V c W (hr.below (C := w.heap.size) hw (Nat.le_refl _) hw.size) hc hm
    rw [hok] at this
    exact this)
  have b0 : Hid (Below w.heap.size w ((w.alloc (.cells #[.int .u8 g, .int .u32 N, .slice A V.length c] 30)).alloc (.cells #[.int .u8 0, .int .u32 0, .slice none 0 0] 30))) := Lib.hid (two_below _ _ _ _ _)
  have r0 : Hid (((w.alloc (.cells #[.int .u8 g, .int .u32 N, .slice A V.length c] 30)).alloc (.cells #[.int .u8 0, .int .u32 0, .slice none 0 0] 30)).heap[w.heap.size]? = some (.cells #[.int .u8 g, .int .u32 N, .slice A V.length c] 30 (0, 0))) := Lib.hid (rowA _ _ _ _ _)
  have r1 : Hid (((w.alloc (.cells #[.int .u8 g, .int .u32 N, .slice A V.length c] 30)).alloc (.cells #[.int .u8 0, .int .u32 0, .slice none 0 0] 30)).heap[w.heap.size + 1]? = some (.cells #[.int .u8 0, .int .u32 0, .slice none 0 0] 30 (0, 0))) := Lib.hid (rowB _ _ _ _ _)
  have l1 : Hid (w.heap.size + 1 < ((w.alloc (.cells #[.int .u8 g, .int .u32 N, .slice A V.length c] 30)).alloc (.cells #[.int .u8 0, .int .u32 0, .slice none 0 0] 30)).heap.size) := Lib.hid (by simp)
  have HV := Lib.hid hr
  have HT := Lib.hid ht
  have hVO : Hid (okV V = true) := Lib.hid (by
    unfold vR at hok
    simp only [Bool.and_eq_true] at hok
    exact hok.2)
  have K2 : Hid (∀ W, Below w.heap.size w W → w.heap.size + 1 < W.heap.size → Calls Tryd.prog 22 #[.agg #[.int .u8 g, .int .u32 N, .slice A V.length c], .slice B drop.length d] W fun e w' => ∃ (A2 : Option Addr) (c2 : Nat), e = .returned (.slice A2 (kept V drop V.length).length c2) ∧ w'.ownsRow (w.heap.size + 2) 48 2 (.slice A2 (kept V drop V.length).length c2) (kept V drop V.length).length (cellsV (kept V drop V.length)) ∧ Below W.heap.size W w') := Lib.hid (fun W hw hl => (withoutO g N A B V drop c d W (hr.below (C := w.heap.size) hw (Nat.le_refl _) hw.size) (hs.below (C := w.heap.size) hw (Nat.le_refl _) hw.size) hc hm hd hn (by omega) (by omega)).mono (fun e w' h => by
    obtain ⟨v, rfl, hown, hb⟩ := h
    obtain ⟨A2, c2, rfl, -, -, -⟩ := rowsV_of_own hown
    exact ⟨A2, c2, rfl, own_mono hown (by omega), hb⟩))
  have K3 : Hid (∀ W (A2 : Option Addr) (c2 : Nat), Below w.heap.size w W → w.heap.size + 1 < W.heap.size → W.ownsRow (w.heap.size + 2) 48 2 (.slice A2 (kept V drop V.length).length c2) (kept V drop V.length).length (cellsV (kept V drop V.length)) → Calls Tryd.prog 21 #[.slice A2 (kept V drop V.length).length c2, .slice D add.length e] W fun x w' => ∃ (A3 : Option Addr) (c3 : Nat), x = .returned (.slice A3 (nxM V drop add).length c3) ∧ w'.ownsRow (w.heap.size + 2) 48 2 (.slice A3 (nxM V drop add).length c3) (nxM V drop add).length (cellsV (nxM V drop add)) ∧ Below (w.heap.size + 2) W w') := Lib.hid (fun W A2 c2 hw hl hown =>
    withO (w.heap.size + 2) A2 D (kept V drop V.length) add c2 e W hown (by omega) (ht.below (C := w.heap.size) hw (Nat.le_refl _) (by omega)) he ho (Nat.le_trans (kept_len _ _ _) (by omega)) hA (kept_ok hVO.out _))
  have K4 : Hid (∀ W (A3 : Option Addr) (c3 : Nat), Below w.heap.size w W → W.ownsRow (w.heap.size + 2) 48 2 (.slice A3 (nxM V drop add).length c3) (nxM V drop add).length (cellsV (nxM V drop add)) → Calls Tryd.prog 15 #[.agg #[.int .u8 g, .int .u32 N, .slice A V.length c], .slice A3 (nxM V drop add).length c3] W fun x w' => x = .returned (.bool (quo V (nxM V drop add))) ∧ Below W.heap.size W w') := Lib.hid (fun W A3 c3 hw hown => by
    obtain ⟨A4, c4, ev, RM, lm, cm⟩ := rowsV_of_own hown
    cases ev
    refine quorumO' g N A A3 V (nxM V drop add) c c3 W (hr.below (C := w.heap.size) hw (Nat.le_refl _) hw.size) RM hc hm lm cm (by omega) ?_
    have h1 := addAll_len (kept V drop V.length) add
    have h2 := kept_len V drop V.length
    unfold nxM
    omega)
  have hNb : (N == 4294967295) = false := by rw [beq_eq_false_iff_ne]; exact hN
  have hC : Hid (nxC g N V drop add = if quo V (nxM V drop add) = true then (if 8 < (nxM V drop add).length then 11 else 0) else 17) := Lib.hid (by unfold nxC; rw [if_pos hok, if_neg hN])
  have hGd : Hid (nxG g N V drop add = if nxC g N V drop add = 0 then g else 0) := Lib.hid rfl
  have hNd : Hid (nxN g N V drop add = if nxC g N V drop add = 0 then N + 1 else 0) := Lib.hid rfl
  have hVd : Hid (nxV g N V drop add = if nxC g N V drop add = 0 then nxM V drop add else []) := Lib.hid rfl
  have hN1 : IntKind.u32.wrap (N + 1) = N + 1 := IntWalk.u32_in _ (by
    unfold vR at hok
    simp only [Bool.and_eq_true, decide_eq_true_eq] at hok
    have := hok.1.1.1.2
    omega)
  clear hr hs ht hok hN
  unfold maxLen at hm
  generalize nxM V drop add = M at *
  generalize nxG g N V drop add = zG at *
  generalize nxN g N V drop add = zN at *
  generalize nxV g N V drop add = zV at *
  generalize nxC g N V drop add = zC at *
  have hZ : Hid (zG = 0 ∧ zN = 0 ∧ zC = 17 ∧ zV = []) := Lib.hid (by
    have hz : zC = 17 := by rw [hC.out]; rw [hq]; rfl
    exact ⟨by rw [hGd.out, hz]; rfl, by rw [hNd.out, hz]; rfl, hz, by rw [hVd.out, hz]; rfl⟩)
  go_enter Tryd.func8, Tryd.ntmps8
  go_wp2_with (first
    | (go_at_call 14; refine (K1.out _ b0.out).mono ?_; rintro e1 w1 ⟨rfl, b1⟩
       have B1 := Lib.hid (b0.out.trans (b1.mono b0.out.size))
       have R1a := Lib.hid ((b1.block _ (Nat.lt_of_succ_lt l1.out)).trans r0.out)
       have R2a := Lib.hid ((b1.block _ l1.out).trans r1.out)
       have L1 : Hid (w.heap.size + 1 < w1.heap.size) := Lib.hid (Nat.lt_of_lt_of_le l1.out b1.size)
       have e0 : w1.cell? ⟨w.heap.size, 0, none⟩ = some (.int .u8 g) := (cell_of_row _ _ 0 _ _ _ R1a.out).trans rfl
       have e1 : w1.cell? ⟨w.heap.size, 1, none⟩ = some (.int .u32 N) := (cell_of_row _ _ 1 _ _ _ R1a.out).trans rfl
       have e2 : w1.cell? ⟨w.heap.size, 2, none⟩ = some (.slice A V.length c) := (cell_of_row _ _ 2 _ _ _ R1a.out).trans rfl
       clear b1 b0 r0 r1 l1)
    | (go_at_call 22; refine (K2.out _ B1.out L1.out).mono ?_; rintro x2 w2 ⟨A2, c2, rfl, O2', b2⟩
       have O2 := Lib.hid O2'
       have B2 := Lib.hid (B1.out.trans (b2.mono B1.out.size))
       have R1b := Lib.hid ((b2.block _ (Nat.lt_of_succ_lt L1.out)).trans R1a.out)
       have R2b := Lib.hid ((b2.block _ L1.out).trans R2a.out)
       have L2 : Hid (w.heap.size + 1 < w2.heap.size) := Lib.hid (Nat.lt_of_lt_of_le L1.out b2.size)
       clear b2 O2' e0 e1 e2)
    | (go_at_call 21; refine (K3.out _ A2 c2 B2.out L2.out O2.out).mono ?_; rintro x3 w3 ⟨A3, c3, rfl, O3', b3⟩
       have O3 := Lib.hid O3'
       have B3 := Lib.hid (B2.out.trans (b3.mono (by omega)))
       have R1c := Lib.hid ((b3.block _ (by omega)).trans R1b.out)
       have R2c := Lib.hid ((b3.block _ (by omega)).trans R2b.out)
       have L3 : Hid (w.heap.size + 1 < w3.heap.size) := Lib.hid (Nat.lt_of_lt_of_le L2.out b3.size)
       have e0 : w3.cell? ⟨w.heap.size, 0, none⟩ = some (.int .u8 g) := (cell_of_row _ _ 0 _ _ _ R1c.out).trans rfl
       have e1 : w3.cell? ⟨w.heap.size, 1, none⟩ = some (.int .u32 N) := (cell_of_row _ _ 1 _ _ _ R1c.out).trans rfl
       have e2 : w3.cell? ⟨w.heap.size, 2, none⟩ = some (.slice A V.length c) := (cell_of_row _ _ 2 _ _ _ R1c.out).trans rfl
       clear b3 O3')
    | (go_at_call 15; refine (K4.out _ A3 c3 B3.out O3.out).mono ?_; rw [hq]; rintro x4 w4 ⟨rfl, b4⟩
       have O4 := Lib.hid (own_kept O3.out b4)
       have B4 := Lib.hid (B3.out.trans (b4.mono B3.out.size))
       have R1d := Lib.hid ((b4.block _ (Nat.lt_of_succ_lt L3.out)).trans R1c.out)
       have R2d := Lib.hid ((b4.block _ L3.out).trans R2c.out)
       have L4 : Hid (w.heap.size + 1 < w4.heap.size) := Lib.hid (Nat.lt_of_lt_of_le L3.out b4.size)
       clear b4 e0 e1 e2
       have e0 : w4.cell? ⟨w.heap.size, 0, none⟩ = some (.int .u8 g) := (cell_of_row _ _ 0 _ _ _ R1d.out).trans rfl
       have e1 : w4.cell? ⟨w.heap.size, 1, none⟩ = some (.int .u32 N) := (cell_of_row _ _ 1 _ _ _ R1d.out).trans rfl
       have e2 : w4.cell? ⟨w.heap.size, 2, none⟩ = some (.slice A V.length c) := (cell_of_row _ _ 2 _ _ _ R1d.out).trans rfl
       have q0 : w4.cell? ⟨w.heap.size + 1, 0, none⟩ = some (.int .u8 0) := (cell_of_row _ _ 0 _ _ _ R2d.out).trans rfl
       have q1 : w4.cell? ⟨w.heap.size + 1, 1, none⟩ = some (.int .u32 0) := (cell_of_row _ _ 1 _ _ _ R2d.out).trans rfl
       have q2 : w4.cell? ⟨w.heap.size + 1, 2, none⟩ = some (.slice none 0 0) := (cell_of_row _ _ 2 _ _ _ R2d.out).trans rfl
       have p0 := frz_row 0 R2d.out
       have p1 := frz_row 1 R2d.out
       have p2 := frz_row 2 R2d.out))
  have ls : w.heap.size + 1 < w4.heap.size := L4.out
  refine bodyPost_ret (v := .tuple #[.agg #[.int .u8 0, .int .u32 0, .slice none 0 0], .int .i64 17]) (by simp [results, Tryd.results8, go_sem]; try go_simp) rfl ⟨_, by rw [hZ.out.1, hZ.out.2.1, hZ.out.2.2.1], ?_, ?_⟩
  · rw [hZ.out.2.2.2]
    exact ⟨rfl, .inl ⟨rfl, rfl⟩⟩
  · exact ((B4.out.setCell (by simp) _).setCell (by simp) _).setCell (by simp) _

set_option maxRecDepth 100000 in
set_option maxHeartbeats 2000000 in
theorem nextO_full (g N : Int) (A B D : Option Addr) (V drop add : List P2) (c d e : Nat) (w : World) (hr : RowsV w w.heap.size A V) (hs : RowsV w w.heap.size B drop) (ht : RowsV w w.heap.size D add) (hc : V.length ≤ c) (hm : c ≤ maxLen) (hd : drop.length ≤ d) (hn : d ≤ maxLen) (he : add.length ≤ e) (ho : e ≤ maxLen) (hV : V.length ≤ 1000) (hB : drop.length ≤ 1000) (hA : add.length ≤ 1000) (hok : vR g N V = true) (hN : ¬ N = 4294967295) (hN0 : 0 ≤ N) (hN2 : N < 4294967296) (hq : quo V (nxM V drop add) = true) (h8 : 8 < (nxM V drop add).length) :
    Calls Tryd.prog 8 #[.agg #[.int .u8 g, .int .u32 N, .slice A V.length c], .slice B drop.length d, .slice D add.length e] w fun x w' => ∃ v', x = .returned (.tuple #[.agg #[.int .u8 (nxG g N V drop add), .int .u32 (nxN g N V drop add), v'], .int .i64 (nxC g N V drop add)]) ∧ w'.ownsRow w.heap.size 48 2 v' (nxV g N V drop add).length (cellsV (nxV g N V drop add)) ∧ Below w.heap.size w w' := by
  have K1 : Hid (∀ W, Below w.heap.size w W → Calls Tryd.prog 14 #[.agg #[.int .u8 g, .int .u32 N, .slice A V.length c]] W fun e w' => e = .returned (.bool true) ∧ Below W.heap.size W w') := Lib.hid (fun W hw => by
    have := rightO1 g N A V c W (hr.below (C := w.heap.size) hw (Nat.le_refl _) hw.size) hc hm
    rw [hok] at this
    exact this)
  have b0 : Hid (Below w.heap.size w ((w.alloc (.cells #[.int .u8 g, .int .u32 N, .slice A V.length c] 30)).alloc (.cells #[.int .u8 0, .int .u32 0, .slice none 0 0] 30))) := Lib.hid (two_below _ _ _ _ _)
  have r0 : Hid (((w.alloc (.cells #[.int .u8 g, .int .u32 N, .slice A V.length c] 30)).alloc (.cells #[.int .u8 0, .int .u32 0, .slice none 0 0] 30)).heap[w.heap.size]? = some (.cells #[.int .u8 g, .int .u32 N, .slice A V.length c] 30 (0, 0))) := Lib.hid (rowA _ _ _ _ _)
  have r1 : Hid (((w.alloc (.cells #[.int .u8 g, .int .u32 N, .slice A V.length c] 30)).alloc (.cells #[.int .u8 0, .int .u32 0, .slice none 0 0] 30)).heap[w.heap.size + 1]? = some (.cells #[.int .u8 0, .int .u32 0, .slice none 0 0] 30 (0, 0))) := Lib.hid (rowB _ _ _ _ _)
  have l1 : Hid (w.heap.size + 1 < ((w.alloc (.cells #[.int .u8 g, .int .u32 N, .slice A V.length c] 30)).alloc (.cells #[.int .u8 0, .int .u32 0, .slice none 0 0] 30)).heap.size) := Lib.hid (by simp)
  have HV := Lib.hid hr
  have HT := Lib.hid ht
  have hVO : Hid (okV V = true) := Lib.hid (by
    unfold vR at hok
    simp only [Bool.and_eq_true] at hok
    exact hok.2)
  have K2 : Hid (∀ W, Below w.heap.size w W → w.heap.size + 1 < W.heap.size → Calls Tryd.prog 22 #[.agg #[.int .u8 g, .int .u32 N, .slice A V.length c], .slice B drop.length d] W fun e w' => ∃ (A2 : Option Addr) (c2 : Nat), e = .returned (.slice A2 (kept V drop V.length).length c2) ∧ w'.ownsRow (w.heap.size + 2) 48 2 (.slice A2 (kept V drop V.length).length c2) (kept V drop V.length).length (cellsV (kept V drop V.length)) ∧ Below W.heap.size W w') := Lib.hid (fun W hw hl => (withoutO g N A B V drop c d W (hr.below (C := w.heap.size) hw (Nat.le_refl _) hw.size) (hs.below (C := w.heap.size) hw (Nat.le_refl _) hw.size) hc hm hd hn (by omega) (by omega)).mono (fun e w' h => by
    obtain ⟨v, rfl, hown, hb⟩ := h
    obtain ⟨A2, c2, rfl, -, -, -⟩ := rowsV_of_own hown
    exact ⟨A2, c2, rfl, own_mono hown (by omega), hb⟩))
  have K3 : Hid (∀ W (A2 : Option Addr) (c2 : Nat), Below w.heap.size w W → w.heap.size + 1 < W.heap.size → W.ownsRow (w.heap.size + 2) 48 2 (.slice A2 (kept V drop V.length).length c2) (kept V drop V.length).length (cellsV (kept V drop V.length)) → Calls Tryd.prog 21 #[.slice A2 (kept V drop V.length).length c2, .slice D add.length e] W fun x w' => ∃ (A3 : Option Addr) (c3 : Nat), x = .returned (.slice A3 (nxM V drop add).length c3) ∧ w'.ownsRow (w.heap.size + 2) 48 2 (.slice A3 (nxM V drop add).length c3) (nxM V drop add).length (cellsV (nxM V drop add)) ∧ Below (w.heap.size + 2) W w') := Lib.hid (fun W A2 c2 hw hl hown =>
    withO (w.heap.size + 2) A2 D (kept V drop V.length) add c2 e W hown (by omega) (ht.below (C := w.heap.size) hw (Nat.le_refl _) (by omega)) he ho (Nat.le_trans (kept_len _ _ _) (by omega)) hA (kept_ok hVO.out _))
  have K4 : Hid (∀ W (A3 : Option Addr) (c3 : Nat), Below w.heap.size w W → W.ownsRow (w.heap.size + 2) 48 2 (.slice A3 (nxM V drop add).length c3) (nxM V drop add).length (cellsV (nxM V drop add)) → Calls Tryd.prog 15 #[.agg #[.int .u8 g, .int .u32 N, .slice A V.length c], .slice A3 (nxM V drop add).length c3] W fun x w' => x = .returned (.bool (quo V (nxM V drop add))) ∧ Below W.heap.size W w') := Lib.hid (fun W A3 c3 hw hown => by
    obtain ⟨A4, c4, ev, RM, lm, cm⟩ := rowsV_of_own hown
    cases ev
    refine quorumO' g N A A3 V (nxM V drop add) c c3 W (hr.below (C := w.heap.size) hw (Nat.le_refl _) hw.size) RM hc hm lm cm (by omega) ?_
    have h1 := addAll_len (kept V drop V.length) add
    have h2 := kept_len V drop V.length
    unfold nxM
    omega)
  have hNb : (N == 4294967295) = false := by rw [beq_eq_false_iff_ne]; exact hN
  have hC : Hid (nxC g N V drop add = if quo V (nxM V drop add) = true then (if 8 < (nxM V drop add).length then 11 else 0) else 17) := Lib.hid (by unfold nxC; rw [if_pos hok, if_neg hN])
  have hGd : Hid (nxG g N V drop add = if nxC g N V drop add = 0 then g else 0) := Lib.hid rfl
  have hNd : Hid (nxN g N V drop add = if nxC g N V drop add = 0 then N + 1 else 0) := Lib.hid rfl
  have hVd : Hid (nxV g N V drop add = if nxC g N V drop add = 0 then nxM V drop add else []) := Lib.hid rfl
  have hN1 : IntKind.u32.wrap (N + 1) = N + 1 := IntWalk.u32_in _ (by
    unfold vR at hok
    simp only [Bool.and_eq_true, decide_eq_true_eq] at hok
    have := hok.1.1.1.2
    omega)
  clear hr hs ht hok hN
  unfold maxLen at hm
  generalize nxM V drop add = M at *
  generalize nxG g N V drop add = zG at *
  generalize nxN g N V drop add = zN at *
  generalize nxV g N V drop add = zV at *
  generalize nxC g N V drop add = zC at *
  have hZ : Hid (zG = 0 ∧ zN = 0 ∧ zC = 11 ∧ zV = []) := Lib.hid (by
    have hz : zC = 11 := by rw [hC.out]; rw [hq, if_pos rfl, if_pos h8]
    exact ⟨by rw [hGd.out, hz]; rfl, by rw [hNd.out, hz]; rfl, hz, by rw [hVd.out, hz]; rfl⟩)
  have h8i : 8 < (M.length : Int) := by omega
  go_enter Tryd.func8, Tryd.ntmps8
  go_wp2_with (first
    | (go_at_call 14; refine (K1.out _ b0.out).mono ?_; rintro e1 w1 ⟨rfl, b1⟩
       have B1 := Lib.hid (b0.out.trans (b1.mono b0.out.size))
       have R1a := Lib.hid ((b1.block _ (Nat.lt_of_succ_lt l1.out)).trans r0.out)
       have R2a := Lib.hid ((b1.block _ l1.out).trans r1.out)
       have L1 : Hid (w.heap.size + 1 < w1.heap.size) := Lib.hid (Nat.lt_of_lt_of_le l1.out b1.size)
       have e0 : w1.cell? ⟨w.heap.size, 0, none⟩ = some (.int .u8 g) := (cell_of_row _ _ 0 _ _ _ R1a.out).trans rfl
       have e1 : w1.cell? ⟨w.heap.size, 1, none⟩ = some (.int .u32 N) := (cell_of_row _ _ 1 _ _ _ R1a.out).trans rfl
       have e2 : w1.cell? ⟨w.heap.size, 2, none⟩ = some (.slice A V.length c) := (cell_of_row _ _ 2 _ _ _ R1a.out).trans rfl
       clear b1 b0 r0 r1 l1)
    | (go_at_call 22; refine (K2.out _ B1.out L1.out).mono ?_; rintro x2 w2 ⟨A2, c2, rfl, O2', b2⟩
       have O2 := Lib.hid O2'
       have B2 := Lib.hid (B1.out.trans (b2.mono B1.out.size))
       have R1b := Lib.hid ((b2.block _ (Nat.lt_of_succ_lt L1.out)).trans R1a.out)
       have R2b := Lib.hid ((b2.block _ L1.out).trans R2a.out)
       have L2 : Hid (w.heap.size + 1 < w2.heap.size) := Lib.hid (Nat.lt_of_lt_of_le L1.out b2.size)
       clear b2 O2' e0 e1 e2)
    | (go_at_call 21; refine (K3.out _ A2 c2 B2.out L2.out O2.out).mono ?_; rintro x3 w3 ⟨A3, c3, rfl, O3', b3⟩
       have O3 := Lib.hid O3'
       have B3 := Lib.hid (B2.out.trans (b3.mono (by omega)))
       have R1c := Lib.hid ((b3.block _ (by omega)).trans R1b.out)
       have R2c := Lib.hid ((b3.block _ (by omega)).trans R2b.out)
       have L3 : Hid (w.heap.size + 1 < w3.heap.size) := Lib.hid (Nat.lt_of_lt_of_le L2.out b3.size)
       have e0 : w3.cell? ⟨w.heap.size, 0, none⟩ = some (.int .u8 g) := (cell_of_row _ _ 0 _ _ _ R1c.out).trans rfl
       have e1 : w3.cell? ⟨w.heap.size, 1, none⟩ = some (.int .u32 N) := (cell_of_row _ _ 1 _ _ _ R1c.out).trans rfl
       have e2 : w3.cell? ⟨w.heap.size, 2, none⟩ = some (.slice A V.length c) := (cell_of_row _ _ 2 _ _ _ R1c.out).trans rfl
       clear b3 O3')
    | (go_at_call 15; refine (K4.out _ A3 c3 B3.out O3.out).mono ?_; rw [hq]; rintro x4 w4 ⟨rfl, b4⟩
       have O4 := Lib.hid (own_kept O3.out b4)
       have B4 := Lib.hid (B3.out.trans (b4.mono B3.out.size))
       have R1d := Lib.hid ((b4.block _ (Nat.lt_of_succ_lt L3.out)).trans R1c.out)
       have R2d := Lib.hid ((b4.block _ L3.out).trans R2c.out)
       have L4 : Hid (w.heap.size + 1 < w4.heap.size) := Lib.hid (Nat.lt_of_lt_of_le L3.out b4.size)
       clear b4 e0 e1 e2
       have e0 : w4.cell? ⟨w.heap.size, 0, none⟩ = some (.int .u8 g) := (cell_of_row _ _ 0 _ _ _ R1d.out).trans rfl
       have e1 : w4.cell? ⟨w.heap.size, 1, none⟩ = some (.int .u32 N) := (cell_of_row _ _ 1 _ _ _ R1d.out).trans rfl
       have e2 : w4.cell? ⟨w.heap.size, 2, none⟩ = some (.slice A V.length c) := (cell_of_row _ _ 2 _ _ _ R1d.out).trans rfl
       have q0 : w4.cell? ⟨w.heap.size + 1, 0, none⟩ = some (.int .u8 0) := (cell_of_row _ _ 0 _ _ _ R2d.out).trans rfl
       have q1 : w4.cell? ⟨w.heap.size + 1, 1, none⟩ = some (.int .u32 0) := (cell_of_row _ _ 1 _ _ _ R2d.out).trans rfl
       have q2 : w4.cell? ⟨w.heap.size + 1, 2, none⟩ = some (.slice none 0 0) := (cell_of_row _ _ 2 _ _ _ R2d.out).trans rfl
       have p0 := frz_row 0 R2d.out
       have p1 := frz_row 1 R2d.out
       have p2 := frz_row 2 R2d.out))
  have ls : w.heap.size + 1 < w4.heap.size := L4.out
  refine bodyPost_ret (v := .tuple #[.agg #[.int .u8 0, .int .u32 0, .slice none 0 0], .int .i64 11]) (by simp [results, Tryd.results8, go_sem]; try go_simp) rfl ⟨_, by rw [hZ.out.1, hZ.out.2.1, hZ.out.2.2.1], ?_, ?_⟩
  · rw [hZ.out.2.2.2]
    exact ⟨rfl, .inl ⟨rfl, rfl⟩⟩
  · exact ((B4.out.setCell (by simp) _).setCell (by simp) _).setCell (by simp) _

set_option maxRecDepth 100000 in
set_option maxHeartbeats 2000000 in
theorem nextO_ok (g N : Int) (A B D : Option Addr) (V drop add : List P2) (c d e : Nat) (w : World) (hr : RowsV w w.heap.size A V) (hs : RowsV w w.heap.size B drop) (ht : RowsV w w.heap.size D add) (hc : V.length ≤ c) (hm : c ≤ maxLen) (hd : drop.length ≤ d) (hn : d ≤ maxLen) (he : add.length ≤ e) (ho : e ≤ maxLen) (hV : V.length ≤ 1000) (hB : drop.length ≤ 1000) (hA : add.length ≤ 1000) (hok : vR g N V = true) (hN : ¬ N = 4294967295) (hN0 : 0 ≤ N) (hN2 : N < 4294967296) (hq : quo V (nxM V drop add) = true) (h8 : ¬ 8 < (nxM V drop add).length) :
    Calls Tryd.prog 8 #[.agg #[.int .u8 g, .int .u32 N, .slice A V.length c], .slice B drop.length d, .slice D add.length e] w fun x w' => ∃ v', x = .returned (.tuple #[.agg #[.int .u8 (nxG g N V drop add), .int .u32 (nxN g N V drop add), v'], .int .i64 (nxC g N V drop add)]) ∧ w'.ownsRow w.heap.size 48 2 v' (nxV g N V drop add).length (cellsV (nxV g N V drop add)) ∧ Below w.heap.size w w' := by
  have K1 : Hid (∀ W, Below w.heap.size w W → Calls Tryd.prog 14 #[.agg #[.int .u8 g, .int .u32 N, .slice A V.length c]] W fun e w' => e = .returned (.bool true) ∧ Below W.heap.size W w') := Lib.hid (fun W hw => by
    have := rightO1 g N A V c W (hr.below (C := w.heap.size) hw (Nat.le_refl _) hw.size) hc hm
    rw [hok] at this
    exact this)
  have b0 : Hid (Below w.heap.size w ((w.alloc (.cells #[.int .u8 g, .int .u32 N, .slice A V.length c] 30)).alloc (.cells #[.int .u8 0, .int .u32 0, .slice none 0 0] 30))) := Lib.hid (two_below _ _ _ _ _)
  have r0 : Hid (((w.alloc (.cells #[.int .u8 g, .int .u32 N, .slice A V.length c] 30)).alloc (.cells #[.int .u8 0, .int .u32 0, .slice none 0 0] 30)).heap[w.heap.size]? = some (.cells #[.int .u8 g, .int .u32 N, .slice A V.length c] 30 (0, 0))) := Lib.hid (rowA _ _ _ _ _)
  have r1 : Hid (((w.alloc (.cells #[.int .u8 g, .int .u32 N, .slice A V.length c] 30)).alloc (.cells #[.int .u8 0, .int .u32 0, .slice none 0 0] 30)).heap[w.heap.size + 1]? = some (.cells #[.int .u8 0, .int .u32 0, .slice none 0 0] 30 (0, 0))) := Lib.hid (rowB _ _ _ _ _)
  have l1 : Hid (w.heap.size + 1 < ((w.alloc (.cells #[.int .u8 g, .int .u32 N, .slice A V.length c] 30)).alloc (.cells #[.int .u8 0, .int .u32 0, .slice none 0 0] 30)).heap.size) := Lib.hid (by simp)
  have HV := Lib.hid hr
  have HT := Lib.hid ht
  have hVO : Hid (okV V = true) := Lib.hid (by
    unfold vR at hok
    simp only [Bool.and_eq_true] at hok
    exact hok.2)
  have K2 : Hid (∀ W, Below w.heap.size w W → w.heap.size + 1 < W.heap.size → Calls Tryd.prog 22 #[.agg #[.int .u8 g, .int .u32 N, .slice A V.length c], .slice B drop.length d] W fun e w' => ∃ (A2 : Option Addr) (c2 : Nat), e = .returned (.slice A2 (kept V drop V.length).length c2) ∧ w'.ownsRow (w.heap.size + 2) 48 2 (.slice A2 (kept V drop V.length).length c2) (kept V drop V.length).length (cellsV (kept V drop V.length)) ∧ Below W.heap.size W w') := Lib.hid (fun W hw hl => (withoutO g N A B V drop c d W (hr.below (C := w.heap.size) hw (Nat.le_refl _) hw.size) (hs.below (C := w.heap.size) hw (Nat.le_refl _) hw.size) hc hm hd hn (by omega) (by omega)).mono (fun e w' h => by
    obtain ⟨v, rfl, hown, hb⟩ := h
    obtain ⟨A2, c2, rfl, -, -, -⟩ := rowsV_of_own hown
    exact ⟨A2, c2, rfl, own_mono hown (by omega), hb⟩))
  have K3 : Hid (∀ W (A2 : Option Addr) (c2 : Nat), Below w.heap.size w W → w.heap.size + 1 < W.heap.size → W.ownsRow (w.heap.size + 2) 48 2 (.slice A2 (kept V drop V.length).length c2) (kept V drop V.length).length (cellsV (kept V drop V.length)) → Calls Tryd.prog 21 #[.slice A2 (kept V drop V.length).length c2, .slice D add.length e] W fun x w' => ∃ (A3 : Option Addr) (c3 : Nat), x = .returned (.slice A3 (nxM V drop add).length c3) ∧ w'.ownsRow (w.heap.size + 2) 48 2 (.slice A3 (nxM V drop add).length c3) (nxM V drop add).length (cellsV (nxM V drop add)) ∧ Below (w.heap.size + 2) W w') := Lib.hid (fun W A2 c2 hw hl hown =>
    withO (w.heap.size + 2) A2 D (kept V drop V.length) add c2 e W hown (by omega) (ht.below (C := w.heap.size) hw (Nat.le_refl _) (by omega)) he ho (Nat.le_trans (kept_len _ _ _) (by omega)) hA (kept_ok hVO.out _))
  have K4 : Hid (∀ W (A3 : Option Addr) (c3 : Nat), Below w.heap.size w W → W.ownsRow (w.heap.size + 2) 48 2 (.slice A3 (nxM V drop add).length c3) (nxM V drop add).length (cellsV (nxM V drop add)) → Calls Tryd.prog 15 #[.agg #[.int .u8 g, .int .u32 N, .slice A V.length c], .slice A3 (nxM V drop add).length c3] W fun x w' => x = .returned (.bool (quo V (nxM V drop add))) ∧ Below W.heap.size W w') := Lib.hid (fun W A3 c3 hw hown => by
    obtain ⟨A4, c4, ev, RM, lm, cm⟩ := rowsV_of_own hown
    cases ev
    refine quorumO' g N A A3 V (nxM V drop add) c c3 W (hr.below (C := w.heap.size) hw (Nat.le_refl _) hw.size) RM hc hm lm cm (by omega) ?_
    have h1 := addAll_len (kept V drop V.length) add
    have h2 := kept_len V drop V.length
    unfold nxM
    omega)
  have hNb : (N == 4294967295) = false := by rw [beq_eq_false_iff_ne]; exact hN
  have hC : Hid (nxC g N V drop add = if quo V (nxM V drop add) = true then (if 8 < (nxM V drop add).length then 11 else 0) else 17) := Lib.hid (by unfold nxC; rw [if_pos hok, if_neg hN])
  have hGd : Hid (nxG g N V drop add = if nxC g N V drop add = 0 then g else 0) := Lib.hid rfl
  have hNd : Hid (nxN g N V drop add = if nxC g N V drop add = 0 then N + 1 else 0) := Lib.hid rfl
  have hVd : Hid (nxV g N V drop add = if nxC g N V drop add = 0 then nxM V drop add else []) := Lib.hid rfl
  have hN1 : IntKind.u32.wrap (N + 1) = N + 1 := IntWalk.u32_in _ (by
    unfold vR at hok
    simp only [Bool.and_eq_true, decide_eq_true_eq] at hok
    have := hok.1.1.1.2
    omega)
  clear hr hs ht hok hN
  unfold maxLen at hm
  generalize nxM V drop add = M at *
  generalize nxG g N V drop add = zG at *
  generalize nxN g N V drop add = zN at *
  generalize nxV g N V drop add = zV at *
  generalize nxC g N V drop add = zC at *
  have hZ : Hid (zG = g ∧ zN = N + 1 ∧ zC = 0 ∧ zV = M) := Lib.hid (by
    have hz : zC = 0 := by rw [hC.out]; rw [hq, if_pos rfl, if_neg h8]
    exact ⟨by rw [hGd.out, hz]; rfl, by rw [hNd.out, hz]; rfl, hz, by rw [hVd.out, hz]; rfl⟩)
  have h8i : (M.length : Int) ≤ 8 := by omega
  go_enter Tryd.func8, Tryd.ntmps8
  go_wp2_with (first
    | (go_at_call 14; refine (K1.out _ b0.out).mono ?_; rintro e1 w1 ⟨rfl, b1⟩
       have B1 := Lib.hid (b0.out.trans (b1.mono b0.out.size))
       have R1a := Lib.hid ((b1.block _ (Nat.lt_of_succ_lt l1.out)).trans r0.out)
       have R2a := Lib.hid ((b1.block _ l1.out).trans r1.out)
       have L1 : Hid (w.heap.size + 1 < w1.heap.size) := Lib.hid (Nat.lt_of_lt_of_le l1.out b1.size)
       have e0 : w1.cell? ⟨w.heap.size, 0, none⟩ = some (.int .u8 g) := (cell_of_row _ _ 0 _ _ _ R1a.out).trans rfl
       have e1 : w1.cell? ⟨w.heap.size, 1, none⟩ = some (.int .u32 N) := (cell_of_row _ _ 1 _ _ _ R1a.out).trans rfl
       have e2 : w1.cell? ⟨w.heap.size, 2, none⟩ = some (.slice A V.length c) := (cell_of_row _ _ 2 _ _ _ R1a.out).trans rfl
       clear b1 b0 r0 r1 l1)
    | (go_at_call 22; refine (K2.out _ B1.out L1.out).mono ?_; rintro x2 w2 ⟨A2, c2, rfl, O2', b2⟩
       have O2 := Lib.hid O2'
       have B2 := Lib.hid (B1.out.trans (b2.mono B1.out.size))
       have R1b := Lib.hid ((b2.block _ (Nat.lt_of_succ_lt L1.out)).trans R1a.out)
       have R2b := Lib.hid ((b2.block _ L1.out).trans R2a.out)
       have L2 : Hid (w.heap.size + 1 < w2.heap.size) := Lib.hid (Nat.lt_of_lt_of_le L1.out b2.size)
       clear b2 O2' e0 e1 e2)
    | (go_at_call 21; refine (K3.out _ A2 c2 B2.out L2.out O2.out).mono ?_; rintro x3 w3 ⟨A3, c3, rfl, O3', b3⟩
       have O3 := Lib.hid O3'
       have B3 := Lib.hid (B2.out.trans (b3.mono (by omega)))
       have R1c := Lib.hid ((b3.block _ (by omega)).trans R1b.out)
       have R2c := Lib.hid ((b3.block _ (by omega)).trans R2b.out)
       have L3 : Hid (w.heap.size + 1 < w3.heap.size) := Lib.hid (Nat.lt_of_lt_of_le L2.out b3.size)
       have e0 : w3.cell? ⟨w.heap.size, 0, none⟩ = some (.int .u8 g) := (cell_of_row _ _ 0 _ _ _ R1c.out).trans rfl
       have e1 : w3.cell? ⟨w.heap.size, 1, none⟩ = some (.int .u32 N) := (cell_of_row _ _ 1 _ _ _ R1c.out).trans rfl
       have e2 : w3.cell? ⟨w.heap.size, 2, none⟩ = some (.slice A V.length c) := (cell_of_row _ _ 2 _ _ _ R1c.out).trans rfl
       clear b3 O3')
    | (go_at_call 15; refine (K4.out _ A3 c3 B3.out O3.out).mono ?_; rw [hq]; rintro x4 w4 ⟨rfl, b4⟩
       have O4 := Lib.hid (own_kept O3.out b4)
       have B4 := Lib.hid (B3.out.trans (b4.mono B3.out.size))
       have R1d := Lib.hid ((b4.block _ (Nat.lt_of_succ_lt L3.out)).trans R1c.out)
       have R2d := Lib.hid ((b4.block _ L3.out).trans R2c.out)
       have L4 : Hid (w.heap.size + 1 < w4.heap.size) := Lib.hid (Nat.lt_of_lt_of_le L3.out b4.size)
       clear b4 e0 e1 e2
       have e0 : w4.cell? ⟨w.heap.size, 0, none⟩ = some (.int .u8 g) := (cell_of_row _ _ 0 _ _ _ R1d.out).trans rfl
       have e1 : w4.cell? ⟨w.heap.size, 1, none⟩ = some (.int .u32 N) := (cell_of_row _ _ 1 _ _ _ R1d.out).trans rfl
       have e2 : w4.cell? ⟨w.heap.size, 2, none⟩ = some (.slice A V.length c) := (cell_of_row _ _ 2 _ _ _ R1d.out).trans rfl
       have q0 : w4.cell? ⟨w.heap.size + 1, 0, none⟩ = some (.int .u8 0) := (cell_of_row _ _ 0 _ _ _ R2d.out).trans rfl
       have q1 : w4.cell? ⟨w.heap.size + 1, 1, none⟩ = some (.int .u32 0) := (cell_of_row _ _ 1 _ _ _ R2d.out).trans rfl
       have q2 : w4.cell? ⟨w.heap.size + 1, 2, none⟩ = some (.slice none 0 0) := (cell_of_row _ _ 2 _ _ _ R2d.out).trans rfl
       have p0 := frz_row 0 R2d.out
       have p1 := frz_row 1 R2d.out
       have p2 := frz_row 2 R2d.out))
  have ls : w.heap.size + 1 < w4.heap.size := L4.out
  refine bodyPost_ret (v := .tuple #[.agg #[.int .u8 g, .int .u32 (N + 1), .slice A3 M.length c3], .int .i64 0]) (by simp [results, Tryd.results8, go_sem]; try go_simp) rfl ⟨_, by rw [hZ.out.1, hZ.out.2.1, hZ.out.2.2.1], ?_, ?_⟩
  · rw [hZ.out.2.2.2]
    exact own_mono (ownsRow_setCell_below (ownsRow_setCell_below (ownsRow_setCell_below O4.out (by show w.heap.size + 1 < w.heap.size + 2; omega) _) (by show w.heap.size + 1 < w.heap.size + 2; omega) _) (by show w.heap.size + 1 < w.heap.size + 2; omega) _) (by omega)
  · exact ((B4.out.setCell (by simp) _).setCell (by simp) _).setCell (by simp) _

theorem nextO' (g N : Int) (A B D : Option Addr) (V drop add : List P2) (c d e : Nat) (w : World) (hr : RowsV w w.heap.size A V) (hs : RowsV w w.heap.size B drop) (ht : RowsV w w.heap.size D add) (hc : V.length ≤ c) (hm : c ≤ maxLen) (hd : drop.length ≤ d) (hn : d ≤ maxLen) (he : add.length ≤ e) (ho : e ≤ maxLen) (hV : V.length ≤ 1000) (hB : drop.length ≤ 1000) (hA : add.length ≤ 1000) (hN0 : 0 ≤ N) (hN2 : N < 4294967296) :
    Calls Tryd.prog 8 #[.agg #[.int .u8 g, .int .u32 N, .slice A V.length c], .slice B drop.length d, .slice D add.length e] w fun x w' => ∃ v', x = .returned (.tuple #[.agg #[.int .u8 (nxG g N V drop add), .int .u32 (nxN g N V drop add), v'], .int .i64 (nxC g N V drop add)]) ∧ w'.ownsRow w.heap.size 48 2 v' (nxV g N V drop add).length (cellsV (nxV g N V drop add)) ∧ Below w.heap.size w w' := by
  cases hok : vR g N V with
  | false => exact nextO_bad g N A B D V drop add c d e w hr hs ht hc hm hd hn he ho hV hB hA hok
  | true =>
    by_cases hN : N = 4294967295
    · exact nextO_max g N A B D V drop add c d e w hr hs ht hc hm hd hn he ho hV hB hA hok hN
    · cases hq : quo V (nxM V drop add) with
      | false => exact nextO_block g N A B D V drop add c d e w hr hs ht hc hm hd hn he ho hV hB hA hok hN hN0 hN2 hq
      | true =>
        by_cases h8 : 8 < (nxM V drop add).length
        · exact nextO_full g N A B D V drop add c d e w hr hs ht hc hm hd hn he ho hV hB hA hok hN hN0 hN2 hq h8
        · exact nextO_ok g N A B D V drop add c d e w hr hs ht hc hm hd hn he ho hV hB hA hok hN hN0 hN2 hq h8

end Go.Proofs.YtgmjhloednmfnaaDoor
