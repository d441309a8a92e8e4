/-
  A group's first view, a view's clone: the program's First and Clone, by exact answers. Condition: the members lie in memory, they are few, at least one.
-/
import Derived.Test.YtfkmodmgihadkaaVri
import Derived.Test.YtfkmodmgihadkaaVapp
import Derived.RangeFuncBox
import Derived.Lib.SliceRun
namespace Go.Proofs.Ytfkmodmgihadkaa.V
set_option linter.unusedSimpArgs false
set_option linter.unusedVariables false
open Go.RowKit

set_option maxRecDepth 100000 in
set_option maxHeartbeats 1000000 in
theorem cloneS (A : Option Addr) (L : List P2) (c : Nat) (w : World) (hr : RowsV w w.heap.size A L) (hL : L ≠ []) (hl : L.length ≤ 1000) (hc : L.length ≤ c) (hm : c ≤ maxLen) :
    Calls Try.prog 35 #[.slice A L.length c] w fun e w' => ∃ v, e = .returned v ∧ w'.ownsRow w.heap.size 54 2 v L.length (cellsV L) ∧ Below w.heap.size w w' := by
  obtain ⟨i0, hi0, hz0, hz1, hz2⟩ := info_parts pr_info
  obtain ⟨b, o, rfl, hb, -⟩ := hr hL
  have O0 : Hid ((w.alloc (.cells #[] 54)).ownsRow w.heap.size 54 2 (.slice (some ⟨w.heap.size, 0, none⟩) 0 0) 0 []) := Lib.hid ⟨rfl, .inr ⟨w.heap.size, 0, #[], rfl, Nat.le_refl _, heap_alloc_new w _, Nat.le_refl _, by unfold maxLen; omega, rfl, rfl⟩⟩
  have B0 := Lib.hid ((Below.refl w.heap.size w).alloc (Nat.le_refl _) (.cells #[] 54))
  have HC := Lib.hid (cells_of_rowsV (hr.below (C := w.heap.size) B0.out (Nat.le_refl _) B0.out.size))
  have hpos : 0 < L.length := List.length_pos_iff.2 hL
  have hnil : ∀ W, Sem.run Try.prog (binOp .eql 29 (.slice (some ⟨b, o, none⟩) L.length c) (.slice none 0 0)) W = .ok (.bool false) W := fun W => Lib.run_eql_slice_nil W _ _ _ _ _ 0 0 Try.underlying29
  clear hr hL
  go_enter Try.func35, Try.ntmps35
  go_wp2_with (at_builtin
               refine wpList_append_own _ rfl (.tmp 5) (.tmp 6) 29 rfl w.heap.size 54 i0 _ 2 4 Try.underlying29 hi0 hz0 hz1 hz2 rfl (by decide) _ 0 _ rfl O0.out ⟨b, o, none⟩ L.length c (cellsV L) rfl (cellsV_length L) HC.out (cellsV_one L) (by unfold maxLen; omega) (by omega) B0.out.size ?_
               intro v' w3 hown' hgrow' hnil'
               have B3 := Lib.hid (B0.out.grown hgrow' B0.out.size fun k hk => (O0.out.lt k hk).1)
               rw [Nat.zero_add, List.nil_append] at hown'
               have O3 := Lib.hid hown'
               clear hown' hgrow' hnil')
  go_ret
  exact ⟨_, rfl, O3.out, B3.out⟩

set_option maxRecDepth 100000 in
set_option maxHeartbeats 1000000 in
theorem cloneO (g N : Int) (A : Option Addr) (L : List P2) (c : Nat) (w : World) (hr : RowsV w w.heap.size A L) (hL : L ≠ []) (hl : L.length ≤ 1000) (hc : L.length ≤ c) (hm : c ≤ maxLen) :
    Calls Try.prog 29 #[.agg #[.int .u8 g, .int .u32 N, .slice A L.length c]] w fun e w' => ∃ (A2 : Option Addr) (c2 : Nat), e = .returned (.agg #[.int .u8 g, .int .u32 N, .slice A2 L.length c2]) ∧ w'.ownsRow w.heap.size 54 2 (.slice A2 L.length c2) L.length (cellsV L) ∧ Below w.heap.size w w' := by
  obtain ⟨W0, hW0⟩ : ∃ W0, (w.alloc (.cells #[.int .u8 g, .int .u32 N, .slice A L.length c] 57)).alloc (.cells #[.int .u8 0, .int .u32 0, .slice none 0 0] 57) = W0 := ⟨_, rfl⟩
  have b0 : Below w.heap.size w W0 := by rw [← hW0]; exact two_below _ _ _ _ _
  have r0 : W0.heap[w.heap.size]? = some (.cells #[.int .u8 g, .int .u32 N, .slice A L.length c] 57 (0, 0)) := by rw [← hW0]; exact rowA _ _ _ _ _
  have r1 : W0.heap[w.heap.size + 1]? = some (.cells #[.int .u8 0, .int .u32 0, .slice none 0 0] 57 (0, 0)) := by rw [← hW0]; exact rowB _ _ _ _ _
  have s0 : W0.heap.size = w.heap.size + 2 := by rw [← hW0]; simp
  have K := Lib.hid (cloneS A L c W0 (hr.below (C := w.heap.size) b0 (Nat.le_refl _) b0.size) hL hl hc hm)
  have R0 := Lib.hid r0
  have R1 := Lib.hid r1
  have B0 := Lib.hid b0
  have S0 := Lib.hid s0
  have HW0 := Lib.hid hW0
  clear hr hL b0 r0 r1 s0 hW0
  go_enter Try.func29, Try.ntmps29
  go_wp2_with fail
  rw [HW0.out]
  refine K.out.mono ?_
  rintro e w1 ⟨v, rfl, hown, b1⟩
  obtain ⟨A2, c2, rfl, -, -, -⟩ := rowsV_of_own hown
  have hs1 := b1.size
  have O1 : Hid (w1.ownsRow (w.heap.size + 2) 54 2 (.slice A2 L.length c2) L.length (cellsV L)) := Lib.hid (by rw [← S0.out]; exact hown)
  have B1 := Lib.hid (B0.out.trans (b1.mono B0.out.size))
  have Q0 := Lib.hid ((b1.block _ (by rw [S0.out]; omega)).trans R0.out)
  have Q1 := Lib.hid ((b1.block _ (by rw [S0.out]; omega)).trans R1.out)
  have ls : w.heap.size + 1 < w1.heap.size := by rw [S0.out] at hs1; omega
  have e0 : w1.cell? ⟨w.heap.size, 0, none⟩ = some (.int .u8 g) := (cell_of_row _ _ 0 _ _ _ Q0.out).trans rfl
  have e1 : w1.cell? ⟨w.heap.size, 1, none⟩ = some (.int .u32 N) := (cell_of_row _ _ 1 _ _ _ Q0.out).trans rfl
  have e2 : w1.cell? ⟨w.heap.size, 2, none⟩ = some (.slice A L.length c) := (cell_of_row _ _ 2 _ _ _ Q0.out).trans rfl
  have q0 : w1.cell? ⟨w.heap.size + 1, 0, none⟩ = some (.int .u8 0) := (cell_of_row _ _ 0 _ _ _ Q1.out).trans rfl
  have q1 : w1.cell? ⟨w.heap.size + 1, 1, none⟩ = some (.int .u32 0) := (cell_of_row _ _ 1 _ _ _ Q1.out).trans rfl
  have q2 : w1.cell? ⟨w.heap.size + 1, 2, none⟩ = some (.slice none 0 0) := (cell_of_row _ _ 2 _ _ _ Q1.out).trans rfl
  have p0 := frz_row 2 Q0.out
  have f0 := frz_row 0 Q1.out
  have f1 := frz_row 1 Q1.out
  have f2 := frz_row 2 Q1.out
  clear hown b1 hs1 R0 R1 K S0 HW0 Q0 Q1 B0
  go_wp2
  refine bodyPost_ret (v := .agg #[.int .u8 g, .int .u32 N, .slice A2 L.length c2]) (by simp [results, Try.results29, go_sem]; try go_simp) rfl ⟨A2, c2, rfl, ?_, ?_⟩
  · exact own_mono (ownsRow_setCell_below (ownsRow_setCell_below (ownsRow_setCell_below (ownsRow_setCell_below O1.out (by show w.heap.size < w.heap.size + 2; omega) _) (by show w.heap.size + 1 < w.heap.size + 2; omega) _) (by show w.heap.size + 1 < w.heap.size + 2; omega) _) (by show w.heap.size + 1 < w.heap.size + 2; omega) _) (by omega)
  · exact (((B1.out.setCell (by simp) _).setCell (by simp) _).setCell (by simp) _).setCell (by simp) _

end Go.Proofs.Ytfkmodmgihadkaa.V
