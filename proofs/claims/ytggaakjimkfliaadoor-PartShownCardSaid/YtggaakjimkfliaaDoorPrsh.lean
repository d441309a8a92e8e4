/-
  A part as text: the document's Show, by a contract; results joined. Condition: the texts are short.
-/
import Derived.Test.YtggaakjimkfliaaDoorPdig
namespace Go.Proofs.YtggaakjimkfliaaDoor
set_option linter.unusedSimpArgs false
set_option linter.unusedVariables false
open Go.RowKit Go.Sort

set_option maxRecDepth 100000 in
set_option maxHeartbeats 4000000 in
theorem refShow (g k n : Int) (key val : ByteArray) (w : World) (hg0 : 0 ≤ g) (hg1 : g ≤ 255) (hk : 0 ≤ k) (h0 : -9223372036854775808 ≤ n) (h1 : n ≤ 9223372036854775807) (hs : key.size + val.size ≤ 4000) :
    Calls Tryd.prog 18 #[.agg #[.int .u8 g, .int .u8 k, .string key, .string val, .int .i64 n]] w fun e w' => e = .returned (.string (showB g k n key val)) ∧ Below w.heap.size w w' := by
  have HC := Lib.hid (fun W => digits g W (by omega) (by omega))
  have HD := Lib.hid (fun W => digits n W h0 h1)
  have hd := digB_size g (by omega) (by omega)
  have hd2 := digB_size n h0 h1
  by_cases k2 : k = 2 ∨ k = 3
  · rcases k2 with rfl | rfl
    · skip
      go_enter Tryd.func18, Tryd.ntmps18
      go_wp2_with (go_at_call 27; refine (HC.out _).mono ?_; rintro e w1 ⟨rfl, bw⟩
                   have q1 := (bw.cell (p := ⟨w.heap.size, 1, none⟩) (by simp)).trans (show (w.alloc (.cells #[.int .u8 g, .int .u8 2, .string key, .string val, .int .i64 n] 30)).cell? ⟨w.heap.size, 1, none⟩ = some (.int .u8 2) by simp)
                   have q2 := (bw.cell (p := ⟨w.heap.size, 2, none⟩) (by simp)).trans (show (w.alloc (.cells #[.int .u8 g, .int .u8 2, .string key, .string val, .int .i64 n] 30)).cell? ⟨w.heap.size, 2, none⟩ = some (.string key) by simp)
                   have q3 := (bw.cell (p := ⟨w.heap.size, 3, none⟩) (by simp)).trans (show (w.alloc (.cells #[.int .u8 g, .int .u8 2, .string key, .string val, .int .i64 n] 30)).cell? ⟨w.heap.size, 3, none⟩ = some (.string val) by simp)
                   have q4 := (bw.cell (p := ⟨w.heap.size, 4, none⟩) (by simp)).trans (show (w.alloc (.cells #[.int .u8 g, .int .u8 2, .string key, .string val, .int .i64 n] 30)).cell? ⟨w.heap.size, 4, none⟩ = some (.int .i64 n) by simp)
                   have HB := Lib.hid (((Below.refl _ _).alloc (Nat.le_refl _) _).trans (bw.mono (by simp)))
                   clear bw)

      have k1 := cell_regrown q1
      have k2 := cell_regrown q2
      have k3 := cell_regrown q3
      have k4 := cell_regrown q4
      clear q1 q2 q3 q4
      refine wp_region_quiet_below (by kernel_rfl) (by kernel_rfl) ?_
      repeat (go_big_quiet_step ((go_at_call 27; exact Calls.regrown_of (HD.out _))))
      refine wpQuiet_nil ?_
      rintro W ⟨p, rfl⟩
      have y1 := below_regrown w1 p.d p.os
      generalize grow (redrawn w1 p.d) p.os = w2 at *
      clear k1 k2 k3 k4
      have Y1 := Lib.hid y1
      clear y1
      go_wp2
      go_ret
      exact ⟨ret_str (by simp [showB, deedB, ByteArray.append_assoc]), HB.out.trans (Y1.out.mono HB.out.size)⟩
    · skip
      go_enter Tryd.func18, Tryd.ntmps18
      go_wp2_with (go_at_call 27; refine (HC.out _).mono ?_; rintro e w1 ⟨rfl, bw⟩
                   have q1 := (bw.cell (p := ⟨w.heap.size, 1, none⟩) (by simp)).trans (show (w.alloc (.cells #[.int .u8 g, .int .u8 3, .string key, .string val, .int .i64 n] 30)).cell? ⟨w.heap.size, 1, none⟩ = some (.int .u8 3) by simp)
                   have q2 := (bw.cell (p := ⟨w.heap.size, 2, none⟩) (by simp)).trans (show (w.alloc (.cells #[.int .u8 g, .int .u8 3, .string key, .string val, .int .i64 n] 30)).cell? ⟨w.heap.size, 2, none⟩ = some (.string key) by simp)
                   have q3 := (bw.cell (p := ⟨w.heap.size, 3, none⟩) (by simp)).trans (show (w.alloc (.cells #[.int .u8 g, .int .u8 3, .string key, .string val, .int .i64 n] 30)).cell? ⟨w.heap.size, 3, none⟩ = some (.string val) by simp)
                   have q4 := (bw.cell (p := ⟨w.heap.size, 4, none⟩) (by simp)).trans (show (w.alloc (.cells #[.int .u8 g, .int .u8 3, .string key, .string val, .int .i64 n] 30)).cell? ⟨w.heap.size, 4, none⟩ = some (.int .i64 n) by simp)
                   have HB := Lib.hid (((Below.refl _ _).alloc (Nat.le_refl _) _).trans (bw.mono (by simp)))
                   clear bw)

      have k1 := cell_regrown q1
      have k2 := cell_regrown q2
      have k3 := cell_regrown q3
      have k4 := cell_regrown q4
      clear q1 q2 q3 q4
      refine wp_region_quiet_below (by kernel_rfl) (by kernel_rfl) ?_
      repeat (go_big_quiet_step ((go_at_call 27; exact Calls.regrown_of (HD.out _))))
      refine wpQuiet_nil ?_
      rintro W ⟨p, rfl⟩
      have y1 := below_regrown w1 p.d p.os
      generalize grow (redrawn w1 p.d) p.os = w2 at *
      clear k1 k2 k3 k4
      have Y1 := Lib.hid y1
      clear y1
      go_wp2
      go_ret
      exact ⟨ret_str (by simp [showB, deedB, ByteArray.append_assoc]), HB.out.trans (Y1.out.mono HB.out.size)⟩
  · have hk2 : ((k : Int) == 2) = false := by simp; omega
    have hk3 : ((k : Int) == 3) = false := by simp; omega
    have HK := Lib.hid k2
    clear k2
    go_enter Tryd.func18, Tryd.ntmps18
    go_wp2_with (go_at_call 27; refine (HC.out _).mono ?_; rintro e w1 ⟨rfl, bw⟩
                 have q1 := (bw.cell (p := ⟨w.heap.size, 1, none⟩) (by simp)).trans (show (w.alloc (.cells #[.int .u8 g, .int .u8 k, .string key, .string val, .int .i64 n] 30)).cell? ⟨w.heap.size, 1, none⟩ = some (.int .u8 k) by simp)
                 have q2 := (bw.cell (p := ⟨w.heap.size, 2, none⟩) (by simp)).trans (show (w.alloc (.cells #[.int .u8 g, .int .u8 k, .string key, .string val, .int .i64 n] 30)).cell? ⟨w.heap.size, 2, none⟩ = some (.string key) by simp)
                 have q3 := (bw.cell (p := ⟨w.heap.size, 3, none⟩) (by simp)).trans (show (w.alloc (.cells #[.int .u8 g, .int .u8 k, .string key, .string val, .int .i64 n] 30)).cell? ⟨w.heap.size, 3, none⟩ = some (.string val) by simp)
                 have q4 := (bw.cell (p := ⟨w.heap.size, 4, none⟩) (by simp)).trans (show (w.alloc (.cells #[.int .u8 g, .int .u8 k, .string key, .string val, .int .i64 n] 30)).cell? ⟨w.heap.size, 4, none⟩ = some (.int .i64 n) by simp)
                 have HB := Lib.hid (((Below.refl _ _).alloc (Nat.le_refl _) _).trans (bw.mono (by simp)))
                 clear bw)
    all_goals
      go_ret
      refine ⟨ret_str ?_, HB.out⟩
      have k2 := HK.out
      simp at *
      simp [showB, deedB, *, ByteArray.append_assoc]

end Go.Proofs.YtggaakjimkfliaaDoor
