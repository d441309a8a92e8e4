/-
  The document's store: Apply of one write: the walk. Condition: its list is a row that its own calls made.
-/
import Derived.Test.YthmdnbgfnaokkaaDoorQrap
namespace Go.Proofs.YthmdnbgfnaokkaaDoor
set_option linter.unusedSimpArgs false
set_option linter.unusedVariables false
open Go.RowKit

theorem own_noneW {W : World} {base : Nat} {v : Value} {X Z : List W3} (h : W.ownsRow base 79 3 v (0 + X.length + Z.length) (([] ++ cellsW X) ++ cellsW Z)) : W.ownsRow base 79 3 v (0 + X.length + ([] : List W3).length + Z.length) ((([] ++ cellsW X) ++ cellsW []) ++ cellsW Z) := by
  simpa [cellsW] using h
theorem srcOneW' (W : World) (x : W3) (n : Nat) (hn : W.heap.size = n) (hh : x.has = true) : SrcW (W.alloc (.cells #[.string x.key, .string x.val, .bool true] 79)) (.slice (some ⟨n, 0, none⟩) 1 1) [x] := by
  have := srcOneW W x n hn
  rwa [hh] at this
theorem len1 {t n : Nat} (ht : t ≤ n) (h : (n + 2) * 40 ≤ 140737488355328) : (0 + t) * 40 ≤ 140737488355328 ∧ (0 + t + 1) * 40 ≤ 140737488355328 :=
  ⟨Nat.le_trans (Nat.mul_le_mul_right 40 (by omega)) h, Nat.le_trans (Nat.mul_le_mul_right 40 (by omega)) h⟩
theorem len2 {t d n : Nat} (ht : t + d ≤ n) (h : (n + 2) * 40 ≤ 140737488355328) : (0 + t + 1 + d) * 40 ≤ 140737488355328 ∧ (0 + t + d) * 40 ≤ 140737488355328 :=
  ⟨Nat.le_trans (Nat.mul_le_mul_right 40 (by omega)) h, Nat.le_trans (Nat.mul_le_mul_right 40 (by omega)) h⟩
theorem lenT {L : List W3} {k : Nat} (hk : k ≤ L.length) (h : (L.length + 2) * 40 ≤ 140737488355328) : (0 + (L.take k).length) * 40 ≤ 140737488355328 := (len1 (List.length_take_le' k L) h).1
theorem lenX {L : List W3} {k : Nat} (hk : k ≤ L.length) (h : (L.length + 2) * 40 ≤ 140737488355328) : (0 + (L.take k).length + 1) * 40 ≤ 140737488355328 := (len1 (List.length_take_le' k L) h).2
theorem lenTD {L : List W3} {k j : Nat} (hk : k ≤ L.length) (hj : j ≤ L.length) (hkj : k ≤ j) : (L.take k).length + (L.drop j).length ≤ L.length := by
  rw [List.length_take, List.length_drop]; omega
theorem lenD {L : List W3} {x : W3} {k j : Nat} (hk : k ≤ L.length) (hj : j ≤ L.length) (hkj : k ≤ j) (h : (L.length + 2) * 40 ≤ 140737488355328) : (0 + (L.take k).length + [x].length + (L.drop j).length) * 40 ≤ 140737488355328 := (len2 (lenTD hk hj hkj) h).1
theorem lenE {L : List W3} {k j : Nat} (hk : k ≤ L.length) (hj : j ≤ L.length) (hkj : k ≤ j) (h : (L.length + 2) * 40 ≤ 140737488355328) : (0 + (L.take k).length + (L.drop j).length) * 40 ≤ 140737488355328 := (len2 (lenTD hk hj hkj) h).2
theorem wrapK {k n : Nat} (hk : k ≤ n) (h : (n + 2) * 40 ≤ 140737488355328) : (k : Int) ≤ 4611686018427387904 := by omega

set_option maxRecDepth 100000 in
set_option maxHeartbeats 400000 in
theorem applyRNoDel (rb Bs : Nat) (L : List W3) (x : W3) (w : World) (h : RSt rb Bs L w) (hat : atW L x.key = false) (hh : x.has = false) (hlen : (L.length + 2) * 40 ≤ 140737488355328) :
    Calls Tryd.prog 29 #[.pointer (some ⟨rb, 0, none⟩), .agg #[.string x.key, .string x.val, .bool false]] w fun e w' => e = .returned (.tuple #[]) ∧ RSt rb Bs (apR L x) w' ∧ w.grownBy w' (some rb) := by
  have h0 := h
  obtain ⟨cf, hrB, hB, v, c0, O⟩ := h
  have hl := World.block_lt_of_cell? w _ c0
  have hfl := fndW_le x.key L
  have hfl2 : fndW L x.key ≤ L.length := by
    exact hfl
    
  obtain ⟨sv1, R1, S1⟩ := slToW O (fndW L x.key) hfl
  obtain ⟨sv2, R2, S2⟩ := slFromW O (fndW L x.key) hfl
  obtain ⟨sv3, R3, S3⟩ := slFromW O (fndW L x.key) hfl2
  obtain ⟨A, c, rfl, R, hc, hm⟩ := rowsW_of_own O
  have ea : apR L x = L.take (fndW L x.key) ++ ([] ++ L.drop (fndW L x.key)) := by simp [apR, hat, hh]
  have bx : Below w.heap.size w (w.alloc (.cells #[.string x.key, .string x.val, .bool false] 79)) := (Below.refl _ _).alloc (Nat.le_refl _) _
  have FR := Lib.hid (fun (W : World) (h0 : W.cell? ⟨rb, 0, none⟩ = some (.slice A L.length c)) (hb : Below w.heap.size w W) => findR rb A L c x.key W h0 (R.below hb (Nat.le_refl _) hb.size) hc hm)
  have hat' := hat
  rw [hat'] at FR
  have HE := Lib.hid ea
  have HR1 := Lib.hid R1
  have HR2 := Lib.hid R2
  have HR3 := Lib.hid (show ∀ w, (Instr.sliceAt 22 (.slice A L.length c) (some (.int .i64 ((fndW L x.key : Int)))) none none).run Tryd.prog w = .ok sv3 w from R3)
  have HS1 := Lib.hid S1
  have HS3 := Lib.hid S3
  have HS2 := Lib.hid S2
  have H0 := Lib.hid h0
  have HBX := Lib.hid bx
  have hTL := Lib.hid (lenT hfl hlen)
  have hXL := Lib.hid (lenX hfl hlen)
  have hDL := Lib.hid (lenD (x := x) hfl hfl2 (Nat.le_refl _) hlen)
  have hEL := Lib.hid (lenE hfl hfl2 (Nat.le_refl _) hlen)
  have c0' : (w.alloc (.cells #[.string x.key, .string x.val, .bool false] 79)).cell? ⟨rb, 0, none⟩ = some (.slice A L.length c) := (World.cell?_alloc_lt _ _ _ hl).trans c0
  have cf' : (w.alloc (.cells #[.string x.key, .string x.val, .bool false] 79)).frozen? ⟨rb, 0, none⟩ = false := (bx.frozen (p := ⟨rb, 0, none⟩) hl).trans cf
  have kb0 : (0 : Int) ≤ (fndW L x.key : Int) := Int.natCast_nonneg _
  have kb1 : (fndW L x.key : Int) ≤ 4611686018427387904 := wrapK hfl hlen
  clear O R1 R2 R3 S1 S2 S3 R h0 ea bx c0 cf hat hat' hlen
  generalize fndW L x.key = fnd at *
  go_enter Tryd.func29, Tryd.ntmps29
  go_wp2_with fail
  refine (FR.out _ c0' HBX.out).mono ?_
  rintro e w2 ⟨rfl, b2⟩
  have t0 := (b2.cell (p := ⟨rb, 0, none⟩) (by simp; omega)).trans c0'
  have tf := (b2.frozen (p := ⟨rb, 0, none⟩) (by simp; omega)).trans cf'
  have z0 := (b2.cell (p := ⟨w.heap.size, 0, none⟩) (by simp)).trans (cell_of_row _ _ 0 #[.string x.key, .string x.val, .bool false] 79 (0, 0) (heap_alloc_new w _))
  have z1 := (b2.cell (p := ⟨w.heap.size, 1, none⟩) (by simp)).trans (cell_of_row _ _ 1 #[.string x.key, .string x.val, .bool false] 79 (0, 0) (heap_alloc_new w _))
  have z2 := (b2.cell (p := ⟨w.heap.size, 2, none⟩) (by simp)).trans (cell_of_row _ _ 2 #[.string x.key, .string x.val, .bool false] 79 (0, 0) (heap_alloc_new w _))
  simp at z0 z1 z2
  have hs2 := b2.size
  have hxb : w.heap.size < w2.heap.size := by simp at hs2; omega
  have hl2 : rb < w2.heap.size := by omega
  have B2 := Lib.hid (HBX.out.trans (b2.mono (by simp)))
  have hBs := Lib.hid B2.out.size
  clear b2 FR c0' cf' hs2
  go_wp2_with (first
    | (refine wpList_sl (by rfl) (t := 22) (x := .tmp 18) (lo := some (.tmp 19)) (hi := none) (by rfl) (by rfl) (by rfl) (by rfl) (HR2.out _) ?_)
    | (refine wpList_sl (by rfl) (t := 22) (x := .tmp 25) (lo := some (.tmp 27)) (hi := none) (by rfl) (by rfl) (by rfl) (by rfl) (HR3.out _) ?_)
    | (refine wpList_sl (by rfl) (t := 22) (x := .tmp 33) (lo := none) (hi := some (.tmp 34)) (by rfl) (by rfl) (by rfl) (by rfl) (HR1.out _) ?_)
    | (refine wpList_app (by rfl) (.tmp 29) (.tmp 35) (by rfl) w2.heap.size _ 0 [] (by rfl) (own_eW w2 w2.heap.size w2.heap.size rfl (Nat.le_refl _)) sv1 (L.take fnd) (by rfl) ((HS1.out.below B2.out).below ((Below.refl _ _).alloc (Nat.le_refl _) _)) hTL.out (by simp) ?_
       intro v5 w5 O5 g5
       have b5 : Below w2.heap.size w2 w5 := own_snocW ((Below.refl _ _).alloc (Nat.le_refl _) _) (own_eW w2 w2.heap.size w2.heap.size rfl (Nat.le_refl _)) g5
       have B5 := Lib.hid b5
       have OO5 := Lib.hid O5
       have s0 := (b5.cell (p := ⟨rb, 0, none⟩) hl2).trans t0; have y0 := (b5.cell (p := ⟨w.heap.size, 0, none⟩) hxb).trans z0; have y1 := (b5.cell (p := ⟨w.heap.size, 1, none⟩) hxb).trans z1; have y2 := (b5.cell (p := ⟨w.heap.size, 2, none⟩) hxb).trans z2; have f0 := (b5.frozen (p := ⟨rb, 0, none⟩) hl2).trans tf
       clear b5 g5 O5)
    | (refine wpList_app (by rfl) (.tmp 44) (.tmp 45) (by rfl) w2.heap.size _ _ _ (by rfl) OO5.out sv2 (L.drop fnd) (by rfl) ((HS2.out.below B2.out).below B5.out) hEL.out B5.out.size ?_
       intro v8 w8 O8 g8
       have b8 : Below w2.heap.size w2 w8 := own_snocW B5.out OO5.out g8
       have B8 := Lib.hid b8
       obtain ⟨A8, c8, rfl, _⟩ := rowsW_of_own (own_apR HE.out (own_noneW O8))
       have OO8 := Lib.hid (own_apR HE.out (own_noneW O8))
       clear s0 y0 y1 y2 f0
       have s0 := (b8.cell (p := ⟨rb, 0, none⟩) hl2).trans t0; have y0 := (b8.cell (p := ⟨w.heap.size, 0, none⟩) hxb).trans z0; have y1 := (b8.cell (p := ⟨w.heap.size, 1, none⟩) hxb).trans z1; have y2 := (b8.cell (p := ⟨w.heap.size, 2, none⟩) hxb).trans z2; have f0 := (b8.frozen (p := ⟨rb, 0, none⟩) hl2).trans tf
       clear b8 g8 O8))
  go_end0
  obtain ⟨hs, hg⟩ := H0.out.set (B2.out.trans (B8.out.mono hBs.out)) (own_lowerW OO8.out hBs.out)
  exact ⟨rfl, hs, hg⟩

set_option maxRecDepth 100000 in
set_option maxHeartbeats 400000 in
theorem applyRNoPut (rb Bs : Nat) (L : List W3) (x : W3) (w : World) (h : RSt rb Bs L w) (hat : atW L x.key = false) (hh : x.has = true) (hlen : (L.length + 2) * 40 ≤ 140737488355328) :
    Calls Tryd.prog 29 #[.pointer (some ⟨rb, 0, none⟩), .agg #[.string x.key, .string x.val, .bool true]] w fun e w' => e = .returned (.tuple #[]) ∧ RSt rb Bs (apR L x) w' ∧ w.grownBy w' (some rb) := by
  have h0 := h
  obtain ⟨cf, hrB, hB, v, c0, O⟩ := h
  have hl := World.block_lt_of_cell? w _ c0
  have hfl := fndW_le x.key L
  have hfl2 : fndW L x.key ≤ L.length := by
    exact hfl
    
  obtain ⟨sv1, R1, S1⟩ := slToW O (fndW L x.key) hfl
  obtain ⟨sv2, R2, S2⟩ := slFromW O (fndW L x.key) hfl
  obtain ⟨sv3, R3, S3⟩ := slFromW O (fndW L x.key) hfl2
  obtain ⟨A, c, rfl, R, hc, hm⟩ := rowsW_of_own O
  have ea : apR L x = L.take (fndW L x.key) ++ ([x] ++ L.drop (fndW L x.key)) := by simp [apR, hat, hh]
  have bx : Below w.heap.size w (w.alloc (.cells #[.string x.key, .string x.val, .bool true] 79)) := (Below.refl _ _).alloc (Nat.le_refl _) _
  have FR := Lib.hid (fun (W : World) (h0 : W.cell? ⟨rb, 0, none⟩ = some (.slice A L.length c)) (hb : Below w.heap.size w W) => findR rb A L c x.key W h0 (R.below hb (Nat.le_refl _) hb.size) hc hm)
  have hat' := hat
  rw [hat'] at FR
  have HE := Lib.hid ea
  have HR1 := Lib.hid R1
  have HR2 := Lib.hid R2
  have HR3 := Lib.hid (show ∀ w, (Instr.sliceAt 22 (.slice A L.length c) (some (.int .i64 ((fndW L x.key : Int)))) none none).run Tryd.prog w = .ok sv3 w from R3)
  have HS1 := Lib.hid S1
  have HS3 := Lib.hid S3
  have HS2 := Lib.hid S2
  have H0 := Lib.hid h0
  have HBX := Lib.hid bx
  have hTL := Lib.hid (lenT hfl hlen)
  have hXL := Lib.hid (lenX hfl hlen)
  have hDL := Lib.hid (lenD (x := x) hfl hfl2 (Nat.le_refl _) hlen)
  have hEL := Lib.hid (lenE hfl hfl2 (Nat.le_refl _) hlen)
  have c0' : (w.alloc (.cells #[.string x.key, .string x.val, .bool true] 79)).cell? ⟨rb, 0, none⟩ = some (.slice A L.length c) := (World.cell?_alloc_lt _ _ _ hl).trans c0
  have cf' : (w.alloc (.cells #[.string x.key, .string x.val, .bool true] 79)).frozen? ⟨rb, 0, none⟩ = false := (bx.frozen (p := ⟨rb, 0, none⟩) hl).trans cf
  have kb0 : (0 : Int) ≤ (fndW L x.key : Int) := Int.natCast_nonneg _
  have kb1 : (fndW L x.key : Int) ≤ 4611686018427387904 := wrapK hfl hlen
  clear O R1 R2 R3 S1 S2 S3 R h0 ea bx c0 cf hat hat' hlen
  generalize fndW L x.key = fnd at *
  go_enter Tryd.func29, Tryd.ntmps29
  go_wp2_with fail
  refine (FR.out _ c0' HBX.out).mono ?_
  rintro e w2 ⟨rfl, b2⟩
  have t0 := (b2.cell (p := ⟨rb, 0, none⟩) (by simp; omega)).trans c0'
  have tf := (b2.frozen (p := ⟨rb, 0, none⟩) (by simp; omega)).trans cf'
  have z0 := (b2.cell (p := ⟨w.heap.size, 0, none⟩) (by simp)).trans (cell_of_row _ _ 0 #[.string x.key, .string x.val, .bool true] 79 (0, 0) (heap_alloc_new w _))
  have z1 := (b2.cell (p := ⟨w.heap.size, 1, none⟩) (by simp)).trans (cell_of_row _ _ 1 #[.string x.key, .string x.val, .bool true] 79 (0, 0) (heap_alloc_new w _))
  have z2 := (b2.cell (p := ⟨w.heap.size, 2, none⟩) (by simp)).trans (cell_of_row _ _ 2 #[.string x.key, .string x.val, .bool true] 79 (0, 0) (heap_alloc_new w _))
  simp at z0 z1 z2
  have hs2 := b2.size
  have hxb : w.heap.size < w2.heap.size := by simp at hs2; omega
  have hl2 : rb < w2.heap.size := by omega
  have B2 := Lib.hid (HBX.out.trans (b2.mono (by simp)))
  have hBs := Lib.hid B2.out.size
  clear b2 FR c0' cf' hs2
  go_wp2_with (first
    | (refine wpList_sl (by rfl) (t := 22) (x := .tmp 18) (lo := some (.tmp 19)) (hi := none) (by rfl) (by rfl) (by rfl) (by rfl) (HR2.out _) ?_)
    | (refine wpList_sl (by rfl) (t := 22) (x := .tmp 25) (lo := some (.tmp 27)) (hi := none) (by rfl) (by rfl) (by rfl) (by rfl) (HR3.out _) ?_)
    | (refine wpList_sl (by rfl) (t := 22) (x := .tmp 33) (lo := none) (hi := some (.tmp 34)) (by rfl) (by rfl) (by rfl) (by rfl) (HR1.out _) ?_)
    | (refine wpList_app (by rfl) (.tmp 29) (.tmp 35) (by rfl) w2.heap.size _ 0 [] (by rfl) (own_eW w2 w2.heap.size w2.heap.size rfl (Nat.le_refl _)) sv1 (L.take fnd) (by rfl) ((HS1.out.below B2.out).below ((Below.refl _ _).alloc (Nat.le_refl _) _)) hTL.out (by simp) ?_
       intro v5 w5 O5 g5
       have b5 : Below w2.heap.size w2 w5 := own_snocW ((Below.refl _ _).alloc (Nat.le_refl _) _) (own_eW w2 w2.heap.size w2.heap.size rfl (Nat.le_refl _)) g5
       have B5 := Lib.hid b5
       have OO5 := Lib.hid O5
       have s0 := (b5.cell (p := ⟨rb, 0, none⟩) hl2).trans t0; have y0 := (b5.cell (p := ⟨w.heap.size, 0, none⟩) hxb).trans z0; have y1 := (b5.cell (p := ⟨w.heap.size, 1, none⟩) hxb).trans z1; have y2 := (b5.cell (p := ⟨w.heap.size, 2, none⟩) hxb).trans z2; have f0 := (b5.frozen (p := ⟨rb, 0, none⟩) hl2).trans tf
       clear b5 g5 O5)
    | (refine wpList_app (by rfl) (.tmp 39) (.tmp 41) (by rfl) w2.heap.size _ _ _ (by rfl) (OO5.out.alloc _) _ [x] (by rfl) (srcOneW' w5 x _ rfl hh) hXL.out (by have := B5.out.size; simp; omega) ?_
       intro v7 w7 O7 g7
       have b7 : Below w2.heap.size w2 w7 := own_snocW (B5.out.alloc B5.out.size _) (OO5.out.alloc _) g7
       have B7 := Lib.hid b7
       have OO7 := Lib.hid O7
       clear s0 y0 y1 y2 f0
       have s0 := (b7.cell (p := ⟨rb, 0, none⟩) hl2).trans t0; have y0 := (b7.cell (p := ⟨w.heap.size, 0, none⟩) hxb).trans z0; have y1 := (b7.cell (p := ⟨w.heap.size, 1, none⟩) hxb).trans z1; have y2 := (b7.cell (p := ⟨w.heap.size, 2, none⟩) hxb).trans z2; have f0 := (b7.frozen (p := ⟨rb, 0, none⟩) hl2).trans tf
       clear b7 g7 O7)
    | (refine wpList_app (by rfl) (.tmp 44) (.tmp 45) (by rfl) w2.heap.size _ _ _ (by rfl) OO7.out sv2 (L.drop fnd) (by rfl) ((HS2.out.below B2.out).below B7.out) hDL.out B7.out.size ?_
       intro v8 w8 O8 g8
       have b8 : Below w2.heap.size w2 w8 := own_snocW B7.out OO7.out g8
       have B8 := Lib.hid b8
       obtain ⟨A8, c8, rfl, _⟩ := rowsW_of_own (own_apR HE.out O8)
       have OO8 := Lib.hid (own_apR HE.out O8)
       clear s0 y0 y1 y2 f0
       have s0 := (b8.cell (p := ⟨rb, 0, none⟩) hl2).trans t0; have y0 := (b8.cell (p := ⟨w.heap.size, 0, none⟩) hxb).trans z0; have y1 := (b8.cell (p := ⟨w.heap.size, 1, none⟩) hxb).trans z1; have y2 := (b8.cell (p := ⟨w.heap.size, 2, none⟩) hxb).trans z2; have f0 := (b8.frozen (p := ⟨rb, 0, none⟩) hl2).trans tf
       clear b8 g8 O8))
  go_end0
  obtain ⟨hs, hg⟩ := H0.out.set (B2.out.trans (B8.out.mono hBs.out)) (own_lowerW OO8.out hBs.out)
  exact ⟨rfl, hs, hg⟩

set_option maxRecDepth 100000 in
set_option maxHeartbeats 400000 in
theorem applyRYesDel (rb Bs : Nat) (L : List W3) (x : W3) (w : World) (h : RSt rb Bs L w) (hat : atW L x.key = true) (hh : x.has = false) (hlen : (L.length + 2) * 40 ≤ 140737488355328) :
    Calls Tryd.prog 29 #[.pointer (some ⟨rb, 0, none⟩), .agg #[.string x.key, .string x.val, .bool false]] w fun e w' => e = .returned (.tuple #[]) ∧ RSt rb Bs (apR L x) w' ∧ w.grownBy w' (some rb) := by
  have h0 := h
  obtain ⟨cf, hrB, hB, v, c0, O⟩ := h
  have hl := World.block_lt_of_cell? w _ c0
  have hfl := fndW_le x.key L
  have hfl2 : fndW L x.key + 1 ≤ L.length := by
    unfold atW at hat; split at hat; · rename_i y hy; have := (List.getElem?_eq_some_iff.1 hy).1; omega
    cases hat
  obtain ⟨sv1, R1, S1⟩ := slToW O (fndW L x.key) hfl
  obtain ⟨sv2, R2, S2⟩ := slFromW O (fndW L x.key) hfl
  obtain ⟨sv3, R3, S3⟩ := slFromW O (fndW L x.key + 1) hfl2
  obtain ⟨A, c, rfl, R, hc, hm⟩ := rowsW_of_own O
  have ea : apR L x = L.take (fndW L x.key) ++ ([] ++ L.drop (fndW L x.key + 1)) := by simp [apR, hat, hh]
  have bx : Below w.heap.size w (w.alloc (.cells #[.string x.key, .string x.val, .bool false] 79)) := (Below.refl _ _).alloc (Nat.le_refl _) _
  have FR := Lib.hid (fun (W : World) (h0 : W.cell? ⟨rb, 0, none⟩ = some (.slice A L.length c)) (hb : Below w.heap.size w W) => findR rb A L c x.key W h0 (R.below hb (Nat.le_refl _) hb.size) hc hm)
  have hat' := hat
  rw [hat'] at FR
  have HE := Lib.hid ea
  have HR1 := Lib.hid R1
  have HR2 := Lib.hid R2
  have HR3 := Lib.hid (show ∀ w, (Instr.sliceAt 22 (.slice A L.length c) (some (.int .i64 ((fndW L x.key : Int) + 1))) none none).run Tryd.prog w = .ok sv3 w from R3)
  have HS1 := Lib.hid S1
  have HS3 := Lib.hid S3
  have HS2 := Lib.hid S2
  have H0 := Lib.hid h0
  have HBX := Lib.hid bx
  have hTL := Lib.hid (lenT hfl hlen)
  have hXL := Lib.hid (lenX hfl hlen)
  have hDL := Lib.hid (lenD (x := x) hfl hfl2 (Nat.le_succ _) hlen)
  have hEL := Lib.hid (lenE hfl hfl2 (Nat.le_succ _) hlen)
  have c0' : (w.alloc (.cells #[.string x.key, .string x.val, .bool false] 79)).cell? ⟨rb, 0, none⟩ = some (.slice A L.length c) := (World.cell?_alloc_lt _ _ _ hl).trans c0
  have cf' : (w.alloc (.cells #[.string x.key, .string x.val, .bool false] 79)).frozen? ⟨rb, 0, none⟩ = false := (bx.frozen (p := ⟨rb, 0, none⟩) hl).trans cf
  have kb0 : (0 : Int) ≤ (fndW L x.key : Int) := Int.natCast_nonneg _
  have kb1 : (fndW L x.key : Int) ≤ 4611686018427387904 := wrapK hfl hlen
  clear O R1 R2 R3 S1 S2 S3 R h0 ea bx c0 cf hat hat' hlen
  generalize fndW L x.key = fnd at *
  go_enter Tryd.func29, Tryd.ntmps29
  go_wp2_with fail
  refine (FR.out _ c0' HBX.out).mono ?_
  rintro e w2 ⟨rfl, b2⟩
  have t0 := (b2.cell (p := ⟨rb, 0, none⟩) (by simp; omega)).trans c0'
  have tf := (b2.frozen (p := ⟨rb, 0, none⟩) (by simp; omega)).trans cf'
  have z0 := (b2.cell (p := ⟨w.heap.size, 0, none⟩) (by simp)).trans (cell_of_row _ _ 0 #[.string x.key, .string x.val, .bool false] 79 (0, 0) (heap_alloc_new w _))
  have z1 := (b2.cell (p := ⟨w.heap.size, 1, none⟩) (by simp)).trans (cell_of_row _ _ 1 #[.string x.key, .string x.val, .bool false] 79 (0, 0) (heap_alloc_new w _))
  have z2 := (b2.cell (p := ⟨w.heap.size, 2, none⟩) (by simp)).trans (cell_of_row _ _ 2 #[.string x.key, .string x.val, .bool false] 79 (0, 0) (heap_alloc_new w _))
  simp at z0 z1 z2
  have hs2 := b2.size
  have hxb : w.heap.size < w2.heap.size := by simp at hs2; omega
  have hl2 : rb < w2.heap.size := by omega
  have B2 := Lib.hid (HBX.out.trans (b2.mono (by simp)))
  have hBs := Lib.hid B2.out.size
  clear b2 FR c0' cf' hs2
  go_wp2_with (first
    | (refine wpList_sl (by rfl) (t := 22) (x := .tmp 18) (lo := some (.tmp 19)) (hi := none) (by rfl) (by rfl) (by rfl) (by rfl) (HR2.out _) ?_)
    | (refine wpList_sl (by rfl) (t := 22) (x := .tmp 25) (lo := some (.tmp 27)) (hi := none) (by rfl) (by rfl) (by rfl) (by rfl) (HR3.out _) ?_)
    | (refine wpList_sl (by rfl) (t := 22) (x := .tmp 33) (lo := none) (hi := some (.tmp 34)) (by rfl) (by rfl) (by rfl) (by rfl) (HR1.out _) ?_)
    | (refine wpList_app (by rfl) (.tmp 29) (.tmp 35) (by rfl) w2.heap.size _ 0 [] (by rfl) (own_eW w2 w2.heap.size w2.heap.size rfl (Nat.le_refl _)) sv1 (L.take fnd) (by rfl) ((HS1.out.below B2.out).below ((Below.refl _ _).alloc (Nat.le_refl _) _)) hTL.out (by simp) ?_
       intro v5 w5 O5 g5
       have b5 : Below w2.heap.size w2 w5 := own_snocW ((Below.refl _ _).alloc (Nat.le_refl _) _) (own_eW w2 w2.heap.size w2.heap.size rfl (Nat.le_refl _)) g5
       have B5 := Lib.hid b5
       have OO5 := Lib.hid O5
       have s0 := (b5.cell (p := ⟨rb, 0, none⟩) hl2).trans t0; have y0 := (b5.cell (p := ⟨w.heap.size, 0, none⟩) hxb).trans z0; have y1 := (b5.cell (p := ⟨w.heap.size, 1, none⟩) hxb).trans z1; have y2 := (b5.cell (p := ⟨w.heap.size, 2, none⟩) hxb).trans z2; have f0 := (b5.frozen (p := ⟨rb, 0, none⟩) hl2).trans tf
       clear b5 g5 O5)
    | (refine wpList_app (by rfl) (.tmp 44) (.tmp 45) (by rfl) w2.heap.size _ _ _ (by rfl) OO5.out sv3 (L.drop (fnd + 1)) (by rfl) ((HS3.out.below B2.out).below B5.out) hEL.out B5.out.size ?_
       intro v8 w8 O8 g8
       have b8 : Below w2.heap.size w2 w8 := own_snocW B5.out OO5.out g8
       have B8 := Lib.hid b8
       obtain ⟨A8, c8, rfl, _⟩ := rowsW_of_own (own_apR HE.out (own_noneW O8))
       have OO8 := Lib.hid (own_apR HE.out (own_noneW O8))
       clear s0 y0 y1 y2 f0
       have s0 := (b8.cell (p := ⟨rb, 0, none⟩) hl2).trans t0; have y0 := (b8.cell (p := ⟨w.heap.size, 0, none⟩) hxb).trans z0; have y1 := (b8.cell (p := ⟨w.heap.size, 1, none⟩) hxb).trans z1; have y2 := (b8.cell (p := ⟨w.heap.size, 2, none⟩) hxb).trans z2; have f0 := (b8.frozen (p := ⟨rb, 0, none⟩) hl2).trans tf
       clear b8 g8 O8))
  go_end0
  obtain ⟨hs, hg⟩ := H0.out.set (B2.out.trans (B8.out.mono hBs.out)) (own_lowerW OO8.out hBs.out)
  exact ⟨rfl, hs, hg⟩

set_option maxRecDepth 100000 in
set_option maxHeartbeats 400000 in
theorem applyRYesPut (rb Bs : Nat) (L : List W3) (x : W3) (w : World) (h : RSt rb Bs L w) (hat : atW L x.key = true) (hh : x.has = true) (hlen : (L.length + 2) * 40 ≤ 140737488355328) :
    Calls Tryd.prog 29 #[.pointer (some ⟨rb, 0, none⟩), .agg #[.string x.key, .string x.val, .bool true]] w fun e w' => e = .returned (.tuple #[]) ∧ RSt rb Bs (apR L x) w' ∧ w.grownBy w' (some rb) := by
  have h0 := h
  obtain ⟨cf, hrB, hB, v, c0, O⟩ := h
  have hl := World.block_lt_of_cell? w _ c0
  have hfl := fndW_le x.key L
  have hfl2 : fndW L x.key + 1 ≤ L.length := by
    unfold atW at hat; split at hat; · rename_i y hy; have := (List.getElem?_eq_some_iff.1 hy).1; omega
    cases hat
  obtain ⟨sv1, R1, S1⟩ := slToW O (fndW L x.key) hfl
  obtain ⟨sv2, R2, S2⟩ := slFromW O (fndW L x.key) hfl
  obtain ⟨sv3, R3, S3⟩ := slFromW O (fndW L x.key + 1) hfl2
  obtain ⟨A, c, rfl, R, hc, hm⟩ := rowsW_of_own O
  have ea : apR L x = L.take (fndW L x.key) ++ ([x] ++ L.drop (fndW L x.key + 1)) := by simp [apR, hat, hh]
  have bx : Below w.heap.size w (w.alloc (.cells #[.string x.key, .string x.val, .bool true] 79)) := (Below.refl _ _).alloc (Nat.le_refl _) _
  have FR := Lib.hid (fun (W : World) (h0 : W.cell? ⟨rb, 0, none⟩ = some (.slice A L.length c)) (hb : Below w.heap.size w W) => findR rb A L c x.key W h0 (R.below hb (Nat.le_refl _) hb.size) hc hm)
  have hat' := hat
  rw [hat'] at FR
  have HE := Lib.hid ea
  have HR1 := Lib.hid R1
  have HR2 := Lib.hid R2
  have HR3 := Lib.hid (show ∀ w, (Instr.sliceAt 22 (.slice A L.length c) (some (.int .i64 ((fndW L x.key : Int) + 1))) none none).run Tryd.prog w = .ok sv3 w from R3)
  have HS1 := Lib.hid S1
  have HS3 := Lib.hid S3
  have HS2 := Lib.hid S2
  have H0 := Lib.hid h0
  have HBX := Lib.hid bx
  have hTL := Lib.hid (lenT hfl hlen)
  have hXL := Lib.hid (lenX hfl hlen)
  have hDL := Lib.hid (lenD (x := x) hfl hfl2 (Nat.le_succ _) hlen)
  have hEL := Lib.hid (lenE hfl hfl2 (Nat.le_succ _) hlen)
  have c0' : (w.alloc (.cells #[.string x.key, .string x.val, .bool true] 79)).cell? ⟨rb, 0, none⟩ = some (.slice A L.length c) := (World.cell?_alloc_lt _ _ _ hl).trans c0
  have cf' : (w.alloc (.cells #[.string x.key, .string x.val, .bool true] 79)).frozen? ⟨rb, 0, none⟩ = false := (bx.frozen (p := ⟨rb, 0, none⟩) hl).trans cf
  have kb0 : (0 : Int) ≤ (fndW L x.key : Int) := Int.natCast_nonneg _
  have kb1 : (fndW L x.key : Int) ≤ 4611686018427387904 := wrapK hfl hlen
  clear O R1 R2 R3 S1 S2 S3 R h0 ea bx c0 cf hat hat' hlen
  generalize fndW L x.key = fnd at *
  go_enter Tryd.func29, Tryd.ntmps29
  go_wp2_with fail
  refine (FR.out _ c0' HBX.out).mono ?_
  rintro e w2 ⟨rfl, b2⟩
  have t0 := (b2.cell (p := ⟨rb, 0, none⟩) (by simp; omega)).trans c0'
  have tf := (b2.frozen (p := ⟨rb, 0, none⟩) (by simp; omega)).trans cf'
  have z0 := (b2.cell (p := ⟨w.heap.size, 0, none⟩) (by simp)).trans (cell_of_row _ _ 0 #[.string x.key, .string x.val, .bool true] 79 (0, 0) (heap_alloc_new w _))
  have z1 := (b2.cell (p := ⟨w.heap.size, 1, none⟩) (by simp)).trans (cell_of_row _ _ 1 #[.string x.key, .string x.val, .bool true] 79 (0, 0) (heap_alloc_new w _))
  have z2 := (b2.cell (p := ⟨w.heap.size, 2, none⟩) (by simp)).trans (cell_of_row _ _ 2 #[.string x.key, .string x.val, .bool true] 79 (0, 0) (heap_alloc_new w _))
  simp at z0 z1 z2
  have hs2 := b2.size
  have hxb : w.heap.size < w2.heap.size := by simp at hs2; omega
  have hl2 : rb < w2.heap.size := by omega
  have B2 := Lib.hid (HBX.out.trans (b2.mono (by simp)))
  have hBs := Lib.hid B2.out.size
  clear b2 FR c0' cf' hs2
  go_wp2_with (first
    | (refine wpList_sl (by rfl) (t := 22) (x := .tmp 18) (lo := some (.tmp 19)) (hi := none) (by rfl) (by rfl) (by rfl) (by rfl) (HR2.out _) ?_)
    | (refine wpList_sl (by rfl) (t := 22) (x := .tmp 25) (lo := some (.tmp 27)) (hi := none) (by rfl) (by rfl) (by rfl) (by rfl) (HR3.out _) ?_)
    | (refine wpList_sl (by rfl) (t := 22) (x := .tmp 33) (lo := none) (hi := some (.tmp 34)) (by rfl) (by rfl) (by rfl) (by rfl) (HR1.out _) ?_)
    | (refine wpList_app (by rfl) (.tmp 29) (.tmp 35) (by rfl) w2.heap.size _ 0 [] (by rfl) (own_eW w2 w2.heap.size w2.heap.size rfl (Nat.le_refl _)) sv1 (L.take fnd) (by rfl) ((HS1.out.below B2.out).below ((Below.refl _ _).alloc (Nat.le_refl _) _)) hTL.out (by simp) ?_
       intro v5 w5 O5 g5
       have b5 : Below w2.heap.size w2 w5 := own_snocW ((Below.refl _ _).alloc (Nat.le_refl _) _) (own_eW w2 w2.heap.size w2.heap.size rfl (Nat.le_refl _)) g5
       have B5 := Lib.hid b5
       have OO5 := Lib.hid O5
       have s0 := (b5.cell (p := ⟨rb, 0, none⟩) hl2).trans t0; have y0 := (b5.cell (p := ⟨w.heap.size, 0, none⟩) hxb).trans z0; have y1 := (b5.cell (p := ⟨w.heap.size, 1, none⟩) hxb).trans z1; have y2 := (b5.cell (p := ⟨w.heap.size, 2, none⟩) hxb).trans z2; have f0 := (b5.frozen (p := ⟨rb, 0, none⟩) hl2).trans tf
       clear b5 g5 O5)
    | (refine wpList_app (by rfl) (.tmp 39) (.tmp 41) (by rfl) w2.heap.size _ _ _ (by rfl) (OO5.out.alloc _) _ [x] (by rfl) (srcOneW' w5 x _ rfl hh) hXL.out (by have := B5.out.size; simp; omega) ?_
       intro v7 w7 O7 g7
       have b7 : Below w2.heap.size w2 w7 := own_snocW (B5.out.alloc B5.out.size _) (OO5.out.alloc _) g7
       have B7 := Lib.hid b7
       have OO7 := Lib.hid O7
       clear s0 y0 y1 y2 f0
       have s0 := (b7.cell (p := ⟨rb, 0, none⟩) hl2).trans t0; have y0 := (b7.cell (p := ⟨w.heap.size, 0, none⟩) hxb).trans z0; have y1 := (b7.cell (p := ⟨w.heap.size, 1, none⟩) hxb).trans z1; have y2 := (b7.cell (p := ⟨w.heap.size, 2, none⟩) hxb).trans z2; have f0 := (b7.frozen (p := ⟨rb, 0, none⟩) hl2).trans tf
       clear b7 g7 O7)
    | (refine wpList_app (by rfl) (.tmp 44) (.tmp 45) (by rfl) w2.heap.size _ _ _ (by rfl) OO7.out sv3 (L.drop (fnd + 1)) (by rfl) ((HS3.out.below B2.out).below B7.out) hDL.out B7.out.size ?_
       intro v8 w8 O8 g8
       have b8 : Below w2.heap.size w2 w8 := own_snocW B7.out OO7.out g8
       have B8 := Lib.hid b8
       obtain ⟨A8, c8, rfl, _⟩ := rowsW_of_own (own_apR HE.out O8)
       have OO8 := Lib.hid (own_apR HE.out O8)
       clear s0 y0 y1 y2 f0
       have s0 := (b8.cell (p := ⟨rb, 0, none⟩) hl2).trans t0; have y0 := (b8.cell (p := ⟨w.heap.size, 0, none⟩) hxb).trans z0; have y1 := (b8.cell (p := ⟨w.heap.size, 1, none⟩) hxb).trans z1; have y2 := (b8.cell (p := ⟨w.heap.size, 2, none⟩) hxb).trans z2; have f0 := (b8.frozen (p := ⟨rb, 0, none⟩) hl2).trans tf
       clear b8 g8 O8))
  go_end0
  obtain ⟨hs, hg⟩ := H0.out.set (B2.out.trans (B8.out.mono hBs.out)) (own_lowerW OO8.out hBs.out)
  exact ⟨rfl, hs, hg⟩

theorem applyR (rb Bs : Nat) (L : List W3) (x : W3) (w : World) (h : RSt rb Bs L w) (hlen : (L.length + 2) * 40 ≤ 140737488355328) :
    Calls Tryd.prog 29 #[.pointer (some ⟨rb, 0, none⟩), .agg #[.string x.key, .string x.val, .bool x.has]] w fun e w' => e = .returned (.tuple #[]) ∧ RSt rb Bs (apR L x) w' ∧ w.grownBy w' (some rb) := by
  cases ha : atW L x.key with
  | true =>
    cases hh : x.has with
    | true => exact applyRYesPut rb Bs L x w h ha hh hlen
    | false => exact applyRYesDel rb Bs L x w h ha hh hlen
  | false =>
    cases hh : x.has with
    | true => exact applyRNoPut rb Bs L x w h ha hh hlen
    | false => exact applyRNoDel rb Bs L x w h ha hh hlen

end Go.Proofs.YthmdnbgfnaokkaaDoor
