/-
  The store's numbered and write, by contracts.
-/
import Derived.Test.YthmdnbgfnaokkaaDoorQnum
import Derived.Test.YthmdnbgfnaokkaaDoorQmad
namespace Go.Proofs.YthmdnbgfnaokkaaDoor
set_option linter.unusedSimpArgs false
set_option linter.unusedVariables false
open Go.RowKit Go.Sort


theorem box3n {W1 : World} {n : Nat} {k v h u0 u1 u2 : Value} (d0 : W1.cell? ⟨n, 0, none⟩ = some u0) (d1 : W1.cell? ⟨n, 1, none⟩ = some u1) (d2 : W1.cell? ⟨n, 2, none⟩ = some u2) :
    (((W1.setCell ⟨n, 0, none⟩ k).setCell ⟨n, 1, none⟩ v).setCell ⟨n, 2, none⟩ h).cell? ⟨n, 0, none⟩ = some k ∧ (((W1.setCell ⟨n, 0, none⟩ k).setCell ⟨n, 1, none⟩ v).setCell ⟨n, 2, none⟩ h).cell? ⟨n, 1, none⟩ = some v ∧
    (((W1.setCell ⟨n, 0, none⟩ k).setCell ⟨n, 1, none⟩ v).setCell ⟨n, 2, none⟩ h).cell? ⟨n, 2, none⟩ = some h ∧ (W1.setCell ⟨n, 0, none⟩ k).cell? ⟨n, 0, none⟩ = some k ∧ ((W1.setCell ⟨n, 0, none⟩ k).setCell ⟨n, 1, none⟩ v).cell? ⟨n, 1, none⟩ = some v := by
  have hl : n < W1.heap.size := World.block_lt_of_cell? W1 _ d0
  refine ⟨?_, ?_, ?_, ?_, ?_⟩
  all_goals go_simp
set_option maxRecDepth 100000 in
set_option maxHeartbeats 1000000 in
theorem numberedS (key : ByteArray) (v : Int) (w : World) (B : Nat) (h0 : -9223372036854775808 ≤ v) (h1 : v ≤ 9223372036854775807) (ht : Env B w) :
    Calls Tryd.prog 71 #[.string key, .int .i64 v] w fun e w' => e = .returned (.agg #[.string key, .string (digN v), .bool true]) ∧ Below w.heap.size w w' := by
  have bx : Below w.heap.size w (w.alloc (.cells #[.string ByteArray.empty, .string ByteArray.empty, .bool false] 75)) := (Below.refl _ _).alloc (Nat.le_refl _) _
  have BX := Lib.hid bx
  have FN := Lib.hid (fun (W : World) (hW : Below w.heap.size w W) => fmtN v W B h0 h1 (ht.on hW))
  clear bx ht
  go_enter Tryd.func71, Tryd.ntmps71
  go_wp2_with fail
  go_at_call 85
  refine (FN.out _ BX.out).mono ?_
  rintro e W1 ⟨rfl, b1⟩
  have nb := fun j => (b1.cell (p := ⟨w.heap.size, j, none⟩) (by simp)).trans (cell_of_row _ _ j #[.string ByteArray.empty, .string ByteArray.empty, .bool false] 75 (0, 0) (heap_alloc_new w _))
  have d0 : W1.cell? ⟨w.heap.size, 0, none⟩ = some (.string ByteArray.empty) := nb 0
  have d1 : W1.cell? ⟨w.heap.size, 1, none⟩ = some (.string ByteArray.empty) := nb 1
  have d2 : W1.cell? ⟨w.heap.size, 2, none⟩ = some (.bool false) := nb 2
  have f0 : W1.frozen? ⟨w.heap.size, 0, none⟩ = false := (b1.frozen (p := ⟨w.heap.size, 0, none⟩) (by simp)).trans (World.frozen?_alloc_new _ _ _ _)
  have f1 : W1.frozen? ⟨w.heap.size, 1, none⟩ = false := (b1.frozen (p := ⟨w.heap.size, 1, none⟩) (by simp)).trans (World.frozen?_alloc_new _ _ _ _)
  have f2 : W1.frozen? ⟨w.heap.size, 2, none⟩ = false := (b1.frozen (p := ⟨w.heap.size, 2, none⟩) (by simp)).trans (World.frozen?_alloc_new _ _ _ _)
  have B1 := Lib.hid (BX.out.trans (b1.mono BX.out.size))
  clear b1 nb
  go_wp2
  obtain ⟨q0, q1, q2, q3, q4⟩ := box3n (k := .string key) (v := .string (digN v)) (h := .bool true) d0 d1 d2
  exact bodyPost_ret (v := .agg #[.string key, .string (digN v), .bool true]) (by simp [results, Tryd.results71, go_sem, q0, q1, q2, q3, q4]) rfl ⟨rfl, (by repeat (first | exact B1.out | (refine Below.setCell ?_ (by first | omega | (simp; done) | (simp; omega)) _)))⟩

set_option maxRecDepth 100000 in
set_option maxHeartbeats 1000000 in
theorem writeS (b bm k : Nat) (L : List W3) (x : W3) (W : World) (h : PSt b bm k L W) (hb : b ≠ bm) (hk : x.key.size ≤ maxLen) (hkk : k < maxLen) :
    Calls Tryd.prog 35 #[.pointer (some ⟨b, 0, none⟩), .agg #[.string x.key, .string x.val, .bool x.has]] W fun e W' => (∃ A, e = .returned (.slice (some A) 1 1)) ∧ PSt b bm (k + 1) (appW L x) W' ∧ W.grownBy W' (some bm) := by
  have b1 : Below W.heap.size W ((W.alloc (.cells #[.string x.key, .string x.val, .bool x.has] 75)).alloc (.cells #[.string x.key, .string x.val, .bool x.has] 75)) := ((Below.refl _ _).alloc (Nat.le_refl _) _).alloc (by simp) _
  have P1 := Lib.hid (h.below b1)
  have G1 := Lib.hid (grown_of_belowW b1 (some bm))
  have y0 : (W.alloc (.cells #[.string x.key, .string x.val, .bool x.has] 75)).cell? ⟨W.heap.size, 0, none⟩ = some (.string x.key) := new_cellW W #[.string x.key, .string x.val, .bool x.has] 75 0 _ rfl
  have y1 : (W.alloc (.cells #[.string x.key, .string x.val, .bool x.has] 75)).cell? ⟨W.heap.size, 1, none⟩ = some (.string x.val) := new_cellW W #[.string x.key, .string x.val, .bool x.has] 75 1 _ rfl
  have y2 : (W.alloc (.cells #[.string x.key, .string x.val, .bool x.has] 75)).cell? ⟨W.heap.size, 2, none⟩ = some (.bool x.has) := new_cellW W #[.string x.key, .string x.val, .bool x.has] 75 2 _ rfl
  have OB := Lib.hid (rowsW_one (W.alloc (.cells #[.string x.key, .string x.val, .bool x.has] 75)) x (W.heap.size + 1) 75 (by simp))
  clear b1 h
  go_enter Tryd.func35, Tryd.ntmps35
  go_wp2_with (go_at_call 27; refine (applyOne b bm k L _ x _ _ P1.out hb OB.out (by omega) hk hkk).mono ?_; rintro e w3 ⟨rfl, P3, g3⟩)
  go_ret
  exact ⟨⟨_, rfl⟩, P3, G1.out.trans g3⟩

end Go.Proofs.YthmdnbgfnaokkaaDoor
