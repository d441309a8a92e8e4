/-
  The law's Key, num, knows: by exact answers. No condition.
-/
import Derived.Test.YtfekkfphogjpeaaYnx
namespace Go.Proofs.Ytfekkfphogjpeaa
set_option linter.unusedSimpArgs false
set_option linter.unusedVariables false
open Go.RowKit Go.Maps Go.Sort

set_option maxRecDepth 100000 in
set_option maxHeartbeats 2000000 in
theorem toKey (x : K13) (w : World) : Calls Try.prog 12 #[.agg x.cs] w fun e w' => e = .returned (.agg x.cs) ∧ Below w.heap.size w w' := by
  obtain ⟨W1, hW1⟩ : ∃ W1, w.alloc (.cells x.cs 38) = W1 := ⟨_, rfl⟩
  obtain ⟨W, hW⟩ : ∃ W, W1.alloc (.cells #[.int .u8 0, .int .u8 0, .int .u16 0, .int .u8 0, .int .u16 0, .int .u32 0, .int .u8 0, .int .u8 0, .int .u8 0, .int .u8 0, .int .u8 0, .int .u8 0, .int .u8 0] 50) = W := ⟨_, rfl⟩
  have s1 : W1.heap.size = w.heap.size + 1 := by rw [← hW1]; simp
  have z : Below w.heap.size w W := by rw [← hW, ← hW1]; exact ((Below.refl _ _).alloc (Nat.le_refl _) _).alloc (by simp) _
  have rA : W.heap[w.heap.size]? = some (.cells x.cs 38 (0, 0)) := by rw [← hW, Below.heap_alloc _ _ _ (by omega), ← hW1]; exact heap_alloc_new _ _
  have rZ : W.heap[w.heap.size + 1]? = some (.cells #[.int .u8 0, .int .u8 0, .int .u16 0, .int .u8 0, .int .u16 0, .int .u32 0, .int .u8 0, .int .u8 0, .int .u8 0, .int .u8 0, .int .u8 0, .int .u8 0, .int .u8 0] 50 (0, 0)) := by
    rw [← hW, ← s1]
    exact heap_alloc_new _ _
  unfold K13.cs at rA
  have p0 := cell_regrown (cell_of rA 0 _ rfl)
  have p1 := cell_regrown (cell_of rA 1 _ rfl)
  have p2 := cell_regrown (cell_of rA 2 _ rfl)
  have p3 := cell_regrown (cell_of rA 3 _ rfl)
  have p4 := cell_regrown (cell_of rA 4 _ rfl)
  have p5 := cell_regrown (cell_of rA 5 _ rfl)
  have p6 := cell_regrown (cell_of rA 6 _ rfl)
  have p7 := cell_regrown (cell_of rA 7 _ rfl)
  have p8 := cell_regrown (cell_of rA 8 _ rfl)
  have p9 := cell_regrown (cell_of rA 9 _ rfl)
  have p10 := cell_regrown (cell_of rA 10 _ rfl)
  have p11 := cell_regrown (cell_of rA 11 _ rfl)
  have p12 := cell_regrown (cell_of rA 12 _ rfl)
  have hZ := Lib.hid rZ
  rw [← hW1] at hW
  have HW := Lib.hid hW
  have HZ := Lib.hid z
  have S1 := Lib.hid s1
  unfold K13.cs at HW ⊢
  clear z rA rZ hW hW1 s1
  go_enter Try.func12, Try.ntmps12
  go_wp2_with (rw [HW.out])
  refine region_first_below 9 (by kernel_rfl) (by kernel_rfl) ?_
  simp only [List.take_succ_cons, List.take_zero, List.drop_succ_cons, List.drop_zero]
  repeat (go_big_quiet_step (first | (go_at_call 27; exact Calls.regrown_of ((toProc _ _ _).mono fun _ _ ⟨he, hw⟩ => ⟨he, hw ▸ ((Below.refl _ _).alloc (Nat.le_refl _) _).alloc (by simp) _⟩)) | (go_at_call 28; exact Calls.regrown_of (toID _ _ _ _ _ _ _ _ _ _ _)) | fail))
  refine wpQuiet_nil ?_
  rintro W3 ⟨p, rfl⟩
  have z2 := below_regrown W p.d p.os
  generalize grow (redrawn W p.d) p.os = W2 at *
  clear p0 p1 p2 p3 p4 p5 p6 p7 p8 p9 p10 p11 p12
  have r2 := (z2.block _ (Array.getElem?_eq_some_iff.1 hZ.out).1).trans hZ.out
  have R2 := Lib.hid r2
  have Z2 := Lib.hid (HZ.out.trans (z2.mono HZ.out.size))
  clear z2 r2
  have e1 := S1.out
  go_wp2_with (refine wpList_store_row rfl 50 (.tmp 2) (.tmp 11) rfl (w.heap.size + 1) #[.int .u8 x.k, .int .u8 x.pn, .int .u16 x.pl, .int .u8 x.x.n, .int .u16 x.x.l, .int .u32 x.x.s, .int .u8 x.x.d, .int .u8 x.x.a0, .int .u8 x.x.a1, .int .u8 x.x.b0, .int .u8 x.x.b1, .int .u8 x.x.c0, .int .u8 x.x.c1] (by rfl) (by rfl) 50 #[.int .u8 0, .int .u8 0, .int .u16 0, .int .u8 0, .int .u16 0, .int .u32 0, .int .u8 0, .int .u8 0, .int .u8 0, .int .u8 0, .int .u8 0, .int .u8 0, .int .u8 0] R2.out (by kernel_rfl) rfl (by simp [Value.oneCell']) ?_)
  refine bodyPost_ret (v := .agg #[.int .u8 x.k, .int .u8 x.pn, .int .u16 x.pl, .int .u8 x.x.n, .int .u16 x.x.l, .int .u32 x.x.s, .int .u8 x.x.d, .int .u8 x.x.a0, .int .u8 x.x.a1, .int .u8 x.x.b0, .int .u8 x.x.b1, .int .u8 x.x.c0, .int .u8 x.x.c1]) (results_cell_row (p := 2) (ty := 50) rfl _ _ (w.heap.size + 1) 50 #[.int .u8 x.k, .int .u8 x.pn, .int .u16 x.pl, .int .u8 x.x.n, .int .u16 x.x.l, .int .u32 x.x.s, .int .u8 x.x.d, .int .u8 x.x.a0, .int .u8 x.x.a1, .int .u8 x.x.b0, .int .u8 x.x.b1, .int .u8 x.x.c0, .int .u8 x.x.c1] (0, 0) _ (by rfl) (setRow_heap _ _ _ _ _ _ R2.out) Try.underlying50 rfl (by kernel_rfl)) rfl ?_
  exact ⟨rfl, below_row Z2.out (Nat.le_succ _) _⟩

set_option maxRecDepth 100000 in
set_option maxHeartbeats 1000000 in
theorem numW (n : Int) (w : World) : Calls Try.prog 10 #[.int .i64 n] w fun e w' => e = .returned (.int .i64 n) ∧ w = w' := by
  go_enter Try.func10, Try.ntmps10
  go_wp2
  go_ret
  exact ⟨rfl, rfl⟩

def kk (n : Int) : K13 := ⟨n, 0, 0, ⟨0, 0, 0, 0, 0, 0, 0, 0, 0, 0⟩⟩
theorem kk_rng (n : Int) (h : 0 ≤ n ∧ n ≤ 255) : (kk n).Rng := ⟨h, by simp [kk], by simp [kk], ⟨by simp [kk], by simp [kk], by simp [kk], by simp [kk], by simp [kk], by simp [kk], by simp [kk], by simp [kk], by simp [kk], by simp [kk]⟩⟩
set_option maxRecDepth 100000 in
set_option maxHeartbeats 4000000 in
theorem knowsW (W : World) : Calls Try.prog 7 #[] W fun e W' => e = .returned (.bool true) ∧ Below W.heap.size W W' := by
  have K0 := Lib.hid (newW 2 W)
  go_enter Try.func7, Try.ntmps7
  go_wp2_with fail
  refine K0.out.mono ?_
  rintro e W1 ⟨rfl, P1, b1⟩
  have k1 := set_new W1 _ _ _ _ [] (kk 1) 5 (kk_rng 1 (by omega)) P1 (by omega) (fun t h => by cases h) (by decide)
  unfold kk K13.cs at k1
  have K1 := Lib.hid k1
  have B1 := Lib.hid b1
  clear k1 P1 b1
  go_wp2_with fail
  refine K1.out.mono ?_
  rintro e W2 ⟨rfl, P2, g2⟩
  have k2 := set_new W2 _ _ _ _ _ (kk 2) 3 (kk_rng 2 (by omega)) P2 (by omega) (fun t h => by simp [outK] at h; subst h; simp [kk]) (by decide)
  unfold kk K13.cs at k2
  have K2 := Lib.hid k2
  have B2 := Lib.hid (below_grown B1.out g2 (fun k e => by cases e; exact Nat.le_refl _))
  clear k2 P2 g2
  go_wp2_with fail
  refine K2.out.mono ?_
  rintro e W3 ⟨rfl, P3, g3⟩
  have k3 := dueW W3 _ _ _ _ _ 4 P3 (by decide)
  have K3 := Lib.hid k3
  have B3 := Lib.hid (below_grown B2.out g3 (fun k e => by cases e; exact Nat.le_refl _))
  clear k3 P3 g3
  go_wp2_with fail
  refine K3.out.mono ?_
  rintro e W4 ⟨v, S, rfl, hp, -, hO, P4, g4⟩
  have eS : S = [⟨3, kk 2⟩] := List.perm_singleton.1 (hp.trans (List.Perm.of_eq (by decide)))
  subst eS
  obtain ⟨A, c, rfl, h1, h2, h3, -⟩ := own_form hO
  obtain ⟨g, rfl, hg, -⟩ := h3 (by decide)
  have c0 : W4.cell? ⟨g, 0, none⟩ = some (.int .u8 2) := own_cell hO 0 _ rfl
  have K4 := Lib.hid (lenW W4 _ _ _ _ _ P4)
  have B4 := Lib.hid (below_grown B3.out g4 (fun k e => by cases e; exact Nat.le_refl _))
  have el : (late 4 (⟨3, kk 2⟩ :: outK (⟨5, kk 1⟩ :: outK [] (kk 1)) (kk 2))).length = 1 := by decide
  change Hid (Calls _ _ _ _ fun e W' => e = .returned (.int .i64 ((late 4 (⟨3, kk 2⟩ :: outK (⟨5, kk 1⟩ :: outK [] (kk 1)) (kk 2))).length : Int)) ∧ _) at K4
  rw [el] at K4
  clear hp hO P4 g4 h1 h2 h3 el
  go_wp2_with (first | (go_at_call 10; refine (numW _ _).mono ?_; rintro e w' ⟨rfl, rfl⟩) | (go_at_call 23; refine K4.out.mono ?_; rintro e w' ⟨rfl, rfl⟩))
  go_ret
  exact ⟨rfl, B4.out⟩

end Go.Proofs.Ytfekkfphogjpeaa
