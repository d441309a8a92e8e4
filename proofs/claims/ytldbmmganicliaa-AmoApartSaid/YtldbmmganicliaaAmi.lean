/-
  The law's Res, RefRes, num, knows: by exact answers. No condition.
-/
import Derived.Test.YtldbmmganicliaaAmg
import Derived.Test.YtldbmmganicliaaConv
import Derived.Test.YtldbmmganicliaaAmh
import Derived.Test.YtldbmmganicliaaAdg
namespace Go.Proofs.Ytldbmmganicliaa
set_option linter.unusedSimpArgs false
set_option linter.unusedVariables false
open Go.RowKit Go.Maps Go.Sort

set_option maxRecDepth 100000 in
set_option maxHeartbeats 1000000 in
theorem numA (n : Int) (w : World) : Calls Try.prog 11 #[.int .i64 n] w fun e w' => e = .returned (.int .i64 n) ∧ w = w' := by
  go_enter Try.func11, Try.ntmps11
  go_wp2
  go_ret
  exact ⟨rfl, rfl⟩
theorem set_same2 (a b : Value) (t : TypeId) (W : World) (g : Nat) (u v : Value) (h : W.heap[g]? = some (.cells #[u, v] t (0, 0))) : ((W.setCell ⟨g, 0, none⟩ a).setCell ⟨g, 1, none⟩ b).heap[g]? = some (.cells #[a, b] t (0, 0)) := by
  have h1 := row_set (i := 0) h a
  have h2 := row_set (i := 1) h1 b
  simpa using h2
set_option maxRecDepth 100000 in
set_option maxHeartbeats 4000000 in
theorem toResA (code : Int) (val : ByteArray) (W : World) : Calls Try.prog 15 #[.agg #[.int .u8 code, .string val]] W fun e W' => e = .returned (.agg #[.int .u8 code, .string val]) ∧ Below W.heap.size W W' := by
  obtain ⟨W1, hW1⟩ : ∃ z, W.alloc (.cells #[.int .u8 code, .string val] 45) = z := ⟨_, rfl⟩
  have b1 : Below W.heap.size W W1 := by rw [← hW1]; exact (Below.refl _ _).alloc (Nat.le_refl _) _
  obtain ⟨kx, hkx⟩ : ∃ z, W.heap.size = z := ⟨_, rfl⟩
  have hs1 : W1.heap.size = kx + 1 := by rw [← hW1, World.size_alloc, hkx]
  have R2 : (W1.alloc (.cells #[.int .u8 code, .string val] 53)).heap[kx + 1]? = some (.cells #[.int .u8 code, .string val] 53 (0, 0)) := by rw [← hs1]; exact heap_alloc_new _ _
  have b2 : Below kx W (W1.alloc (.cells #[.int .u8 code, .string val] 53)) := (hkx ▸ b1 : Below kx W W1).alloc (by omega) _
  subst hW1
  have BK := Lib.hid b2
  have HY := Lib.hid R2
  clear b1 b2 R2 hs1
  rw [hkx]
  go_enter Try.func15, Try.ntmps15
  go_wp2
  try rw [hkx]
  exact bodyPost_ret (v := .agg #[.int .u8 code, .string val]) (results_cell_row (p := 2) (ty := 53) rfl _ _ (kx + 1) 53 _ (0, 0) _ (by rfl) HY.out Try.underlying53 rfl (by kernel_rfl)) rfl ⟨rfl, BK.out⟩
set_option maxRecDepth 100000 in
set_option maxHeartbeats 4000000 in
theorem refResA (code : Int) (val : ByteArray) (W : World) : Calls Try.prog 22 #[.agg #[.int .u8 code, .string val]] W fun e W' => e = .returned (.agg #[.int .u8 code, .string val]) ∧ Below W.heap.size W W' := by
  obtain ⟨W1, hW1⟩ : ∃ z, W.alloc (.cells #[.int .u8 code, .string val] 53) = z := ⟨_, rfl⟩
  have b1 : Below W.heap.size W W1 := by rw [← hW1]; exact (Below.refl _ _).alloc (Nat.le_refl _) _
  obtain ⟨kx, hkx⟩ : ∃ z, W.heap.size = z := ⟨_, rfl⟩
  have hs1 : W1.heap.size = kx + 1 := by rw [← hW1, World.size_alloc, hkx]
  have R2 : (W1.alloc (.cells #[.int .u8 code, .string val] 45)).heap[kx + 1]? = some (.cells #[.int .u8 code, .string val] 45 (0, 0)) := by rw [← hs1]; exact heap_alloc_new _ _
  have b2 : Below kx W (W1.alloc (.cells #[.int .u8 code, .string val] 45)) := (hkx ▸ b1 : Below kx W W1).alloc (by omega) _
  subst hW1
  have BK := Lib.hid b2
  have HY := Lib.hid R2
  clear b1 b2 R2 hs1
  rw [hkx]
  go_enter Try.func22, Try.ntmps22
  go_wp2
  try rw [hkx]
  exact bodyPost_ret (v := .agg #[.int .u8 code, .string val]) (results_cell_row (p := 2) (ty := 45) rfl _ _ (kx + 1) 45 _ (0, 0) _ (by rfl) HY.out Try.underlying45 rfl (by kernel_rfl)) rfl ⟨rfl, BK.out⟩
def kd : I10 := ⟨1, 1, 1, 0, 0, 0, 0, 0, 0, 0⟩
def kt0 : Tt := ⟨min (max 2 1) 16, [], []⟩
def kt1 : Tt := ⟨2, [⟨kd, false, 0, ⟨#[]⟩⟩], []⟩
def kt2 : Tt := ⟨2, [⟨kd, true, 0, ⟨#[120]⟩⟩], []⟩
theorem kbeg0 : kt0.beg kd = (0, kt1) := by kernel_rfl
theorem kbeg1 : kt1.beg kd = (4, kt1) := by kernel_rfl
theorem kfin1 : kt1.fin kd 0 ⟨#[120]⟩ = (true, kt2) := by kernel_rfl
theorem krow2 : kt2.row kd = ⟨kd, true, 0, ⟨#[120]⟩⟩ := by kernel_rfl
theorem kdRng : kd.Rng := ⟨by simp [kd], by simp [kd], by simp [kd], by simp [kd], by simp [kd], by simp [kd], by simp [kd], by simp [kd], by simp [kd], by simp [kd]⟩
set_option maxRecDepth 100000 in
set_option maxHeartbeats 4000000 in
theorem knowsA (W : World) : Calls Try.prog 7 #[] W fun e W' => e = .returned (.bool true) ∧ Below W.heap.size W W' := by
  obtain ⟨n, hn⟩ : ∃ z, W.heap.size = z := ⟨_, rfl⟩
  have K0 := Lib.hid (aNew 2 W)
  rw [hn] at K0 ⊢
  go_enter Try.func7, Try.ntmps7
  go_wp2_with fail
  refine K0.out.mono ?_
  rintro e W1 ⟨rfl, P1, b1, hs⟩
  obtain ⟨W2, hW2⟩ : ∃ z, W1.alloc (.cells #[.int .u8 1, .int .u16 1, .int .u32 1, .int .u8 0, .int .u8 0, .int .u8 0, .int .u8 0, .int .u8 0, .int .u8 0, .int .u8 0] 37) = z := ⟨_, rfl⟩
  have b2 : Below (n + 3) W1 W2 := by rw [← hW2]; exact (Below.refl _ _).alloc (by omega) _
  have r2 : W2.heap[n + 3]? = some (.cells #[.int .u8 1, .int .u16 1, .int .u32 1, .int .u8 0, .int .u8 0, .int .u8 0, .int .u8 0, .int .u8 0, .int .u8 0, .int .u8 0] 37 (0, 0)) := by rw [← hW2, ← hs]; exact heap_alloc_new _ _
  have P2 := P1.belowB b2 (by omega) (by omega) (by omega)
  have k1 := aBegin W2 _ _ _ _ kt0 P2 kd kdRng (by omega)
  rw [kbeg0] at k1
  dsimp only [kd] at k1
  have K1 := Lib.hid k1
  have BW : Hid (Below n W W2) := Lib.hid (b1.trans (b2.mono (by omega)))
  have HR := Lib.hid r2
  have HW2 := Lib.hid hW2
  have HS := Lib.hid hs
  clear k1 P1 P2 b1 b2 hW2 K0 hn
  have z0 := cell_of r2 0 (.int .u8 1) rfl
  have z1 := cell_of r2 1 (.int .u16 1) rfl
  have z2 := cell_of r2 2 (.int .u32 1) rfl
  have z3 := cell_of r2 3 (.int .u8 0) rfl
  have z4 := cell_of r2 4 (.int .u8 0) rfl
  have z5 := cell_of r2 5 (.int .u8 0) rfl
  have z6 := cell_of r2 6 (.int .u8 0) rfl
  have z7 := cell_of r2 7 (.int .u8 0) rfl
  have z8 := cell_of r2 8 (.int .u8 0) rfl
  have z9 := cell_of r2 9 (.int .u8 0) rfl
  clear r2
  go_wp2_with (first | rw [HW2.out] | fail)
  try rw [HS.out]
  try rw [HW2.out]
  refine K1.out.mono ?_
  rintro e Wb ⟨rfl, P3, k3⟩
  have BW : Hid (Below n W Wb) := Lib.hid (BW.out.trans (k3.below (by have := bltA HR.out; omega) (fun q e => by omega)))
  have HR : Hid (Wb.heap[n + 3]? = some (.cells #[.int .u8 1, .int .u16 1, .int .u32 1, .int .u8 0, .int .u8 0, .int .u8 0, .int .u8 0, .int .u8 0, .int .u8 0, .int .u8 0] 37 (0, 0))) := Lib.hid ((k3.block _ (bltA HR.out) (by omega)).trans HR.out)
  clear k3 z0 z1 z2 z3 z4 z5 z6 z7 z8 z9
  have z0 := cell_of HR.out 0 (.int .u8 1) rfl
  have z1 := cell_of HR.out 1 (.int .u16 1) rfl
  have z2 := cell_of HR.out 2 (.int .u32 1) rfl
  have z3 := cell_of HR.out 3 (.int .u8 0) rfl
  have z4 := cell_of HR.out 4 (.int .u8 0) rfl
  have z5 := cell_of HR.out 5 (.int .u8 0) rfl
  have z6 := cell_of HR.out 6 (.int .u8 0) rfl
  have z7 := cell_of HR.out 7 (.int .u8 0) rfl
  have z8 := cell_of HR.out 8 (.int .u8 0) rfl
  have z9 := cell_of HR.out 9 (.int .u8 0) rfl
  have k2 := aBegin Wb _ _ _ _ kt1 P3 kd kdRng (by omega)
  rw [kbeg1] at k2
  dsimp only [kd] at k2
  have K2 := Lib.hid k2
  clear k2 P3
  go_wp2_with fail
  refine K2.out.mono ?_
  rintro e Wc ⟨rfl, P3, k3⟩
  have BW : Hid (Below n W Wc) := Lib.hid (BW.out.trans (k3.below (by have := bltA HR.out; omega) (fun q e => by omega)))
  have HR : Hid (Wc.heap[n + 3]? = some (.cells #[.int .u8 1, .int .u16 1, .int .u32 1, .int .u8 0, .int .u8 0, .int .u8 0, .int .u8 0, .int .u8 0, .int .u8 0, .int .u8 0] 37 (0, 0))) := Lib.hid ((k3.block _ (bltA HR.out) (by omega)).trans HR.out)
  clear k3 z0 z1 z2 z3 z4 z5 z6 z7 z8 z9
  have z0 := cell_of HR.out 0 (.int .u8 1) rfl
  have z1 := cell_of HR.out 1 (.int .u16 1) rfl
  have z2 := cell_of HR.out 2 (.int .u32 1) rfl
  have z3 := cell_of HR.out 3 (.int .u8 0) rfl
  have z4 := cell_of HR.out 4 (.int .u8 0) rfl
  have z5 := cell_of HR.out 5 (.int .u8 0) rfl
  have z6 := cell_of HR.out 6 (.int .u8 0) rfl
  have z7 := cell_of HR.out 7 (.int .u8 0) rfl
  have z8 := cell_of HR.out 8 (.int .u8 0) rfl
  have z9 := cell_of HR.out 9 (.int .u8 0) rfl
  have k2 := aEnd Wc _ _ _ _ kt1 P3 kd kdRng 0 ⟨#[120]⟩ (by omega) (by omega)
  rw [kfin1] at k2
  dsimp only [kd] at k2
  have K2 := Lib.hid k2
  clear k2 P3
  go_wp2_with fail
  refine K2.out.mono ?_
  rintro e Wd ⟨rfl, P3, k3⟩
  have BW : Hid (Below n W Wd) := Lib.hid (BW.out.trans (k3.below (by have := bltA HR.out; omega) (fun q e => by omega)))
  have HR : Hid (Wd.heap[n + 3]? = some (.cells #[.int .u8 1, .int .u16 1, .int .u32 1, .int .u8 0, .int .u8 0, .int .u8 0, .int .u8 0, .int .u8 0, .int .u8 0, .int .u8 0] 37 (0, 0))) := Lib.hid ((k3.block _ (bltA HR.out) (by omega)).trans HR.out)
  clear k3 z0 z1 z2 z3 z4 z5 z6 z7 z8 z9
  have z0 := cell_of HR.out 0 (.int .u8 1) rfl
  have z1 := cell_of HR.out 1 (.int .u16 1) rfl
  have z2 := cell_of HR.out 2 (.int .u32 1) rfl
  have z3 := cell_of HR.out 3 (.int .u8 0) rfl
  have z4 := cell_of HR.out 4 (.int .u8 0) rfl
  have z5 := cell_of HR.out 5 (.int .u8 0) rfl
  have z6 := cell_of HR.out 6 (.int .u8 0) rfl
  have z7 := cell_of HR.out 7 (.int .u8 0) rfl
  have z8 := cell_of HR.out 8 (.int .u8 0) rfl
  have z9 := cell_of HR.out 9 (.int .u8 0) rfl
  have k2 := aRes Wd _ _ _ _ kt2 P3 kd kdRng
  rw [krow2] at k2
  dsimp only [kd] at k2
  have K2 := Lib.hid k2
  have HP := Lib.hid P3
  clear k2 P3
  go_wp2_with fail
  refine K2.out.mono ?_
  rintro e We ⟨rfl, be⟩
  have HP := Lib.hid (HP.out.below be)
  have BW : Hid (Below n W We) := Lib.hid (BW.out.trans (be.mono (by have := bltA HR.out; omega)))
  obtain ⟨Wf, hWf⟩ : ∃ z, We.alloc (.cells #[.int .u8 0, .string ⟨#[120]⟩] 53) = z := ⟨_, rfl⟩
  have bf : Below We.heap.size We Wf := by rw [← hWf]; exact (Below.refl _ _).alloc (Nat.le_refl _) _
  have rf : Wf.heap[We.heap.size]? = some (.cells #[.int .u8 0, .string ⟨#[120]⟩] 53 (0, 0)) := by rw [← hWf]; exact heap_alloc_new _ _
  have hne : n ≤ We.heap.size := by have := HP.out.ml; omega
  have hLn := aLen Wf _ _ _ _ kt2 (HP.out.below bf)
  rw [show ((kt2.L.length : Nat) : Int) = 1 from rfl] at hLn
  have HLn := Lib.hid hLn
  have BW : Hid (Below n W Wf) := Lib.hid (BW.out.trans (bf.mono hne))
  have f0 := cell_of rf 0 (.int .u8 0) rfl
  have f1 := cell_of rf 1 (.string ⟨#[120]⟩) rfl
  have HWf := Lib.hid hWf
  clear be bf rf hWf hne HR hLn
  clear z0 z1 z2 z3 z4 z5 z6 z7 z8 z9
  go_wp2_with fail
  rw [HWf.out]
  refine (numA _ _).mono ?_
  rintro e wn ⟨rfl, rfl⟩
  go_wp2_with fail
  refine (numA _ _).mono ?_
  rintro e wn ⟨rfl, rfl⟩
  go_wp2_with fail
  refine HLn.out.mono ?_
  rintro e wn ⟨rfl, rfl⟩
  go_wp2_with fail
  go_ret
  exact ⟨rfl, BW.out⟩

end Go.Proofs.Ytldbmmganicliaa
