/-
  The program's table: Floor, Len, Res, by exact answers. Condition: the table lies in memory, numbers fit their kinds.
-/
import Derived.Test.YtldbmmganicliaaAmc
namespace Go.Proofs.Ytldbmmganicliaa
set_option linter.unusedSimpArgs false
set_option linter.unusedVariables false
open Go.RowKit Go.Maps Go.Sort

set_option maxRecDepth 100000 in
set_option maxHeartbeats 4000000 in
theorem aFloor (W : World) (b m k c : Nat) (t : Tt) (h : PT W b m k c t) (n l : Int) (rn : 0 ≤ n ∧ n ≤ 255) (rl : 0 ≤ l ∧ l ≤ 65535) :
    Calls Try.prog 25 #[.pointer (some ⟨b, 0, none⟩), .agg #[.int .u8 n, .int .u16 l]] W fun e W' => e = .returned (.int .u32 (floorF t.F n l)) ∧ Below W.heap.size W W' := by
  obtain ⟨W1, hW1⟩ : ∃ z, W.alloc (.cells #[.int .u8 n, .int .u16 l] 31) = z := ⟨_, rfl⟩
  have b1 : Below W.heap.size W W1 := by rw [← hW1]; exact (Below.refl _ _).alloc (Nat.le_refl _) _
  obtain ⟨kx, hkx⟩ : ∃ z, W.heap.size = z := ⟨_, rfl⟩
  have R1 : W1.heap[kx]? = some (.cells #[.int .u8 n, .int .u16 l] 31 (0, 0)) := by rw [← hW1, ← hkx]; exact heap_alloc_new _ _
  have h1 := h.below b1
  obtain ⟨es, cl, hmap, hl⟩ := h1.lookF n l rn rl
  obtain ⟨f, hf⟩ : ∃ f, floorF t.F n l = f := ⟨_, rfl⟩
  rw [hf] at hl ⊢
  have HL := Lib.hid hl
  have HS0 : Hid (W1.heap[b]? = some (.cells #[.int .u32 t.win, .map (some m), .map (some k)] 85 (0, 0)) ∧ W1.heap[kx]? = some (.cells #[.int .u8 n, .int .u16 l] 31 (0, 0)) ∧ W1.heap[k]? = some (.map es cl)) := Lib.hid ⟨h1.blk, R1, hmap⟩
  have B1 : Hid (Below kx W W1) := Lib.hid (hkx ▸ b1)
  have KM := Lib.hid (aMade W1 b m k c t h1)
  have HW1 := Lib.hid hW1
  have HKX := Lib.hid hkx
  clear h h1 b1 hW1 R1 hmap hl rn rl hf
  rw [hkx]
  go_enter Try.func25, Try.ntmps25
  go_wp2_with (first | rw [HW1.out, HKX.out] | (go_at_call 35; rw [HW1.out]; refine KM.out.mono ?_; rintro e w1 ⟨rfl, rfl⟩) | fail)
  refine region_heldT (S := fun X : World => (X.heap[b]? = some (.cells #[.int .u32 t.win, .map (some m), .map (some k)] 85 (0, 0)) ∧ X.heap[kx]? = some (.cells #[.int .u8 n, .int .u16 l] 31 (0, 0)) ∧ X.heap[k]? = some (.map es cl))) 6 (by kernel_rfl) (by decide) (fun inv => ?_)
  have HS : (W1.drew.heap[b]? = some (.cells #[.int .u32 t.win, .map (some m), .map (some k)] 85 (0, 0)) ∧ W1.drew.heap[kx]? = some (.cells #[.int .u8 n, .int .u16 l] 31 (0, 0)) ∧ W1.drew.heap[k]? = some (.map es cl)) := HS0.out
  have BZ : Hid (Below kx W W1.drew) := Lib.hid B1.out.drew
  change FirstH _ _ _ _ _ _ _ _ _ _ W1.drew
  generalize W1.drew = wd at *
  refine FirstH.go (i := 0) (v := .pointer (some ⟨b, 0, none⟩)) rfl rfl 8 rfl (Op.move (Operand.tmp 0)) rfl (by kernel_rfl) (fun _ _ _ h => h) inv (fun W hS => by unfold bareO; go_simp) HS (fun inv => ?_)
  try simp only [Act.put, List.setIfInBounds_toArray, List.set_cons_zero, List.set_cons_succ]
  refine FirstH.go (i := 1) (v := .pointer (some ⟨b, 0, none⟩)) rfl rfl 9 rfl (Op.nilCheck (Operand.tmp 8)) rfl (by kernel_rfl) (fun _ _ _ h => h) inv (fun W hS => by unfold bareO; go_simp) HS (fun inv => ?_)
  try simp only [Act.put, List.setIfInBounds_toArray, List.set_cons_zero, List.set_cons_succ]
  refine FirstH.go (i := 2) (v := .pointer (some ⟨b, 2, none⟩)) rfl rfl 10 rfl (Op.fieldAddr 85 (Operand.tmp 9) 2) rfl (by kernel_rfl) (fun _ _ _ h => h) inv (fun W hS => by unfold bareO; go_simp) HS (fun inv => ?_)
  try simp only [Act.put, List.setIfInBounds_toArray, List.set_cons_zero, List.set_cons_succ]
  refine FirstH.go (i := 3) (v := .map (some k)) rfl rfl 11 rfl (Op.load 83 (Operand.tmp 10)) rfl (by kernel_rfl) (fun _ _ _ h => h) inv (fun W hS => by have c := cell_of hS.1 2 (.map (some k)) rfl; unfold bareO; go_simp) HS (fun inv => ?_)
  try simp only [Act.put, List.setIfInBounds_toArray, List.set_cons_zero, List.set_cons_succ]
  refine FirstH.go (i := 4) (v := .agg #[.int .u8 n, .int .u16 l]) rfl rfl 12 rfl (Op.load 31 (Operand.tmp 3)) rfl (by kernel_rfl) (fun _ _ _ h => h) inv (fun W hS => by exact run_load_row 31 31 _ kx (by rfl) 31 #[.int .u8 n, .int .u16 l] (0, 0) _ hS.2.1 Try.underlying31 rfl (by kernel_rfl)) HS (fun inv => ?_)
  try simp only [Act.put, List.setIfInBounds_toArray, List.set_cons_zero, List.set_cons_succ]
  refine FirstH.go (i := 5) (v := .int .u32 f) rfl rfl 13 rfl (Op.lookup 83 (Operand.tmp 11) (Operand.tmp 12) false) rfl (by kernel_rfl) (fun _ _ _ h => h) inv (fun W hS => by have l := HL.out W hS.2.2; unfold bareO; go_simp) HS (fun inv => ?_)
  try simp only [Act.put, List.setIfInBounds_toArray, List.set_cons_zero, List.set_cons_succ]
  refine ⟨by kernel_rfl, ?_⟩
  simp only [List.drop_succ_cons, List.drop_zero]
  go_wp2
  go_ret
  exact ⟨rfl, BZ.out⟩
set_option maxRecDepth 100000 in
set_option maxHeartbeats 4000000 in
theorem aLen (W : World) (b m k c : Nat) (t : Tt) (h : PT W b m k c t) :
    Calls Try.prog 27 #[.pointer (some ⟨b, 0, none⟩)] W fun e W' => e = .returned (.int .i64 t.L.length) ∧ W = W' := by
  have c1 := cell_of h.blk 1 (.map (some m)) rfl
  have hlen := fun ty => h.lenM ty
  have KM := Lib.hid (aMade W b m k c t h)
  generalize t.L.length = n at *
  clear h
  go_enter Try.func27, Try.ntmps27
  go_wp2_with (first | (go_at_call 35; refine KM.out.mono ?_; rintro e w1 ⟨rfl, rfl⟩) | fail)
  go_ret
  exact ⟨rfl, rfl⟩
set_option maxRecDepth 100000 in
set_option maxHeartbeats 4000000 in
theorem aRes (W : World) (b m k c : Nat) (t : Tt) (h : PT W b m k c t) (x : I10) (rx : x.Rng) :
    Calls Try.prog 20 #[.pointer (some ⟨b, 0, none⟩), .agg #[.int .u8 x.n, .int .u16 x.l, .int .u32 x.s, .int .u8 x.d, .int .u8 x.a0, .int .u8 x.a1, .int .u8 x.b0, .int .u8 x.b1, .int .u8 x.c0, .int .u8 x.c1]] W fun e W' => e = .returned (.tuple #[.agg #[.int .u8 (t.row x).code, .string (t.row x).val], .bool (t.row x).en]) ∧ Below W.heap.size W W' := by
  obtain ⟨W1, hW1⟩ : ∃ z, W.alloc (.cells #[.int .u8 x.n, .int .u16 x.l, .int .u32 x.s, .int .u8 x.d, .int .u8 x.a0, .int .u8 x.a1, .int .u8 x.b0, .int .u8 x.b1, .int .u8 x.c0, .int .u8 x.c1] 37) = z := ⟨_, rfl⟩
  have b1 : Below W.heap.size W W1 := by rw [← hW1]; exact (Below.refl _ _).alloc (Nat.le_refl _) _
  obtain ⟨kx, hkx⟩ : ∃ z, W.heap.size = z := ⟨_, rfl⟩
  have R1 : W1.heap[kx]? = some (.cells #[.int .u8 x.n, .int .u16 x.l, .int .u32 x.s, .int .u8 x.d, .int .u8 x.a0, .int .u8 x.a1, .int .u8 x.b0, .int .u8 x.b1, .int .u8 x.c0, .int .u8 x.c1] 37 (0, 0)) := by rw [← hW1, ← hkx]; exact heap_alloc_new _ _
  obtain ⟨W2, hW2⟩ : ∃ z, W1.alloc (.cells #[.int .u8 0, .string ⟨#[]⟩] 53) = z := ⟨_, rfl⟩
  have hs1 : W1.heap.size = kx + 1 := by rw [← hW1, World.size_alloc, hkx]
  have b12 : Below W1.heap.size W1 W2 := by rw [← hW2]; exact (Below.refl _ _).alloc (Nat.le_refl _) _
  have R2 : W2.heap[kx + 1]? = some (.cells #[.int .u8 0, .string ⟨#[]⟩] 53 (0, 0)) := by rw [← hW2, ← hs1]; exact heap_alloc_new _ _
  have h1 := (h.below b1).below b12
  have R1 := (b12.block kx (bltA R1)).trans R1
  have b2 : Below kx W W2 := (hkx ▸ b1 : Below kx W W1).trans (b12.mono (by omega))
  obtain ⟨es, cl, hmap, hl⟩ := h1.look x rx
  obtain ⟨y, hy⟩ : ∃ q, t.row x = q := ⟨_, rfl⟩
  rw [hy] at hl ⊢
  simp only [Rw.cs] at hl
  have HL := Lib.hid hl
  have HS0 : Hid (W2.heap[b]? = some (.cells #[.int .u32 t.win, .map (some m), .map (some k)] 85 (0, 0)) ∧ W2.heap[kx]? = some (.cells #[.int .u8 x.n, .int .u16 x.l, .int .u32 x.s, .int .u8 x.d, .int .u8 x.a0, .int .u8 x.a1, .int .u8 x.b0, .int .u8 x.b1, .int .u8 x.c0, .int .u8 x.c1] 37 (0, 0)) ∧ W2.heap[m]? = some (.map es cl)) := Lib.hid ⟨h1.blk, R1, hmap⟩
  have B1 : Hid (Below kx W W2) := Lib.hid b2
  have HR2 := Lib.hid R2
  have L1 : Hid (b < W2.heap.size ∧ kx < W2.heap.size ∧ m < W2.heap.size) := Lib.hid ⟨h1.bl, bltA R1, h1.ml⟩
  have KM := Lib.hid (aMade W2 b m k c t h1)
  have HW1 := Lib.hid hW1
  have HW2 := Lib.hid hW2
  have HKX := Lib.hid hkx
  have HS1 := Lib.hid hs1
  clear h h1 b1 b2 b12 hW1 R1 R2 hmap hl rx hW2 hs1 hy
  rw [hkx]
  go_enter Try.func20, Try.ntmps20
  go_wp2_with (first | rw [HW1.out, HKX.out] | (go_at_call 35; rw [HW1.out, HW2.out]; refine KM.out.mono ?_; rintro e w1 ⟨rfl, rfl⟩) | fail)
  try simp only [HS1.out]
  refine region_heldT (S := fun X : World => (X.heap[b]? = some (.cells #[.int .u32 t.win, .map (some m), .map (some k)] 85 (0, 0)) ∧ X.heap[kx]? = some (.cells #[.int .u8 x.n, .int .u16 x.l, .int .u32 x.s, .int .u8 x.d, .int .u8 x.a0, .int .u8 x.a1, .int .u8 x.b0, .int .u8 x.b1, .int .u8 x.c0, .int .u8 x.c1] 37 (0, 0)) ∧ X.heap[m]? = some (.map es cl))) 7 (by kernel_rfl) (by decide) (fun inv => ?_)
  have HS : (W2.drew.heap[b]? = some (.cells #[.int .u32 t.win, .map (some m), .map (some k)] 85 (0, 0)) ∧ W2.drew.heap[kx]? = some (.cells #[.int .u8 x.n, .int .u16 x.l, .int .u32 x.s, .int .u8 x.d, .int .u8 x.a0, .int .u8 x.a1, .int .u8 x.b0, .int .u8 x.b1, .int .u8 x.c0, .int .u8 x.c1] 37 (0, 0)) ∧ W2.drew.heap[m]? = some (.map es cl)) := HS0.out
  have BD : Hid (Below W2.heap.size W2 W2.drew) := Lib.hid (Below.refl _ _).drew
  change FirstH _ _ _ _ _ _ _ _ _ _ W2.drew
  generalize W2.drew = wd at *
  refine FirstH.go (i := 0) (v := .pointer (some ⟨b, 0, none⟩)) rfl rfl 11 rfl (Op.move (Operand.tmp 0)) rfl (by kernel_rfl) (fun _ _ _ h => h) inv (fun W hS => by unfold bareO; go_simp) HS (fun inv => ?_)
  try simp only [Act.put, List.setIfInBounds_toArray, List.set_cons_zero, List.set_cons_succ]
  refine FirstH.go (i := 1) (v := .pointer (some ⟨b, 0, none⟩)) rfl rfl 12 rfl (Op.nilCheck (Operand.tmp 11)) rfl (by kernel_rfl) (fun _ _ _ h => h) inv (fun W hS => by unfold bareO; go_simp) HS (fun inv => ?_)
  try simp only [Act.put, List.setIfInBounds_toArray, List.set_cons_zero, List.set_cons_succ]
  refine FirstH.go (i := 2) (v := .pointer (some ⟨b, 1, none⟩)) rfl rfl 13 rfl (Op.fieldAddr 85 (Operand.tmp 12) 1) rfl (by kernel_rfl) (fun _ _ _ h => h) inv (fun W hS => by unfold bareO; go_simp) HS (fun inv => ?_)
  try simp only [Act.put, List.setIfInBounds_toArray, List.set_cons_zero, List.set_cons_succ]
  refine FirstH.go (i := 3) (v := .map (some m)) rfl rfl 14 rfl (Op.load 82 (Operand.tmp 13)) rfl (by kernel_rfl) (fun _ _ _ h => h) inv (fun W hS => by have c := cell_of hS.1 1 (.map (some m)) rfl; unfold bareO; go_simp) HS (fun inv => ?_)
  try simp only [Act.put, List.setIfInBounds_toArray, List.set_cons_zero, List.set_cons_succ]
  refine FirstH.go (i := 4) (v := .agg #[.int .u8 x.n, .int .u16 x.l, .int .u32 x.s, .int .u8 x.d, .int .u8 x.a0, .int .u8 x.a1, .int .u8 x.b0, .int .u8 x.b1, .int .u8 x.c0, .int .u8 x.c1]) rfl rfl 15 rfl (Op.load 37 (Operand.tmp 3)) rfl (by kernel_rfl) (fun _ _ _ h => h) inv (fun W hS => by exact run_load_row 37 37 _ kx (by rfl) 37 #[.int .u8 x.n, .int .u16 x.l, .int .u32 x.s, .int .u8 x.d, .int .u8 x.a0, .int .u8 x.a1, .int .u8 x.b0, .int .u8 x.b1, .int .u8 x.c0, .int .u8 x.c1] (0, 0) _ hS.2.1 Try.underlying37 rfl (by kernel_rfl)) HS (fun inv => ?_)
  try simp only [Act.put, List.setIfInBounds_toArray, List.set_cons_zero, List.set_cons_succ]
  refine FirstH.go (i := 5) (v := .agg #[.int .u8 y.id.n, .int .u16 y.id.l, .int .u32 y.id.s, .int .u8 y.id.d, .int .u8 y.id.a0, .int .u8 y.id.a1, .int .u8 y.id.b0, .int .u8 y.id.b1, .int .u8 y.id.c0, .int .u8 y.id.c1, .bool y.en, .int .u8 y.code, .string y.val]) rfl rfl 16 rfl (Op.lookup 82 (Operand.tmp 14) (Operand.tmp 15) false) rfl (by kernel_rfl) (fun _ _ _ h => h) inv (fun W hS => by have l := (HL.out W hS.2.2).2; unfold bareO; go_simp) HS (fun inv => ?_)
  try simp only [Act.put, List.setIfInBounds_toArray, List.set_cons_zero, List.set_cons_succ]
  obtain ⟨wa, hwa⟩ : ∃ z, wd.alloc (.cells #[.int .u8 0, .int .u16 0, .int .u32 0, .int .u8 0, .int .u8 0, .int .u8 0, .int .u8 0, .int .u8 0, .int .u8 0, .int .u8 0, .bool false, .int .u8 0, .string ByteArray.empty] 88) = z := ⟨_, rfl⟩
  have ba : Below wd.heap.size wd wa := by rw [← hwa]; exact (Below.refl _ _).alloc (Nat.le_refl _) _
  have ra : wa.heap[wd.heap.size]? = some (.cells #[.int .u8 0, .int .u16 0, .int .u32 0, .int .u8 0, .int .u8 0, .int .u8 0, .int .u8 0, .int .u8 0, .int .u8 0, .int .u8 0, .bool false, .int .u8 0, .string ByteArray.empty] 88 (0, 0)) := by rw [← hwa]; exact heap_alloc_new _ _
  have HSA : (wa.heap[b]? = some (.cells #[.int .u32 t.win, .map (some m), .map (some k)] 85 (0, 0)) ∧ wa.heap[kx]? = some (.cells #[.int .u8 x.n, .int .u16 x.l, .int .u32 x.s, .int .u8 x.d, .int .u8 x.a0, .int .u8 x.a1, .int .u8 x.b0, .int .u8 x.b1, .int .u8 x.c0, .int .u8 x.c1] 37 (0, 0)) ∧ wa.heap[m]? = some (.map es cl)) := ⟨(ba.block _ (bltA HS.1)).trans HS.1, (ba.block _ (bltA HS.2.1)).trans HS.2.1, (ba.block _ (bltA HS.2.2)).trans HS.2.2⟩
  refine FirstH.only (i := 6) (by kernel_rfl) (by decide) inv (fun inv => wpOp_run (i := 6) rfl rfl 6 rfl (Op.alloc 88) rfl (allocRowA wd _ _) ?_)
  rw [hwa]
  refine ⟨HSA, by kernel_rfl, ?_⟩
  have hR : (wa.setRow wd.heap.size #[.int .u8 y.id.n, .int .u16 y.id.l, .int .u32 y.id.s, .int .u8 y.id.d, .int .u8 y.id.a0, .int .u8 y.id.a1, .int .u8 y.id.b0, .int .u8 y.id.b1, .int .u8 y.id.c0, .int .u8 y.id.c1, .bool y.en, .int .u8 y.code, .string y.val]).heap[wd.heap.size]? = some (.cells #[.int .u8 y.id.n, .int .u16 y.id.l, .int .u32 y.id.s, .int .u8 y.id.d, .int .u8 y.id.a0, .int .u8 y.id.a1, .int .u8 y.id.b0, .int .u8 y.id.b1, .int .u8 y.id.c0, .int .u8 y.id.c1, .bool y.en, .int .u8 y.code, .string y.val] 88 (0, 0)) := setRow_heap _ _ _ _ _ _ ra
  obtain ⟨wr, hwr⟩ : ∃ z, wa.setRow wd.heap.size #[.int .u8 y.id.n, .int .u16 y.id.l, .int .u32 y.id.s, .int .u8 y.id.d, .int .u8 y.id.a0, .int .u8 y.id.a1, .int .u8 y.id.b0, .int .u8 y.id.b1, .int .u8 y.id.c0, .int .u8 y.id.c1, .bool y.en, .int .u8 y.code, .string y.val] = z := ⟨_, rfl⟩
  have RA := Lib.hid ra
  have HWR := Lib.hid hwr
  rw [hwr] at hR
  have br : Below W2.heap.size W2 wr := by
    rw [← hwr]
    exact below_row (BD.out.trans (ba.mono BD.out.size)) BD.out.size _
  have BK : Hid (Below kx W wr) := Lib.hid (B1.out.trans (br.mono (Nat.le_of_lt L1.out.2.1)))
  have RR := Lib.hid hR
  have H2 : Hid (wr.heap[kx + 1]? = some (.cells #[.int .u8 0, .string ⟨#[]⟩] 53 (0, 0))) := Lib.hid ((br.block _ (bltA HR2.out)).trans HR2.out)
  have hne : wd.heap.size ≠ kx + 1 := by have := bltA HR2.out; have := BD.out.size; omega
  have HNE := Lib.hid hne
  clear hwr br hR ra ba HSA HS hwa BD hne
  simp only [Act.put, List.setIfInBounds_toArray, List.set_cons_zero, List.set_cons_succ, List.drop_succ_cons, List.drop_zero]
  refine wpList_store_row rfl 88 (.tmp 6) (.tmp 16) rfl wd.heap.size #[.int .u8 y.id.n, .int .u16 y.id.l, .int .u32 y.id.s, .int .u8 y.id.d, .int .u8 y.id.a0, .int .u8 y.id.a1, .int .u8 y.id.b0, .int .u8 y.id.b1, .int .u8 y.id.c0, .int .u8 y.id.c1, .bool y.en, .int .u8 y.code, .string y.val] (by rfl) (by rfl) 88 _ RA.out (by kernel_rfl) rfl (by simp [Value.oneCell']) ?_
  rw [HWR.out]
  clear RA HWR
  generalize wd.heap.size = rb at *
  go_wp2_with fail
  refine region_heldT (S := fun X : World => (X.heap[rb]? = some (.cells #[.int .u8 y.id.n, .int .u16 y.id.l, .int .u32 y.id.s, .int .u8 y.id.d, .int .u8 y.id.a0, .int .u8 y.id.a1, .int .u8 y.id.b0, .int .u8 y.id.b1, .int .u8 y.id.c0, .int .u8 y.id.c1, .bool y.en, .int .u8 y.code, .string y.val] 88 (0, 0)))) 5 (by kernel_rfl) (by decide) (fun inv => ?_)
  have HS : (wr.drew.heap[rb]? = some (.cells #[.int .u8 y.id.n, .int .u16 y.id.l, .int .u32 y.id.s, .int .u8 y.id.d, .int .u8 y.id.a0, .int .u8 y.id.a1, .int .u8 y.id.b0, .int .u8 y.id.b1, .int .u8 y.id.c0, .int .u8 y.id.c1, .bool y.en, .int .u8 y.code, .string y.val] 88 (0, 0))) := RR.out
  have H2 : Hid (wr.drew.heap[kx + 1]? = some (.cells #[.int .u8 0, .string ⟨#[]⟩] 53 (0, 0))) := Lib.hid H2.out
  have BD : Hid (Below kx W wr.drew) := Lib.hid BK.out.drew
  change FirstH _ _ _ _ _ _ _ _ _ _ wr.drew
  generalize wr.drew = we at *
  refine FirstH.go (i := 0) (v := .pointer (some ⟨rb, 11, none⟩)) rfl rfl 17 rfl (Op.fieldAddr 88 (Operand.tmp 6) 2) rfl (by kernel_rfl) (fun _ _ _ h => h) inv (fun W hS => by unfold bareO; go_simp) HS (fun inv => ?_)
  try simp only [Act.put, List.setIfInBounds_toArray, List.set_cons_zero, List.set_cons_succ]
  refine FirstH.go (i := 1) (v := .agg #[.int .u8 y.code, .string y.val]) rfl rfl 18 rfl (Op.load 53 (Operand.tmp 17)) rfl (by kernel_rfl) (fun _ _ _ h => h) inv (fun W hS => by have c0 := cell_of hS 11 (.int .u8 y.code) rfl; have c1 := cell_of hS 12 (.string y.val) rfl; unfold bareO; go_simp) HS (fun inv => ?_)
  try simp only [Act.put, List.setIfInBounds_toArray, List.set_cons_zero, List.set_cons_succ]
  refine FirstH.go (i := 2) (v := .pointer (some ⟨rb, 10, none⟩)) rfl rfl 19 rfl (Op.fieldAddr 88 (Operand.tmp 6) 1) rfl (by kernel_rfl) (fun _ _ _ h => h) inv (fun W hS => by unfold bareO; go_simp) HS (fun inv => ?_)
  try simp only [Act.put, List.setIfInBounds_toArray, List.set_cons_zero, List.set_cons_succ]
  refine FirstH.go (i := 3) (v := .bool y.en) rfl rfl 20 rfl (Op.load 4 (Operand.tmp 19)) rfl (by kernel_rfl) (fun _ _ _ h => h) inv (fun W hS => by have c0 := cell_of hS 10 (.bool y.en) rfl; unfold bareO; go_simp) HS (fun inv => ?_)
  try simp only [Act.put, List.setIfInBounds_toArray, List.set_cons_zero, List.set_cons_succ]
  have hR : (we.setRow (kx + 1) #[.int .u8 y.code, .string y.val]).heap[kx + 1]? = some (.cells #[.int .u8 y.code, .string y.val] 53 (0, 0)) := setRow_heap _ _ _ _ _ _ H2.out
  have hb : Below kx W (we.setRow (kx + 1) #[.int .u8 y.code, .string y.val]) := below_row BD.out (Nat.le_succ _) _
  have hR2 : (we.setRow (kx + 1) #[.int .u8 y.code, .string y.val]).heap[rb]? = some (.cells #[.int .u8 y.id.n, .int .u16 y.id.l, .int .u32 y.id.s, .int .u8 y.id.d, .int .u8 y.id.a0, .int .u8 y.id.a1, .int .u8 y.id.b0, .int .u8 y.id.b1, .int .u8 y.id.c0, .int .u8 y.id.c1, .bool y.en, .int .u8 y.code, .string y.val] 88 (0, 0)) := setRow_at HS HNE.out _
  refine FirstH.only (i := 4) (by kernel_rfl) (by decide) inv (fun inv => wpOp_any (i := 4) rfl rfl (wp_store_row 53 (.tmp 4) (.tmp 18) rfl (kx + 1) #[.int .u8 y.code, .string y.val] (by rfl) (by rfl) 53 _ H2.out (by kernel_rfl) rfl (by simp [Value.oneCell']) ?_))
  obtain ⟨wz, hwz⟩ : ∃ z, we.setRow (kx + 1) #[.int .u8 y.code, .string y.val] = z := ⟨_, rfl⟩
  rw [hwz] at hR hb hR2 ⊢
  refine ⟨hR2, by kernel_rfl, ?_⟩
  have HR := Lib.hid hR
  have HB := Lib.hid hb
  clear hR hb hR2 hwz HS
  simp only [Act.put, List.setIfInBounds_toArray, List.set_cons_zero, List.set_cons_succ, List.drop_succ_cons, List.drop_zero]
  go_wp2_with fail
  exact bodyPost_ret (v := .tuple #[.agg #[.int .u8 y.code, .string y.val], .bool y.en]) (results_cell2_rowA (p := 4) (u := 5) (ty := 53) rfl _ _ (kx + 1) 53 _ (0, 0) _ (by rfl) HR.out Try.underlying53 rfl (by kernel_rfl)) rfl ⟨rfl, HB.out⟩

end Go.Proofs.Ytldbmmganicliaa
