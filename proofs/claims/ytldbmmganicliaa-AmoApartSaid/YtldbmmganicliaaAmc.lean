/-
  The program's table: State, Res, Floor, Len, by exact answers. Condition: the table lies in memory, numbers fit their kinds.
-/
import Derived.Test.YtldbmmganicliaaAmb
import Derived.Test.YtldbmmganicliaaAdr
namespace Go.Proofs.Ytldbmmganicliaa
set_option linter.unusedSimpArgs false
set_option linter.unusedVariables false
open Go.RowKit Go.Maps Go.Sort

theorem allocRowA (w : World) (ty : TypeId) (a : Act) : (execOp a.eval (bareO (Op.alloc 88) ty)).run Try.prog w = .ok (.value (.pointer (some ⟨w.heap.size, 0, none⟩))) (w.alloc (.cells #[.int .u8 0, .int .u16 0, .int .u32 0, .int .u8 0, .int .u8 0, .int .u8 0, .int .u8 0, .int .u8 0, .int .u8 0, .int .u8 0, .bool false, .int .u8 0, .string ByteArray.empty] 88)) := by
  kernel_rfl
theorem Tt.row_en (t : Tt) (x : I10) : (t.row x).en = (isT t.L x && t.ended x) := by
  unfold Tt.row Tt.ended
  cases hi : isT t.L x with
  | false => rfl
  | true =>
    obtain ⟨y, hy, _, _⟩ := isT_row hi
    simp [hy]
theorem Tt.state_as (t : Tt) (x : I10) : t.state x = if (t.row x).en then 2 else if isT t.L x then 1 else if t.old x then 3 else if t.far x then 4 else 0 := by
  rw [Tt.row_en]
  rfl
theorem Tt.row_is {t : Tt} {x : I10} (h : (t.row x).en = true) : isT t.L x = true := by
  rw [Tt.row_en] at h
  cases hi : isT t.L x with
  | false => rw [hi] at h; cases h
  | true => rfl
set_option maxRecDepth 100000 in
set_option maxHeartbeats 4000000 in
theorem aState (W : World) (b m k c : Nat) (t : Tt) (h : PT W b m k c t) (x : I10) (rx : x.Rng) :
    Calls Try.prog 23 #[.pointer (some ⟨b, 0, none⟩), .agg #[.int .u8 x.n, .int .u16 x.l, .int .u32 x.s, .int .u8 x.d, .int .u8 x.a0, .int .u8 x.a1, .int .u8 x.b0, .int .u8 x.b1, .int .u8 x.c0, .int .u8 x.c1]] W fun e W' => e = .returned (.int .i64 (t.state x)) ∧ Below W.heap.size W W' := by
  obtain ⟨W1, hW1⟩ : ∃ z, W.alloc (.cells #[.int .u8 x.n, .int .u16 x.l, .int .u32 x.s, .int .u8 x.d, .int .u8 x.a0, .int .u8 x.a1, .int .u8 x.b0, .int .u8 x.b1, .int .u8 x.c0, .int .u8 x.c1] 37) = z := ⟨_, rfl⟩
  have b1 : Below W.heap.size W W1 := by rw [← hW1]; exact (Below.refl _ _).alloc (Nat.le_refl _) _
  obtain ⟨kx, hkx⟩ : ∃ z, W.heap.size = z := ⟨_, rfl⟩
  have R1 : W1.heap[kx]? = some (.cells #[.int .u8 x.n, .int .u16 x.l, .int .u32 x.s, .int .u8 x.d, .int .u8 x.a0, .int .u8 x.a1, .int .u8 x.b0, .int .u8 x.b1, .int .u8 x.c0, .int .u8 x.c1] 37 (0, 0)) := by rw [← hW1, ← hkx]; exact heap_alloc_new _ _
  have h1 := h.below b1
  obtain ⟨es, cl, hmap, hl⟩ := h1.look x rx
  rw [Tt.state_as]
  obtain ⟨ii, hii⟩ : ∃ q, isT t.L x = q := ⟨_, rfl⟩
  have hne : (t.row x).en = true → ii = true := fun e => hii ▸ Tt.row_is e
  obtain ⟨y, hy⟩ : ∃ q, t.row x = q := ⟨_, rfl⟩
  rw [hii, hy] at hl
  simp only [Rw.cs] at hl
  rw [hy] at hne
  rw [hii, hy]
  obtain ⟨oo, hoo⟩ : ∃ q, t.old x = q := ⟨_, rfl⟩
  obtain ⟨ff, hff⟩ : ∃ q, t.far x = q := ⟨_, rfl⟩
  rw [hoo, hff]
  obtain ⟨st, hst⟩ : ∃ q : Int, (if y.en then 2 else if ii then 1 else if oo then 3 else if ff then 4 else 0) = q := ⟨_, rfl⟩
  rw [hst]
  have HST := Lib.hid hst
  have HL := Lib.hid hl
  have HS0 : Hid (W1.heap[b]? = some (.cells #[.int .u32 t.win, .map (some m), .map (some k)] 85 (0, 0)) ∧ W1.heap[kx]? = some (.cells #[.int .u8 x.n, .int .u16 x.l, .int .u32 x.s, .int .u8 x.d, .int .u8 x.a0, .int .u8 x.a1, .int .u8 x.b0, .int .u8 x.b1, .int .u8 x.c0, .int .u8 x.c1] 37 (0, 0)) ∧ W1.heap[m]? = some (.map es cl)) := Lib.hid ⟨h1.blk, R1, hmap⟩
  have B1 : Hid (Below kx W W1) := Lib.hid (hkx ▸ b1)
  have L1 : Hid (b < W1.heap.size ∧ kx < W1.heap.size ∧ m < W1.heap.size) := Lib.hid ⟨h1.bl, bltA R1, h1.ml⟩
  have KM := Lib.hid (aMade W1 b m k c t h1)
  have KO : Hid (∀ w, Below W1.heap.size W1 w → Calls Try.prog 39 #[.pointer (some ⟨b, 0, none⟩), .agg #[.int .u8 x.n, .int .u16 x.l, .int .u32 x.s, .int .u8 x.d, .int .u8 x.a0, .int .u8 x.a1, .int .u8 x.b0, .int .u8 x.b1, .int .u8 x.c0, .int .u8 x.c1]] w fun e W' => e = .returned (.bool oo) ∧ Below w.heap.size w W') := Lib.hid fun w hw => hoo ▸ aOld w b m k c t (h1.below hw) x rx
  have KF : Hid (∀ w, Below W1.heap.size W1 w → Calls Try.prog 47 #[.pointer (some ⟨b, 0, none⟩), .agg #[.int .u8 x.n, .int .u16 x.l, .int .u32 x.s, .int .u8 x.d, .int .u8 x.a0, .int .u8 x.a1, .int .u8 x.b0, .int .u8 x.b1, .int .u8 x.c0, .int .u8 x.c1]] w fun e W' => e = .returned (.bool ff) ∧ Below w.heap.size w W') := Lib.hid fun w hw => hff ▸ aFar w b m k c t (h1.below hw) x rx
  have HW1 := Lib.hid hW1
  have HKX := Lib.hid hkx
  clear h h1 b1 hW1 R1 hmap hl rx hst hoo hff hii hy
  rw [hkx]
  go_enter Try.func23, Try.ntmps23
  go_wp2_with (first | rw [HW1.out, HKX.out] | (go_at_call 35; rw [HW1.out]; refine KM.out.mono ?_; rintro e w1 ⟨rfl, rfl⟩) | fail)
  refine region_heldT (S := fun X : World => (X.heap[b]? = some (.cells #[.int .u32 t.win, .map (some m), .map (some k)] 85 (0, 0)) ∧ X.heap[kx]? = some (.cells #[.int .u8 x.n, .int .u16 x.l, .int .u32 x.s, .int .u8 x.d, .int .u8 x.a0, .int .u8 x.a1, .int .u8 x.b0, .int .u8 x.b1, .int .u8 x.c0, .int .u8 x.c1] 37 (0, 0)) ∧ X.heap[m]? = some (.map es cl))) 11 (by kernel_rfl) (by decide) (fun inv => ?_)
  have HS : (W1.drew.heap[b]? = some (.cells #[.int .u32 t.win, .map (some m), .map (some k)] 85 (0, 0)) ∧ W1.drew.heap[kx]? = some (.cells #[.int .u8 x.n, .int .u16 x.l, .int .u32 x.s, .int .u8 x.d, .int .u8 x.a0, .int .u8 x.a1, .int .u8 x.b0, .int .u8 x.b1, .int .u8 x.c0, .int .u8 x.c1] 37 (0, 0)) ∧ W1.drew.heap[m]? = some (.map es cl)) := HS0.out
  have BD : Hid (Below W1.heap.size W1 W1.drew) := Lib.hid (Below.refl _ _).drew
  have LD : Hid (W1.drew.heap.size = W1.heap.size) := Lib.hid rfl
  change FirstH _ _ _ _ _ _ _ _ _ _ W1.drew
  generalize W1.drew = wd at *
  refine FirstH.go (i := 0) (v := .pointer (some ⟨b, 0, none⟩)) rfl rfl 11 rfl (Op.move (Operand.tmp 0)) rfl (by kernel_rfl) (fun _ _ _ h => h) inv (fun W hS => by unfold bareO; go_simp) HS (fun inv => ?_)
  try simp only [Act.put, List.setIfInBounds_toArray, List.set_cons_zero, List.set_cons_succ]
  refine FirstH.go (i := 1) (v := .pointer (some ⟨b, 0, none⟩)) rfl rfl 12 rfl (Op.nilCheck (Operand.tmp 11)) rfl (by kernel_rfl) (fun _ _ _ h => h) inv (fun W hS => by unfold bareO; go_simp) HS (fun inv => ?_)
  try simp only [Act.put, List.setIfInBounds_toArray, List.set_cons_zero, List.set_cons_succ]
  refine FirstH.go (i := 2) (v := .pointer (some ⟨b, 1, none⟩)) rfl rfl 13 rfl (Op.fieldAddr 85 (Operand.tmp 12) 1) rfl (by kernel_rfl) (fun _ _ _ h => h) inv (fun W hS => by unfold bareO; go_simp) HS (fun inv => ?_)
  try simp only [Act.put, List.setIfInBounds_toArray, List.set_cons_zero, List.set_cons_succ]
  refine FirstH.go (i := 3) (v := .map (some m)) rfl rfl 14 rfl (Op.load 82 (Operand.tmp 13)) rfl (by kernel_rfl) (fun _ _ _ h => h) inv (fun W hS => by have c := cell_of hS.1 1 (.map (some m)) rfl; unfold bareO; go_simp) HS (fun inv => ?_)
  try simp only [Act.put, List.setIfInBounds_toArray, List.set_cons_zero, List.set_cons_succ]
  refine FirstH.go (i := 4) (v := .agg #[.int .u8 x.n, .int .u16 x.l, .int .u32 x.s, .int .u8 x.d, .int .u8 x.a0, .int .u8 x.a1, .int .u8 x.b0, .int .u8 x.b1, .int .u8 x.c0, .int .u8 x.c1]) rfl rfl 15 rfl (Op.load 37 (Operand.tmp 3)) rfl (by kernel_rfl) (fun _ _ _ h => h) inv (fun W hS => by exact run_load_row 37 37 _ kx (by rfl) 37 #[.int .u8 x.n, .int .u16 x.l, .int .u32 x.s, .int .u8 x.d, .int .u8 x.a0, .int .u8 x.a1, .int .u8 x.b0, .int .u8 x.b1, .int .u8 x.c0, .int .u8 x.c1] (0, 0) _ hS.2.1 Try.underlying37 rfl (by kernel_rfl)) HS (fun inv => ?_)
  try simp only [Act.put, List.setIfInBounds_toArray, List.set_cons_zero, List.set_cons_succ]
  refine FirstH.go (i := 5) (v := .tuple #[.agg #[.int .u8 y.id.n, .int .u16 y.id.l, .int .u32 y.id.s, .int .u8 y.id.d, .int .u8 y.id.a0, .int .u8 y.id.a1, .int .u8 y.id.b0, .int .u8 y.id.b1, .int .u8 y.id.c0, .int .u8 y.id.c1, .bool y.en, .int .u8 y.code, .string y.val], .bool ii]) rfl rfl 16 rfl (Op.lookup 82 (Operand.tmp 14) (Operand.tmp 15) true) rfl (by kernel_rfl) (fun _ _ _ h => h) inv (fun W hS => by have l := (HL.out W hS.2.2).1; unfold bareO; go_simp) HS (fun inv => ?_)
  try simp only [Act.put, List.setIfInBounds_toArray, List.set_cons_zero, List.set_cons_succ]
  refine FirstH.go (i := 6) (v := .tuple #[.agg #[.int .u8 y.id.n, .int .u16 y.id.l, .int .u32 y.id.s, .int .u8 y.id.d, .int .u8 y.id.a0, .int .u8 y.id.a1, .int .u8 y.id.b0, .int .u8 y.id.b1, .int .u8 y.id.c0, .int .u8 y.id.c1, .bool y.en, .int .u8 y.code, .string y.val], .bool ii]) rfl rfl 10 rfl (Op.move (Operand.tmp 16)) rfl (by kernel_rfl) (fun _ _ _ h => h) inv (fun W hS => by unfold bareO; go_simp) HS (fun inv => ?_)
  try simp only [Act.put, List.setIfInBounds_toArray, List.set_cons_zero, List.set_cons_succ]
  refine FirstH.go (i := 7) (v := .agg #[.int .u8 y.id.n, .int .u16 y.id.l, .int .u32 y.id.s, .int .u8 y.id.d, .int .u8 y.id.a0, .int .u8 y.id.a1, .int .u8 y.id.b0, .int .u8 y.id.b1, .int .u8 y.id.c0, .int .u8 y.id.c1, .bool y.en, .int .u8 y.code, .string y.val]) rfl rfl 17 rfl (Op.extract (Operand.tmp 10) 0) rfl (by kernel_rfl) (fun _ _ _ h => h) inv (fun W hS => by unfold bareO; go_simp) HS (fun inv => ?_)
  try simp only [Act.put, List.setIfInBounds_toArray, List.set_cons_zero, List.set_cons_succ]
  refine FirstH.go (i := 8) (v := .bool ii) rfl rfl 18 rfl (Op.extract (Operand.tmp 10) 1) rfl (by kernel_rfl) (fun _ _ _ h => h) inv (fun W hS => by unfold bareO; go_simp) HS (fun inv => ?_)
  try simp only [Act.put, List.setIfInBounds_toArray, List.set_cons_zero, List.set_cons_succ]
  obtain ⟨wa, hwa⟩ : ∃ z, wd.alloc (.cells #[.int .u8 0, .int .u16 0, .int .u32 0, .int .u8 0, .int .u8 0, .int .u8 0, .int .u8 0, .int .u8 0, .int .u8 0, .int .u8 0, .bool false, .int .u8 0, .string ByteArray.empty] 88) = z := ⟨_, rfl⟩
  have ba : Below wd.heap.size wd wa := by rw [← hwa]; exact (Below.refl _ _).alloc (Nat.le_refl _) _
  have ra : wa.heap[wd.heap.size]? = some (.cells #[.int .u8 0, .int .u16 0, .int .u32 0, .int .u8 0, .int .u8 0, .int .u8 0, .int .u8 0, .int .u8 0, .int .u8 0, .int .u8 0, .bool false, .int .u8 0, .string ByteArray.empty] 88 (0, 0)) := by rw [← hwa]; exact heap_alloc_new _ _
  have HSA : (wa.heap[b]? = some (.cells #[.int .u32 t.win, .map (some m), .map (some k)] 85 (0, 0)) ∧ wa.heap[kx]? = some (.cells #[.int .u8 x.n, .int .u16 x.l, .int .u32 x.s, .int .u8 x.d, .int .u8 x.a0, .int .u8 x.a1, .int .u8 x.b0, .int .u8 x.b1, .int .u8 x.c0, .int .u8 x.c1] 37 (0, 0)) ∧ wa.heap[m]? = some (.map es cl)) := ⟨(ba.block _ (bltA HS.1)).trans HS.1, (ba.block _ (bltA HS.2.1)).trans HS.2.1, (ba.block _ (bltA HS.2.2)).trans HS.2.2⟩
  refine FirstH.only (i := 9) (by kernel_rfl) (by decide) inv (fun inv => wpOp_run (i := 9) rfl rfl 5 rfl (Op.alloc 88) rfl (allocRowA wd _ _) ?_)
  rw [hwa]
  refine ⟨HSA, ?_⟩
  have hR : (wa.setRow wd.heap.size #[.int .u8 y.id.n, .int .u16 y.id.l, .int .u32 y.id.s, .int .u8 y.id.d, .int .u8 y.id.a0, .int .u8 y.id.a1, .int .u8 y.id.b0, .int .u8 y.id.b1, .int .u8 y.id.c0, .int .u8 y.id.c1, .bool y.en, .int .u8 y.code, .string y.val]).heap[wd.heap.size]? = some (.cells #[.int .u8 y.id.n, .int .u16 y.id.l, .int .u32 y.id.s, .int .u8 y.id.d, .int .u8 y.id.a0, .int .u8 y.id.a1, .int .u8 y.id.b0, .int .u8 y.id.b1, .int .u8 y.id.c0, .int .u8 y.id.c1, .bool y.en, .int .u8 y.code, .string y.val] 88 (0, 0)) := setRow_heap _ _ _ _ _ _ ra
  refine FirstH.only (i := 10) (by kernel_rfl) (by decide) inv (fun inv => wpOp_any (i := 10) rfl rfl (wp_store_row 88 (.tmp 5) (.tmp 17) rfl wd.heap.size #[.int .u8 y.id.n, .int .u16 y.id.l, .int .u32 y.id.s, .int .u8 y.id.d, .int .u8 y.id.a0, .int .u8 y.id.a1, .int .u8 y.id.b0, .int .u8 y.id.b1, .int .u8 y.id.c0, .int .u8 y.id.c1, .bool y.en, .int .u8 y.code, .string y.val] (by rfl) (by rfl) 88 _ ra (by kernel_rfl) rfl (by simp [Value.oneCell']) ?_))
  obtain ⟨wr, hwr⟩ : ∃ z, wa.setRow wd.heap.size #[.int .u8 y.id.n, .int .u16 y.id.l, .int .u32 y.id.s, .int .u8 y.id.d, .int .u8 y.id.a0, .int .u8 y.id.a1, .int .u8 y.id.b0, .int .u8 y.id.b1, .int .u8 y.id.c0, .int .u8 y.id.c1, .bool y.en, .int .u8 y.code, .string y.val] = z := ⟨_, rfl⟩
  rw [hwr] at hR ⊢
  have br : Below W1.heap.size W1 wr := by
    rw [← hwr]
    exact below_row (BD.out.trans (ba.mono BD.out.size)) BD.out.size _
  have HSR : (wr.heap[b]? = some (.cells #[.int .u32 t.win, .map (some m), .map (some k)] 85 (0, 0)) ∧ wr.heap[kx]? = some (.cells #[.int .u8 x.n, .int .u16 x.l, .int .u32 x.s, .int .u8 x.d, .int .u8 x.a0, .int .u8 x.a1, .int .u8 x.b0, .int .u8 x.b1, .int .u8 x.c0, .int .u8 x.c1] 37 (0, 0)) ∧ wr.heap[m]? = some (.map es cl)) := ⟨(br.block _ L1.out.1).trans HS0.out.1, (br.block _ L1.out.2.1).trans HS0.out.2.1, (br.block _ L1.out.2.2).trans HS0.out.2.2⟩
  refine ⟨HSR, by kernel_rfl, ?_⟩
  have BR := Lib.hid br
  have RR := Lib.hid hR
  have HX : Hid (wr.heap[kx]? = some (.cells #[.int .u8 x.n, .int .u16 x.l, .int .u32 x.s, .int .u8 x.d, .int .u8 x.a0, .int .u8 x.a1, .int .u8 x.b0, .int .u8 x.b1, .int .u8 x.c0, .int .u8 x.c1] 37 (0, 0))) := Lib.hid HSR.2.1
  have y10 := cell_of hR 10 (.bool y.en) rfl
  clear hwr br hR ra ba HSA HS HSR hwa BD LD
  simp only [Act.put, List.setIfInBounds_toArray, List.set_cons_zero, List.set_cons_succ, List.drop_succ_cons, List.drop_zero]
  have BK : Hid (Below kx W wr) := Lib.hid (B1.out.trans (BR.out.mono (Nat.le_of_lt L1.out.2.1)))
  generalize wd.heap.size = rb at *
  by_cases hen : y.en = true
  · have hi := hne hen
    rw [hen] at y10
    subst hi
    go_wp2
    go_ret
    exact ⟨ret_int (by rw [← HST.out, hen]; rfl), BK.out⟩
  · have hen' : y.en = false := by simpa using hen
    rw [hen'] at y10
    cases ii
    · have KO := Lib.hid (KO.out wr BR.out)
      have x0 := cell_of HX.out 0 (.int .u8 x.n) rfl; have x1 := cell_of HX.out 1 (.int .u16 x.l) rfl; have x2 := cell_of HX.out 2 (.int .u32 x.s) rfl; have x3 := cell_of HX.out 3 (.int .u8 x.d) rfl; have x4 := cell_of HX.out 4 (.int .u8 x.a0) rfl; have x5 := cell_of HX.out 5 (.int .u8 x.a1) rfl; have x6 := cell_of HX.out 6 (.int .u8 x.b0) rfl; have x7 := cell_of HX.out 7 (.int .u8 x.b1) rfl; have x8 := cell_of HX.out 8 (.int .u8 x.c0) rfl; have x9 := cell_of HX.out 9 (.int .u8 x.c1) rfl; skip
      cases oo
      · cases ff
        all_goals
          go_wp2_with (first | (go_at_call 39; refine KO.out.mono ?_; rintro e w2 ⟨rfl, b2⟩; have KF := Lib.hid (KF.out w2 (BR.out.trans (b2.mono BR.out.size))); have BK := Lib.hid (BK.out.trans (b2.mono (Nat.le_of_lt (bltA HX.out)))); have HX := Lib.hid ((b2.block _ (bltA HX.out)).trans HX.out); clear b2 x0 x1 x2 x3 x4 x5 x6 x7 x8 x9; have x0 := cell_of HX.out 0 (.int .u8 x.n) rfl; have x1 := cell_of HX.out 1 (.int .u16 x.l) rfl; have x2 := cell_of HX.out 2 (.int .u32 x.s) rfl; have x3 := cell_of HX.out 3 (.int .u8 x.d) rfl; have x4 := cell_of HX.out 4 (.int .u8 x.a0) rfl; have x5 := cell_of HX.out 5 (.int .u8 x.a1) rfl; have x6 := cell_of HX.out 6 (.int .u8 x.b0) rfl; have x7 := cell_of HX.out 7 (.int .u8 x.b1) rfl; have x8 := cell_of HX.out 8 (.int .u8 x.c0) rfl; have x9 := cell_of HX.out 9 (.int .u8 x.c1) rfl; skip) | (go_at_call 47; refine KF.out.mono ?_; rintro e w3 ⟨rfl, b2⟩; have BK := Lib.hid (BK.out.trans (b2.mono (Nat.le_of_lt (bltA HX.out)))); clear b2) | fail)
          go_ret
          exact ⟨ret_int (by rw [← HST.out, hen']; rfl), BK.out⟩
      · go_wp2_with (first | (go_at_call 39; refine KO.out.mono ?_; rintro e w2 ⟨rfl, b2⟩; have BK := Lib.hid (BK.out.trans (b2.mono (Nat.le_of_lt (bltA HX.out)))); clear b2) | fail)
        go_ret
        exact ⟨ret_int (by rw [← HST.out, hen']; rfl), BK.out⟩
    · go_wp2
      go_ret
      exact ⟨ret_int (by rw [← HST.out, hen']; rfl), BK.out⟩

end Go.Proofs.Ytldbmmganicliaa
