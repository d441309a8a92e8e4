/-
  The program's table: Raise, by what it makes of the plain table. Condition: the table lies in memory, numbers fit their kinds.
-/
import Derived.Test.YtldbmmganicliaaAml
namespace Go.Proofs.Ytldbmmganicliaa
set_option linter.unusedSimpArgs false
set_option linter.unusedVariables false
open Go.RowKit Go.Maps Go.Sort

/-- what Raise makes. -/
def Tt.rse (t : Tt) (n l u : Int) : Tt := if rP n l = false ∨ 1048576 < u ∨ u ≤ floorF t.F n l then t else { t with F := nF t.F n l u, L := t.L.filter (keepR { t with F := nF t.F n l u } n l) }
set_option maxRecDepth 100000 in
set_option maxHeartbeats 4000000 in
theorem aRaise (W : World) (b m k c : Nat) (t : Tt) (h : PT W b m k c t) (n l u : Int) (rn : 0 ≤ n ∧ n ≤ 255) (rl : 0 ≤ l ∧ l ≤ 65535) (ru : 0 ≤ u ∧ u ≤ 4294967295) (hc : c ≤ 1000000) :
    Calls Try.prog 17 #[.pointer (some ⟨b, 0, none⟩), .agg #[.int .u8 n, .int .u16 l], .int .u32 u] W fun e W' => e = .returned (.tuple #[]) ∧ PT W' b m k (c + 1) (t.rse n l u) ∧ KP (fun q => q = m ∨ q = k) W W' := by
  obtain ⟨W1, hW1⟩ : ∃ z, W.alloc (.cells #[.pointer (some ⟨b, 0, none⟩)] 25) = z := ⟨_, rfl⟩
  have b1 : Below W.heap.size W W1 := by rw [← hW1]; exact (Below.refl _ _).alloc (Nat.le_refl _) _
  obtain ⟨kt, hkx⟩ : ∃ z, W.heap.size = z := ⟨_, rfl⟩
  have R1 : W1.heap[kt]? = some (.cells #[.pointer (some ⟨b, 0, none⟩)] 25 (0, 0)) := by rw [← hW1, ← hkx]; exact heap_alloc_new _ _
  obtain ⟨W2, hW2⟩ : ∃ z, W1.alloc (.cells #[.int .u8 n, .int .u16 l] 31) = z := ⟨_, rfl⟩
  have hs1 : W1.heap.size = kt + 1 := by rw [← hW1, World.size_alloc, hkx]
  have b12 : Below W1.heap.size W1 W2 := by rw [← hW2]; exact (Below.refl _ _).alloc (Nat.le_refl _) _
  have R2 : W2.heap[kt + 1]? = some (.cells #[.int .u8 n, .int .u16 l] 31 (0, 0)) := by rw [← hW2, ← hs1]; exact heap_alloc_new _ _
  have h2 := (h.below b1).below b12
  have R1 := (b12.block kt (bltA R1)).trans R1
  have b2 : Below kt W W2 := (hkx ▸ b1 : Below kt W W1).trans (b12.mono (by omega))
  obtain ⟨es, cl, hmap, hl⟩ := h2.lookF n l rn rl
  obtain ⟨f, hf⟩ : ∃ f, floorF t.F n l = f := ⟨_, rfl⟩
  rw [hf] at hl
  have HL := Lib.hid hl
  have HS0 : Hid (W2.heap[kt]? = some (.cells #[.pointer (some ⟨b, 0, none⟩)] 25 (0, 0)) ∧ W2.heap[kt + 1]? = some (.cells #[.int .u8 n, .int .u16 l] 31 (0, 0)) ∧ W2.heap[b]? = some (.cells #[.int .u32 t.win, .map (some m), .map (some k)] 85 (0, 0)) ∧ W2.heap[k]? = some (.map es cl)) := Lib.hid ⟨R1, R2, h2.blk, hmap⟩
  have HP := Lib.hid h2
  have B2 := Lib.hid b2
  have L2 : Hid (kt < W2.heap.size) := Lib.hid (bltA R1)
  have HKX := Lib.hid hkx
  have HW1 := Lib.hid hW1
  have HW2 := Lib.hid hW2
  have HS1 := Lib.hid hs1
  have HC := Lib.hid hc
  have RN := Lib.hid rn
  have RL := Lib.hid rl
  have KM : Hid (∀ w, Below W2.heap.size W2 w → Calls Try.prog 35 #[.pointer (some ⟨b, 0, none⟩)] w fun e w' => e = .returned (.bool true) ∧ w = w') := Lib.hid fun w hw => aMade w b m k c t (h2.below hw)
  obtain ⟨rp, hrp⟩ : ∃ q, rP n l = q := ⟨_, rfl⟩
  have KR : Hid (∀ w : World, Calls Try.prog 41 #[.agg #[.int .u8 n, .int .u16 l]] w fun e w' => e = .returned (.bool rp) ∧ Below w.heap.size w w') := Lib.hid fun w => (rightProc n l w).mono fun e w' he => ⟨hrp ▸ he.1, by rw [← he.2]; exact (Below.refl _ _).alloc (Nat.le_refl _) _⟩
  obtain ⟨t', ht'⟩ : ∃ q, t.rse n l u = q := ⟨_, rfl⟩
  have hr : t' = if rp = false ∨ 1048576 < u ∨ u ≤ f then t else { t with F := nF t.F n l u, L := t.L.filter (keepR { t with F := nF t.F n l u } n l) } := by
    rw [← ht', ← hrp, ← hf]
    rfl
  rw [ht']
  have HR0 := Lib.hid hr
  clear h h2 b1 b12 b2 hW1 hW2 R1 R2 hs1 hmap hl hf hrp ht' hr hc rn rl
  go_enter Try.func17, Try.ntmps17
  go_wp2_with (first | (rw [HW1.out]; try rw [HKX.out]) | (rw [HW2.out]; try rw [HS1.out]) | fail)
  try rw [HW1.out]
  try rw [HW2.out]
  try rw [HS1.out]
  try rw [HKX.out]
  refine region_heldT (S := fun X : World => (X.heap[kt]? = some (.cells #[.pointer (some ⟨b, 0, none⟩)] 25 (0, 0)) ∧ X.heap[kt + 1]? = some (.cells #[.int .u8 n, .int .u16 l] 31 (0, 0)) ∧ X.heap[b]? = some (.cells #[.int .u32 t.win, .map (some m), .map (some k)] 85 (0, 0)) ∧ X.heap[k]? = some (.map es cl))) 21 (by kernel_rfl) (by decide) (fun inv => ?_)
  have HS : (W2.drew.heap[kt]? = some (.cells #[.pointer (some ⟨b, 0, none⟩)] 25 (0, 0)) ∧ W2.drew.heap[kt + 1]? = some (.cells #[.int .u8 n, .int .u16 l] 31 (0, 0)) ∧ W2.drew.heap[b]? = some (.cells #[.int .u32 t.win, .map (some m), .map (some k)] 85 (0, 0)) ∧ W2.drew.heap[k]? = some (.map es cl)) := HS0.out
  have BD : Hid (Below W2.heap.size W2 W2.drew) := Lib.hid (Below.refl _ _).drew
  change FirstH _ _ _ _ _ _ _ _ _ _ W2.drew
  generalize W2.drew = wd0 at *
  cases rp
  · have HR : Hid (t' = t) := Lib.hid (by rw [HR0.out, if_pos (.inl rfl)])
    refine FirstH.go (i := 0) (v := .pointer (some ⟨b, 0, none⟩)) rfl rfl 6 rfl (Op.load 25 (Operand.tmp 3)) rfl (by kernel_rfl) (fun _ _ _ h => h) inv (fun W hS => by have c := cell_of hS.1 0 (.pointer (some ⟨b, 0, none⟩)) rfl; unfold bareO; go_simp) HS (fun inv => ?_)
    try simp only [Act.put, List.setIfInBounds_toArray, List.set_cons_zero, List.set_cons_succ]
    refine FirstH.only (i := 1) (by kernel_rfl) (by decide) inv (fun inv => wpOp_call (i := 1) rfl rfl 7 rfl (Op.call { callee := Callee.value (.func 35), args := #[Operand.tmp 6], argTypes := #[25] }) rfl 35 #[.pointer (some ⟨b, 0, none⟩)] (by unfold bareO; go_simp) (KM.out _ BD.out) ?_)
    rintro e ux ⟨rfl, rfl⟩
    refine ⟨_, rfl, HS, ?_⟩
    try simp only [Act.put, List.setIfInBounds_toArray, List.set_cons_zero, List.set_cons_succ]
    refine FirstH.go (i := 2) (v := .bool false) rfl rfl 8 rfl (Op.unOp UnOp.not 4 (Operand.tmp 7)) rfl (by kernel_rfl) (fun _ _ _ h => h) inv (fun W hS => by unfold bareO; go_simp) HS (fun inv => ?_)
    try simp only [Act.put, List.setIfInBounds_toArray, List.set_cons_zero, List.set_cons_succ]
    refine FirstH.go (i := 3) (v := .bool false) rfl rfl 9 rfl (Op.move (Operand.tmp 8)) rfl (by kernel_rfl) (fun _ _ _ h => h) inv (fun W hS => by unfold bareO; go_simp) HS (fun inv => ?_)
    try simp only [Act.put, List.setIfInBounds_toArray, List.set_cons_zero, List.set_cons_succ]
    refine FirstH.goG (i := 4) (v := .agg #[.int .u8 n, .int .u16 l]) rfl (by rfl) 10 rfl (Op.load 31 (Operand.tmp 4)) rfl (by kernel_rfl) (fun _ _ _ h => h) inv (fun W hS => by exact run_load_row 31 31 _ (kt + 1) (by rfl) 31 #[.int .u8 n, .int .u16 l] (0, 0) _ hS.2.1 Try.underlying31 rfl (by kernel_rfl)) HS (fun inv => ?_)
    try simp only [Act.put, List.setIfInBounds_toArray, List.set_cons_zero, List.set_cons_succ]
    refine FirstH.only (i := 5) (by kernel_rfl) (by decide) inv (fun inv => wpOp_callG (i := 5) rfl (by rfl) 11 rfl (Op.call { callee := Callee.value (.func 41), args := #[Operand.tmp 10], argTypes := #[31] }) rfl 41 #[.agg #[.int .u8 n, .int .u16 l]] (by unfold bareO; go_simp) (KR.out _) ?_)
    rintro e u9 ⟨rfl, b9⟩
    have HS : (u9.heap[kt]? = some (.cells #[.pointer (some ⟨b, 0, none⟩)] 25 (0, 0)) ∧ u9.heap[kt + 1]? = some (.cells #[.int .u8 n, .int .u16 l] 31 (0, 0)) ∧ u9.heap[b]? = some (.cells #[.int .u32 t.win, .map (some m), .map (some k)] 85 (0, 0)) ∧ u9.heap[k]? = some (.map es cl)) := ⟨(b9.block _ (bltA HS.1)).trans HS.1, (b9.block _ (bltA HS.2.1)).trans HS.2.1, (b9.block _ (bltA HS.2.2.1)).trans HS.2.2.1, (b9.block _ (bltA HS.2.2.2)).trans HS.2.2.2⟩
    have BD : Hid (Below W2.heap.size W2 u9) := Lib.hid (BD.out.trans (b9.mono BD.out.size))
    clear b9
    refine ⟨_, rfl, HS, ?_⟩
    try simp only [Act.put, List.setIfInBounds_toArray, List.set_cons_zero, List.set_cons_succ]
    refine FirstH.goG (i := 6) (v := .bool true) rfl (by rfl) 12 rfl (Op.unOp UnOp.not 4 (Operand.tmp 11)) rfl (by kernel_rfl) (fun _ _ _ h => h) inv (fun W hS => by unfold bareO; go_simp) HS (fun inv => ?_)
    try simp only [Act.put, List.setIfInBounds_toArray, List.set_cons_zero, List.set_cons_succ]
    refine FirstH.go (i := 7) (v := .bool true) rfl rfl 13 rfl (Op.pick (Operand.tmp 9) (Operand.const (Value.bool true)) (Operand.tmp 12)) rfl (by kernel_rfl) (fun _ _ _ h => h) inv (fun W hS => by unfold bareO; go_simp) HS (fun inv => ?_)
    try simp only [Act.put, List.setIfInBounds_toArray, List.set_cons_zero, List.set_cons_succ]
    refine FirstH.go (i := 8) (v := .bool true) rfl rfl 14 rfl (Op.move (Operand.tmp 13)) rfl (by kernel_rfl) (fun _ _ _ h => h) inv (fun W hS => by unfold bareO; go_simp) HS (fun inv => ?_)
    try simp only [Act.put, List.setIfInBounds_toArray, List.set_cons_zero, List.set_cons_succ]
    refine FirstH.goS (i := 9) rfl (by rfl) 15 rfl (by kernel_rfl) (fun _ _ _ h => h) inv HS (fun inv => ?_)
    try simp only [Act.put, List.setIfInBounds_toArray, List.set_cons_zero, List.set_cons_succ]
    refine FirstH.goS (i := 10) rfl (by rfl) 16 rfl (by kernel_rfl) (fun _ _ _ h => h) inv HS (fun inv => ?_)
    try simp only [Act.put, List.setIfInBounds_toArray, List.set_cons_zero, List.set_cons_succ]
    refine FirstH.go (i := 11) (v := .bool true) rfl rfl 17 rfl (Op.pick (Operand.tmp 14) (Operand.const (Value.bool true)) (Operand.tmp 16)) rfl (by kernel_rfl) (fun _ _ _ h => h) inv (fun W hS => by unfold bareO; go_simp) HS (fun inv => ?_)
    try simp only [Act.put, List.setIfInBounds_toArray, List.set_cons_zero, List.set_cons_succ]
    refine FirstH.go (i := 12) (v := .bool true) rfl rfl 18 rfl (Op.move (Operand.tmp 17)) rfl (by kernel_rfl) (fun _ _ _ h => h) inv (fun W hS => by unfold bareO; go_simp) HS (fun inv => ?_)
    try simp only [Act.put, List.setIfInBounds_toArray, List.set_cons_zero, List.set_cons_succ]
    refine FirstH.goS (i := 13) rfl (by rfl) 19 rfl (by kernel_rfl) (fun _ _ _ h => h) inv HS (fun inv => ?_)
    try simp only [Act.put, List.setIfInBounds_toArray, List.set_cons_zero, List.set_cons_succ]
    refine FirstH.goS (i := 14) rfl (by rfl) 20 rfl (by kernel_rfl) (fun _ _ _ h => h) inv HS (fun inv => ?_)
    try simp only [Act.put, List.setIfInBounds_toArray, List.set_cons_zero, List.set_cons_succ]
    refine FirstH.goS (i := 15) rfl (by rfl) 21 rfl (by kernel_rfl) (fun _ _ _ h => h) inv HS (fun inv => ?_)
    try simp only [Act.put, List.setIfInBounds_toArray, List.set_cons_zero, List.set_cons_succ]
    refine FirstH.goS (i := 16) rfl (by rfl) 22 rfl (by kernel_rfl) (fun _ _ _ h => h) inv HS (fun inv => ?_)
    try simp only [Act.put, List.setIfInBounds_toArray, List.set_cons_zero, List.set_cons_succ]
    refine FirstH.goS (i := 17) rfl (by rfl) 23 rfl (by kernel_rfl) (fun _ _ _ h => h) inv HS (fun inv => ?_)
    try simp only [Act.put, List.setIfInBounds_toArray, List.set_cons_zero, List.set_cons_succ]
    refine FirstH.goS (i := 18) rfl (by rfl) 24 rfl (by kernel_rfl) (fun _ _ _ h => h) inv HS (fun inv => ?_)
    try simp only [Act.put, List.setIfInBounds_toArray, List.set_cons_zero, List.set_cons_succ]
    refine FirstH.goS (i := 19) rfl (by rfl) 25 rfl (by kernel_rfl) (fun _ _ _ h => h) inv HS (fun inv => ?_)
    try simp only [Act.put, List.setIfInBounds_toArray, List.set_cons_zero, List.set_cons_succ]
    refine FirstH.goS (i := 20) rfl (by rfl) 26 rfl (by kernel_rfl) (fun _ _ _ h => h) inv HS (fun inv => ?_)
    try simp only [Act.put, List.setIfInBounds_toArray, List.set_cons_zero, List.set_cons_succ]
    refine ⟨by kernel_rfl, ?_⟩
    simp only [List.drop_succ_cons, List.drop_zero]
    clear inv
    go_wp2_with fail
    exact bodyPost_ret (results_none rfl _ _ _) rfl ⟨rfl, by rw [HR.out]; exact (HP.out.below BD.out).mono (by omega), KP.of_below (HKX.out.symm ▸ B2.out.trans (BD.out.mono (Nat.le_of_lt L2.out)))⟩
  · by_cases hu : 1048576 < u
    · have HR : Hid (t' = t) := Lib.hid (by rw [HR0.out, if_pos (.inr (.inl hu))])
      have hgt : decide (1048576 < u) = true := by simpa using hu
      refine FirstH.go (i := 0) (v := .pointer (some ⟨b, 0, none⟩)) rfl rfl 6 rfl (Op.load 25 (Operand.tmp 3)) rfl (by kernel_rfl) (fun _ _ _ h => h) inv (fun W hS => by have c := cell_of hS.1 0 (.pointer (some ⟨b, 0, none⟩)) rfl; unfold bareO; go_simp) HS (fun inv => ?_)
      try simp only [Act.put, List.setIfInBounds_toArray, List.set_cons_zero, List.set_cons_succ]
      refine FirstH.only (i := 1) (by kernel_rfl) (by decide) inv (fun inv => wpOp_call (i := 1) rfl rfl 7 rfl (Op.call { callee := Callee.value (.func 35), args := #[Operand.tmp 6], argTypes := #[25] }) rfl 35 #[.pointer (some ⟨b, 0, none⟩)] (by unfold bareO; go_simp) (KM.out _ BD.out) ?_)
      rintro e ux ⟨rfl, rfl⟩
      refine ⟨_, rfl, HS, ?_⟩
      try simp only [Act.put, List.setIfInBounds_toArray, List.set_cons_zero, List.set_cons_succ]
      refine FirstH.go (i := 2) (v := .bool false) rfl rfl 8 rfl (Op.unOp UnOp.not 4 (Operand.tmp 7)) rfl (by kernel_rfl) (fun _ _ _ h => h) inv (fun W hS => by unfold bareO; go_simp) HS (fun inv => ?_)
      try simp only [Act.put, List.setIfInBounds_toArray, List.set_cons_zero, List.set_cons_succ]
      refine FirstH.go (i := 3) (v := .bool false) rfl rfl 9 rfl (Op.move (Operand.tmp 8)) rfl (by kernel_rfl) (fun _ _ _ h => h) inv (fun W hS => by unfold bareO; go_simp) HS (fun inv => ?_)
      try simp only [Act.put, List.setIfInBounds_toArray, List.set_cons_zero, List.set_cons_succ]
      refine FirstH.goG (i := 4) (v := .agg #[.int .u8 n, .int .u16 l]) rfl (by rfl) 10 rfl (Op.load 31 (Operand.tmp 4)) rfl (by kernel_rfl) (fun _ _ _ h => h) inv (fun W hS => by exact run_load_row 31 31 _ (kt + 1) (by rfl) 31 #[.int .u8 n, .int .u16 l] (0, 0) _ hS.2.1 Try.underlying31 rfl (by kernel_rfl)) HS (fun inv => ?_)
      try simp only [Act.put, List.setIfInBounds_toArray, List.set_cons_zero, List.set_cons_succ]
      refine FirstH.only (i := 5) (by kernel_rfl) (by decide) inv (fun inv => wpOp_callG (i := 5) rfl (by rfl) 11 rfl (Op.call { callee := Callee.value (.func 41), args := #[Operand.tmp 10], argTypes := #[31] }) rfl 41 #[.agg #[.int .u8 n, .int .u16 l]] (by unfold bareO; go_simp) (KR.out _) ?_)
      rintro e u9 ⟨rfl, b9⟩
      have HS : (u9.heap[kt]? = some (.cells #[.pointer (some ⟨b, 0, none⟩)] 25 (0, 0)) ∧ u9.heap[kt + 1]? = some (.cells #[.int .u8 n, .int .u16 l] 31 (0, 0)) ∧ u9.heap[b]? = some (.cells #[.int .u32 t.win, .map (some m), .map (some k)] 85 (0, 0)) ∧ u9.heap[k]? = some (.map es cl)) := ⟨(b9.block _ (bltA HS.1)).trans HS.1, (b9.block _ (bltA HS.2.1)).trans HS.2.1, (b9.block _ (bltA HS.2.2.1)).trans HS.2.2.1, (b9.block _ (bltA HS.2.2.2)).trans HS.2.2.2⟩
      have BD : Hid (Below W2.heap.size W2 u9) := Lib.hid (BD.out.trans (b9.mono BD.out.size))
      clear b9
      refine ⟨_, rfl, HS, ?_⟩
      try simp only [Act.put, List.setIfInBounds_toArray, List.set_cons_zero, List.set_cons_succ]
      refine FirstH.goG (i := 6) (v := .bool false) rfl (by rfl) 12 rfl (Op.unOp UnOp.not 4 (Operand.tmp 11)) rfl (by kernel_rfl) (fun _ _ _ h => h) inv (fun W hS => by unfold bareO; go_simp) HS (fun inv => ?_)
      try simp only [Act.put, List.setIfInBounds_toArray, List.set_cons_zero, List.set_cons_succ]
      refine FirstH.go (i := 7) (v := .bool false) rfl rfl 13 rfl (Op.pick (Operand.tmp 9) (Operand.const (Value.bool true)) (Operand.tmp 12)) rfl (by kernel_rfl) (fun _ _ _ h => h) inv (fun W hS => by unfold bareO; go_simp) HS (fun inv => ?_)
      try simp only [Act.put, List.setIfInBounds_toArray, List.set_cons_zero, List.set_cons_succ]
      refine FirstH.go (i := 8) (v := .bool false) rfl rfl 14 rfl (Op.move (Operand.tmp 13)) rfl (by kernel_rfl) (fun _ _ _ h => h) inv (fun W hS => by unfold bareO; go_simp) HS (fun inv => ?_)
      try simp only [Act.put, List.setIfInBounds_toArray, List.set_cons_zero, List.set_cons_succ]
      refine FirstH.goG (i := 9) (v := .int .u32 u) rfl (by rfl) 15 rfl (Op.move (Operand.tmp 2)) rfl (by kernel_rfl) (fun _ _ _ h => h) inv (fun W hS => by unfold bareO; go_simp) HS (fun inv => ?_)
      try simp only [Act.put, List.setIfInBounds_toArray, List.set_cons_zero, List.set_cons_succ]
      refine FirstH.goG (i := 10) (v := .bool true) rfl (by rfl) 16 rfl (Op.binOp BinOp.gtr 32 (Operand.tmp 15) (Operand.const (Value.int IntKind.u32 1048576)) 32) rfl (by kernel_rfl) (fun _ _ _ h => h) inv (fun W hS => by unfold bareO; go_simp; try exact hgt) HS (fun inv => ?_)
      try simp only [Act.put, List.setIfInBounds_toArray, List.set_cons_zero, List.set_cons_succ]
      refine FirstH.go (i := 11) (v := .bool true) rfl rfl 17 rfl (Op.pick (Operand.tmp 14) (Operand.const (Value.bool true)) (Operand.tmp 16)) rfl (by kernel_rfl) (fun _ _ _ h => h) inv (fun W hS => by unfold bareO; go_simp) HS (fun inv => ?_)
      try simp only [Act.put, List.setIfInBounds_toArray, List.set_cons_zero, List.set_cons_succ]
      refine FirstH.go (i := 12) (v := .bool true) rfl rfl 18 rfl (Op.move (Operand.tmp 17)) rfl (by kernel_rfl) (fun _ _ _ h => h) inv (fun W hS => by unfold bareO; go_simp) HS (fun inv => ?_)
      try simp only [Act.put, List.setIfInBounds_toArray, List.set_cons_zero, List.set_cons_succ]
      refine FirstH.goS (i := 13) rfl (by rfl) 19 rfl (by kernel_rfl) (fun _ _ _ h => h) inv HS (fun inv => ?_)
      try simp only [Act.put, List.setIfInBounds_toArray, List.set_cons_zero, List.set_cons_succ]
      refine FirstH.goS (i := 14) rfl (by rfl) 20 rfl (by kernel_rfl) (fun _ _ _ h => h) inv HS (fun inv => ?_)
      try simp only [Act.put, List.setIfInBounds_toArray, List.set_cons_zero, List.set_cons_succ]
      refine FirstH.goS (i := 15) rfl (by rfl) 21 rfl (by kernel_rfl) (fun _ _ _ h => h) inv HS (fun inv => ?_)
      try simp only [Act.put, List.setIfInBounds_toArray, List.set_cons_zero, List.set_cons_succ]
      refine FirstH.goS (i := 16) rfl (by rfl) 22 rfl (by kernel_rfl) (fun _ _ _ h => h) inv HS (fun inv => ?_)
      try simp only [Act.put, List.setIfInBounds_toArray, List.set_cons_zero, List.set_cons_succ]
      refine FirstH.goS (i := 17) rfl (by rfl) 23 rfl (by kernel_rfl) (fun _ _ _ h => h) inv HS (fun inv => ?_)
      try simp only [Act.put, List.setIfInBounds_toArray, List.set_cons_zero, List.set_cons_succ]
      refine FirstH.goS (i := 18) rfl (by rfl) 24 rfl (by kernel_rfl) (fun _ _ _ h => h) inv HS (fun inv => ?_)
      try simp only [Act.put, List.setIfInBounds_toArray, List.set_cons_zero, List.set_cons_succ]
      refine FirstH.goS (i := 19) rfl (by rfl) 25 rfl (by kernel_rfl) (fun _ _ _ h => h) inv HS (fun inv => ?_)
      try simp only [Act.put, List.setIfInBounds_toArray, List.set_cons_zero, List.set_cons_succ]
      refine FirstH.goS (i := 20) rfl (by rfl) 26 rfl (by kernel_rfl) (fun _ _ _ h => h) inv HS (fun inv => ?_)
      try simp only [Act.put, List.setIfInBounds_toArray, List.set_cons_zero, List.set_cons_succ]
      refine ⟨by kernel_rfl, ?_⟩
      simp only [List.drop_succ_cons, List.drop_zero]
      clear inv
      go_wp2_with fail
      exact bodyPost_ret (results_none rfl _ _ _) rfl ⟨rfl, by rw [HR.out]; exact (HP.out.below BD.out).mono (by omega), KP.of_below (HKX.out.symm ▸ B2.out.trans (BD.out.mono (Nat.le_of_lt L2.out)))⟩
    · have hgt : decide (1048576 < u) = false := by simpa using hu
      have RU : Hid (0 ≤ u ∧ u ≤ 1048576) := Lib.hid (by omega)
      by_cases hf : u ≤ f
      · have HR : Hid (t' = t) := Lib.hid (by rw [HR0.out, if_pos (.inr (.inr hf))])
        have hle : decide (u ≤ f) = true := by simpa using hf
        refine FirstH.go (i := 0) (v := .pointer (some ⟨b, 0, none⟩)) rfl rfl 6 rfl (Op.load 25 (Operand.tmp 3)) rfl (by kernel_rfl) (fun _ _ _ h => h) inv (fun W hS => by have c := cell_of hS.1 0 (.pointer (some ⟨b, 0, none⟩)) rfl; unfold bareO; go_simp) HS (fun inv => ?_)
        try simp only [Act.put, List.setIfInBounds_toArray, List.set_cons_zero, List.set_cons_succ]
        refine FirstH.only (i := 1) (by kernel_rfl) (by decide) inv (fun inv => wpOp_call (i := 1) rfl rfl 7 rfl (Op.call { callee := Callee.value (.func 35), args := #[Operand.tmp 6], argTypes := #[25] }) rfl 35 #[.pointer (some ⟨b, 0, none⟩)] (by unfold bareO; go_simp) (KM.out _ BD.out) ?_)
        rintro e ux ⟨rfl, rfl⟩
        refine ⟨_, rfl, HS, ?_⟩
        try simp only [Act.put, List.setIfInBounds_toArray, List.set_cons_zero, List.set_cons_succ]
        refine FirstH.go (i := 2) (v := .bool false) rfl rfl 8 rfl (Op.unOp UnOp.not 4 (Operand.tmp 7)) rfl (by kernel_rfl) (fun _ _ _ h => h) inv (fun W hS => by unfold bareO; go_simp) HS (fun inv => ?_)
        try simp only [Act.put, List.setIfInBounds_toArray, List.set_cons_zero, List.set_cons_succ]
        refine FirstH.go (i := 3) (v := .bool false) rfl rfl 9 rfl (Op.move (Operand.tmp 8)) rfl (by kernel_rfl) (fun _ _ _ h => h) inv (fun W hS => by unfold bareO; go_simp) HS (fun inv => ?_)
        try simp only [Act.put, List.setIfInBounds_toArray, List.set_cons_zero, List.set_cons_succ]
        refine FirstH.goG (i := 4) (v := .agg #[.int .u8 n, .int .u16 l]) rfl (by rfl) 10 rfl (Op.load 31 (Operand.tmp 4)) rfl (by kernel_rfl) (fun _ _ _ h => h) inv (fun W hS => by exact run_load_row 31 31 _ (kt + 1) (by rfl) 31 #[.int .u8 n, .int .u16 l] (0, 0) _ hS.2.1 Try.underlying31 rfl (by kernel_rfl)) HS (fun inv => ?_)
        try simp only [Act.put, List.setIfInBounds_toArray, List.set_cons_zero, List.set_cons_succ]
        refine FirstH.only (i := 5) (by kernel_rfl) (by decide) inv (fun inv => wpOp_callG (i := 5) rfl (by rfl) 11 rfl (Op.call { callee := Callee.value (.func 41), args := #[Operand.tmp 10], argTypes := #[31] }) rfl 41 #[.agg #[.int .u8 n, .int .u16 l]] (by unfold bareO; go_simp) (KR.out _) ?_)
        rintro e u9 ⟨rfl, b9⟩
        have HS : (u9.heap[kt]? = some (.cells #[.pointer (some ⟨b, 0, none⟩)] 25 (0, 0)) ∧ u9.heap[kt + 1]? = some (.cells #[.int .u8 n, .int .u16 l] 31 (0, 0)) ∧ u9.heap[b]? = some (.cells #[.int .u32 t.win, .map (some m), .map (some k)] 85 (0, 0)) ∧ u9.heap[k]? = some (.map es cl)) := ⟨(b9.block _ (bltA HS.1)).trans HS.1, (b9.block _ (bltA HS.2.1)).trans HS.2.1, (b9.block _ (bltA HS.2.2.1)).trans HS.2.2.1, (b9.block _ (bltA HS.2.2.2)).trans HS.2.2.2⟩
        have BD : Hid (Below W2.heap.size W2 u9) := Lib.hid (BD.out.trans (b9.mono BD.out.size))
        clear b9
        refine ⟨_, rfl, HS, ?_⟩
        try simp only [Act.put, List.setIfInBounds_toArray, List.set_cons_zero, List.set_cons_succ]
        refine FirstH.goG (i := 6) (v := .bool false) rfl (by rfl) 12 rfl (Op.unOp UnOp.not 4 (Operand.tmp 11)) rfl (by kernel_rfl) (fun _ _ _ h => h) inv (fun W hS => by unfold bareO; go_simp) HS (fun inv => ?_)
        try simp only [Act.put, List.setIfInBounds_toArray, List.set_cons_zero, List.set_cons_succ]
        refine FirstH.go (i := 7) (v := .bool false) rfl rfl 13 rfl (Op.pick (Operand.tmp 9) (Operand.const (Value.bool true)) (Operand.tmp 12)) rfl (by kernel_rfl) (fun _ _ _ h => h) inv (fun W hS => by unfold bareO; go_simp) HS (fun inv => ?_)
        try simp only [Act.put, List.setIfInBounds_toArray, List.set_cons_zero, List.set_cons_succ]
        refine FirstH.go (i := 8) (v := .bool false) rfl rfl 14 rfl (Op.move (Operand.tmp 13)) rfl (by kernel_rfl) (fun _ _ _ h => h) inv (fun W hS => by unfold bareO; go_simp) HS (fun inv => ?_)
        try simp only [Act.put, List.setIfInBounds_toArray, List.set_cons_zero, List.set_cons_succ]
        refine FirstH.goG (i := 9) (v := .int .u32 u) rfl (by rfl) 15 rfl (Op.move (Operand.tmp 2)) rfl (by kernel_rfl) (fun _ _ _ h => h) inv (fun W hS => by unfold bareO; go_simp) HS (fun inv => ?_)
        try simp only [Act.put, List.setIfInBounds_toArray, List.set_cons_zero, List.set_cons_succ]
        refine FirstH.goG (i := 10) (v := .bool false) rfl (by rfl) 16 rfl (Op.binOp BinOp.gtr 32 (Operand.tmp 15) (Operand.const (Value.int IntKind.u32 1048576)) 32) rfl (by kernel_rfl) (fun _ _ _ h => h) inv (fun W hS => by unfold bareO; go_simp; try exact hgt) HS (fun inv => ?_)
        try simp only [Act.put, List.setIfInBounds_toArray, List.set_cons_zero, List.set_cons_succ]
        refine FirstH.go (i := 11) (v := .bool false) rfl rfl 17 rfl (Op.pick (Operand.tmp 14) (Operand.const (Value.bool true)) (Operand.tmp 16)) rfl (by kernel_rfl) (fun _ _ _ h => h) inv (fun W hS => by unfold bareO; go_simp) HS (fun inv => ?_)
        try simp only [Act.put, List.setIfInBounds_toArray, List.set_cons_zero, List.set_cons_succ]
        refine FirstH.go (i := 12) (v := .bool false) rfl rfl 18 rfl (Op.move (Operand.tmp 17)) rfl (by kernel_rfl) (fun _ _ _ h => h) inv (fun W hS => by unfold bareO; go_simp) HS (fun inv => ?_)
        try simp only [Act.put, List.setIfInBounds_toArray, List.set_cons_zero, List.set_cons_succ]
        refine FirstH.goG (i := 13) (v := .int .u32 u) rfl (by rfl) 19 rfl (Op.move (Operand.tmp 2)) rfl (by kernel_rfl) (fun _ _ _ h => h) inv (fun W hS => by unfold bareO; go_simp) HS (fun inv => ?_)
        try simp only [Act.put, List.setIfInBounds_toArray, List.set_cons_zero, List.set_cons_succ]
        refine FirstH.goG (i := 14) (v := .pointer (some ⟨b, 0, none⟩)) rfl (by rfl) 20 rfl (Op.load 25 (Operand.tmp 3)) rfl (by kernel_rfl) (fun _ _ _ h => h) inv (fun W hS => by have c := cell_of hS.1 0 (.pointer (some ⟨b, 0, none⟩)) rfl; unfold bareO; go_simp) HS (fun inv => ?_)
        try simp only [Act.put, List.setIfInBounds_toArray, List.set_cons_zero, List.set_cons_succ]
        refine FirstH.goG (i := 15) (v := .pointer (some ⟨b, 0, none⟩)) rfl (by rfl) 21 rfl (Op.nilCheck (Operand.tmp 20)) rfl (by kernel_rfl) (fun _ _ _ h => h) inv (fun W hS => by unfold bareO; go_simp) HS (fun inv => ?_)
        try simp only [Act.put, List.setIfInBounds_toArray, List.set_cons_zero, List.set_cons_succ]
        refine FirstH.goG (i := 16) (v := .pointer (some ⟨b, 2, none⟩)) rfl (by rfl) 22 rfl (Op.fieldAddr 85 (Operand.tmp 21) 2) rfl (by kernel_rfl) (fun _ _ _ h => h) inv (fun W hS => by unfold bareO; go_simp) HS (fun inv => ?_)
        try simp only [Act.put, List.setIfInBounds_toArray, List.set_cons_zero, List.set_cons_succ]
        refine FirstH.goG (i := 17) (v := .map (some k)) rfl (by rfl) 23 rfl (Op.load 83 (Operand.tmp 22)) rfl (by kernel_rfl) (fun _ _ _ h => h) inv (fun W hS => by have c := cell_of hS.2.2.1 2 (.map (some k)) rfl; unfold bareO; go_simp) HS (fun inv => ?_)
        try simp only [Act.put, List.setIfInBounds_toArray, List.set_cons_zero, List.set_cons_succ]
        refine FirstH.goG (i := 18) (v := .agg #[.int .u8 n, .int .u16 l]) rfl (by rfl) 24 rfl (Op.load 31 (Operand.tmp 4)) rfl (by kernel_rfl) (fun _ _ _ h => h) inv (fun W hS => by exact run_load_row 31 31 _ (kt + 1) (by rfl) 31 #[.int .u8 n, .int .u16 l] (0, 0) _ hS.2.1 Try.underlying31 rfl (by kernel_rfl)) HS (fun inv => ?_)
        try simp only [Act.put, List.setIfInBounds_toArray, List.set_cons_zero, List.set_cons_succ]
        refine FirstH.goG (i := 19) (v := .int .u32 f) rfl (by rfl) 25 rfl (Op.lookup 83 (Operand.tmp 23) (Operand.tmp 24) false) rfl (by kernel_rfl) (fun _ _ _ h => h) inv (fun W hS => by have l := HL.out W hS.2.2.2; unfold bareO; go_simp) HS (fun inv => ?_)
        try simp only [Act.put, List.setIfInBounds_toArray, List.set_cons_zero, List.set_cons_succ]
        refine FirstH.goG (i := 20) (v := .bool true) rfl (by rfl) 26 rfl (Op.binOp BinOp.leq 32 (Operand.tmp 19) (Operand.tmp 25) 32) rfl (by kernel_rfl) (fun _ _ _ h => h) inv (fun W hS => by unfold bareO; go_simp; try exact hle) HS (fun inv => ?_)
        try simp only [Act.put, List.setIfInBounds_toArray, List.set_cons_zero, List.set_cons_succ]
        refine ⟨by kernel_rfl, ?_⟩
        simp only [List.drop_succ_cons, List.drop_zero]
        clear inv
        go_wp2_with fail
        exact bodyPost_ret (results_none rfl _ _ _) rfl ⟨rfl, by rw [HR.out]; exact (HP.out.below BD.out).mono (by omega), KP.of_below (HKX.out.symm ▸ B2.out.trans (BD.out.mono (Nat.le_of_lt L2.out)))⟩
      · have HR : Hid (t' = { t with F := nF t.F n l u, L := t.L.filter (keepR { t with F := nF t.F n l u } n l) }) := Lib.hid (by rw [HR0.out, if_neg (by simp; omega)])
        have hle : decide (u ≤ f) = false := by simpa using hf
        refine FirstH.go (i := 0) (v := .pointer (some ⟨b, 0, none⟩)) rfl rfl 6 rfl (Op.load 25 (Operand.tmp 3)) rfl (by kernel_rfl) (fun _ _ _ h => h) inv (fun W hS => by have c := cell_of hS.1 0 (.pointer (some ⟨b, 0, none⟩)) rfl; unfold bareO; go_simp) HS (fun inv => ?_)
        try simp only [Act.put, List.setIfInBounds_toArray, List.set_cons_zero, List.set_cons_succ]
        refine FirstH.only (i := 1) (by kernel_rfl) (by decide) inv (fun inv => wpOp_call (i := 1) rfl rfl 7 rfl (Op.call { callee := Callee.value (.func 35), args := #[Operand.tmp 6], argTypes := #[25] }) rfl 35 #[.pointer (some ⟨b, 0, none⟩)] (by unfold bareO; go_simp) (KM.out _ BD.out) ?_)
        rintro e ux ⟨rfl, rfl⟩
        refine ⟨_, rfl, HS, ?_⟩
        try simp only [Act.put, List.setIfInBounds_toArray, List.set_cons_zero, List.set_cons_succ]
        refine FirstH.go (i := 2) (v := .bool false) rfl rfl 8 rfl (Op.unOp UnOp.not 4 (Operand.tmp 7)) rfl (by kernel_rfl) (fun _ _ _ h => h) inv (fun W hS => by unfold bareO; go_simp) HS (fun inv => ?_)
        try simp only [Act.put, List.setIfInBounds_toArray, List.set_cons_zero, List.set_cons_succ]
        refine FirstH.go (i := 3) (v := .bool false) rfl rfl 9 rfl (Op.move (Operand.tmp 8)) rfl (by kernel_rfl) (fun _ _ _ h => h) inv (fun W hS => by unfold bareO; go_simp) HS (fun inv => ?_)
        try simp only [Act.put, List.setIfInBounds_toArray, List.set_cons_zero, List.set_cons_succ]
        refine FirstH.goG (i := 4) (v := .agg #[.int .u8 n, .int .u16 l]) rfl (by rfl) 10 rfl (Op.load 31 (Operand.tmp 4)) rfl (by kernel_rfl) (fun _ _ _ h => h) inv (fun W hS => by exact run_load_row 31 31 _ (kt + 1) (by rfl) 31 #[.int .u8 n, .int .u16 l] (0, 0) _ hS.2.1 Try.underlying31 rfl (by kernel_rfl)) HS (fun inv => ?_)
        try simp only [Act.put, List.setIfInBounds_toArray, List.set_cons_zero, List.set_cons_succ]
        refine FirstH.only (i := 5) (by kernel_rfl) (by decide) inv (fun inv => wpOp_callG (i := 5) rfl (by rfl) 11 rfl (Op.call { callee := Callee.value (.func 41), args := #[Operand.tmp 10], argTypes := #[31] }) rfl 41 #[.agg #[.int .u8 n, .int .u16 l]] (by unfold bareO; go_simp) (KR.out _) ?_)
        rintro e u9 ⟨rfl, b9⟩
        have HS : (u9.heap[kt]? = some (.cells #[.pointer (some ⟨b, 0, none⟩)] 25 (0, 0)) ∧ u9.heap[kt + 1]? = some (.cells #[.int .u8 n, .int .u16 l] 31 (0, 0)) ∧ u9.heap[b]? = some (.cells #[.int .u32 t.win, .map (some m), .map (some k)] 85 (0, 0)) ∧ u9.heap[k]? = some (.map es cl)) := ⟨(b9.block _ (bltA HS.1)).trans HS.1, (b9.block _ (bltA HS.2.1)).trans HS.2.1, (b9.block _ (bltA HS.2.2.1)).trans HS.2.2.1, (b9.block _ (bltA HS.2.2.2)).trans HS.2.2.2⟩
        have BD : Hid (Below W2.heap.size W2 u9) := Lib.hid (BD.out.trans (b9.mono BD.out.size))
        clear b9
        refine ⟨_, rfl, HS, ?_⟩
        try simp only [Act.put, List.setIfInBounds_toArray, List.set_cons_zero, List.set_cons_succ]
        refine FirstH.goG (i := 6) (v := .bool false) rfl (by rfl) 12 rfl (Op.unOp UnOp.not 4 (Operand.tmp 11)) rfl (by kernel_rfl) (fun _ _ _ h => h) inv (fun W hS => by unfold bareO; go_simp) HS (fun inv => ?_)
        try simp only [Act.put, List.setIfInBounds_toArray, List.set_cons_zero, List.set_cons_succ]
        refine FirstH.go (i := 7) (v := .bool false) rfl rfl 13 rfl (Op.pick (Operand.tmp 9) (Operand.const (Value.bool true)) (Operand.tmp 12)) rfl (by kernel_rfl) (fun _ _ _ h => h) inv (fun W hS => by unfold bareO; go_simp) HS (fun inv => ?_)
        try simp only [Act.put, List.setIfInBounds_toArray, List.set_cons_zero, List.set_cons_succ]
        refine FirstH.go (i := 8) (v := .bool false) rfl rfl 14 rfl (Op.move (Operand.tmp 13)) rfl (by kernel_rfl) (fun _ _ _ h => h) inv (fun W hS => by unfold bareO; go_simp) HS (fun inv => ?_)
        try simp only [Act.put, List.setIfInBounds_toArray, List.set_cons_zero, List.set_cons_succ]
        refine FirstH.goG (i := 9) (v := .int .u32 u) rfl (by rfl) 15 rfl (Op.move (Operand.tmp 2)) rfl (by kernel_rfl) (fun _ _ _ h => h) inv (fun W hS => by unfold bareO; go_simp) HS (fun inv => ?_)
        try simp only [Act.put, List.setIfInBounds_toArray, List.set_cons_zero, List.set_cons_succ]
        refine FirstH.goG (i := 10) (v := .bool false) rfl (by rfl) 16 rfl (Op.binOp BinOp.gtr 32 (Operand.tmp 15) (Operand.const (Value.int IntKind.u32 1048576)) 32) rfl (by kernel_rfl) (fun _ _ _ h => h) inv (fun W hS => by unfold bareO; go_simp; try exact hgt) HS (fun inv => ?_)
        try simp only [Act.put, List.setIfInBounds_toArray, List.set_cons_zero, List.set_cons_succ]
        refine FirstH.go (i := 11) (v := .bool false) rfl rfl 17 rfl (Op.pick (Operand.tmp 14) (Operand.const (Value.bool true)) (Operand.tmp 16)) rfl (by kernel_rfl) (fun _ _ _ h => h) inv (fun W hS => by unfold bareO; go_simp) HS (fun inv => ?_)
        try simp only [Act.put, List.setIfInBounds_toArray, List.set_cons_zero, List.set_cons_succ]
        refine FirstH.go (i := 12) (v := .bool false) rfl rfl 18 rfl (Op.move (Operand.tmp 17)) rfl (by kernel_rfl) (fun _ _ _ h => h) inv (fun W hS => by unfold bareO; go_simp) HS (fun inv => ?_)
        try simp only [Act.put, List.setIfInBounds_toArray, List.set_cons_zero, List.set_cons_succ]
        refine FirstH.goG (i := 13) (v := .int .u32 u) rfl (by rfl) 19 rfl (Op.move (Operand.tmp 2)) rfl (by kernel_rfl) (fun _ _ _ h => h) inv (fun W hS => by unfold bareO; go_simp) HS (fun inv => ?_)
        try simp only [Act.put, List.setIfInBounds_toArray, List.set_cons_zero, List.set_cons_succ]
        refine FirstH.goG (i := 14) (v := .pointer (some ⟨b, 0, none⟩)) rfl (by rfl) 20 rfl (Op.load 25 (Operand.tmp 3)) rfl (by kernel_rfl) (fun _ _ _ h => h) inv (fun W hS => by have c := cell_of hS.1 0 (.pointer (some ⟨b, 0, none⟩)) rfl; unfold bareO; go_simp) HS (fun inv => ?_)
        try simp only [Act.put, List.setIfInBounds_toArray, List.set_cons_zero, List.set_cons_succ]
        refine FirstH.goG (i := 15) (v := .pointer (some ⟨b, 0, none⟩)) rfl (by rfl) 21 rfl (Op.nilCheck (Operand.tmp 20)) rfl (by kernel_rfl) (fun _ _ _ h => h) inv (fun W hS => by unfold bareO; go_simp) HS (fun inv => ?_)
        try simp only [Act.put, List.setIfInBounds_toArray, List.set_cons_zero, List.set_cons_succ]
        refine FirstH.goG (i := 16) (v := .pointer (some ⟨b, 2, none⟩)) rfl (by rfl) 22 rfl (Op.fieldAddr 85 (Operand.tmp 21) 2) rfl (by kernel_rfl) (fun _ _ _ h => h) inv (fun W hS => by unfold bareO; go_simp) HS (fun inv => ?_)
        try simp only [Act.put, List.setIfInBounds_toArray, List.set_cons_zero, List.set_cons_succ]
        refine FirstH.goG (i := 17) (v := .map (some k)) rfl (by rfl) 23 rfl (Op.load 83 (Operand.tmp 22)) rfl (by kernel_rfl) (fun _ _ _ h => h) inv (fun W hS => by have c := cell_of hS.2.2.1 2 (.map (some k)) rfl; unfold bareO; go_simp) HS (fun inv => ?_)
        try simp only [Act.put, List.setIfInBounds_toArray, List.set_cons_zero, List.set_cons_succ]
        refine FirstH.goG (i := 18) (v := .agg #[.int .u8 n, .int .u16 l]) rfl (by rfl) 24 rfl (Op.load 31 (Operand.tmp 4)) rfl (by kernel_rfl) (fun _ _ _ h => h) inv (fun W hS => by exact run_load_row 31 31 _ (kt + 1) (by rfl) 31 #[.int .u8 n, .int .u16 l] (0, 0) _ hS.2.1 Try.underlying31 rfl (by kernel_rfl)) HS (fun inv => ?_)
        try simp only [Act.put, List.setIfInBounds_toArray, List.set_cons_zero, List.set_cons_succ]
        refine FirstH.goG (i := 19) (v := .int .u32 f) rfl (by rfl) 25 rfl (Op.lookup 83 (Operand.tmp 23) (Operand.tmp 24) false) rfl (by kernel_rfl) (fun _ _ _ h => h) inv (fun W hS => by have l := HL.out W hS.2.2.2; unfold bareO; go_simp) HS (fun inv => ?_)
        try simp only [Act.put, List.setIfInBounds_toArray, List.set_cons_zero, List.set_cons_succ]
        refine FirstH.goG (i := 20) (v := .bool false) rfl (by rfl) 26 rfl (Op.binOp BinOp.leq 32 (Operand.tmp 19) (Operand.tmp 25) 32) rfl (by kernel_rfl) (fun _ _ _ h => h) inv (fun W hS => by unfold bareO; go_simp; try exact hle) HS (fun inv => ?_)
        try simp only [Act.put, List.setIfInBounds_toArray, List.set_cons_zero, List.set_cons_succ]
        refine ⟨by kernel_rfl, ?_⟩
        simp only [List.drop_succ_cons, List.drop_zero]
        clear inv
        go_wp2_with fail
        refine region_heldT (S := fun X : World => X = u9.drew) 6 (by kernel_rfl) (by decide) (fun inv => ?_)
        have BD : Hid (Below W2.heap.size W2 u9.drew) := Lib.hid BD.out.drew
        have HKT : Hid (u9.drew.heap[kt]? = some (.cells #[.pointer (some ⟨b, 0, none⟩)] 25 (0, 0))) := Lib.hid HS.1
        have HKP : Hid (u9.drew.heap[kt + 1]? = some (.cells #[.int .u8 n, .int .u16 l] 31 (0, 0))) := Lib.hid HS.2.1
        change FirstH _ _ _ _ _ _ _ _ _ _ u9.drew
        generalize u9.drew = wd at *
        clear HS
        have HP := Lib.hid (HP.out.below BD.out)
        have HS : wd = wd := rfl
        have HB : Hid (wd.heap[b]? = some (.cells #[.int .u32 t.win, .map (some m), .map (some k)] 85 (0, 0))) := Lib.hid HP.out.blk
        obtain ⟨W6, hrun, P6, k6⟩ := HP.out.putF n l u RN.out RL.out RU.out HC.out
        have HRN := Lib.hid hrun
        have hm : ∀ q cs ty, wd.heap[q]? = some (.cells cs ty (0, 0)) → q ≠ k := fun q cs ty hq e => by
          subst e
          obtain ⟨_, _, _, ⟨_, _, hm, _⟩, _⟩ := HP.out.flo
          rw [hq] at hm
          cases hm
        have T6 := (k6.block kt (bltA HKT.out) (hm _ _ _ HKT.out)).trans HKT.out
        have Q6 := (k6.block (kt + 1) (bltA HKP.out) (hm _ _ _ HKP.out)).trans HKP.out
        have t0 := cell_of T6 0 (.pointer (some ⟨b, 0, none⟩)) rfl
        have c1 := cell_of P6.blk 1 (.map (some m)) rfl
        have KD := Lib.hid (delFuncA W6 b m k (c + 1) _ P6 n l (kt + 1) kt Q6 T6)
        have K6 : Hid (KP (fun q => q = m ∨ q = k) W W6) := Lib.hid ((KP.of_below (HKX.out.symm ▸ B2.out.trans (BD.out.mono (Nat.le_of_lt L2.out)))).trans k6 (fun i _ e => .inr e))
        clear hrun k6 hm T6 Q6 P6
        refine FirstH.go (i := 0) (v := .pointer (some ⟨b, 0, none⟩)) rfl rfl 28 rfl (Op.load 25 (Operand.tmp 3)) rfl (by kernel_rfl) (fun _ _ _ h => h) inv (fun W hS => by subst hS; have c := cell_of HKT.out 0 (.pointer (some ⟨b, 0, none⟩)) rfl; unfold bareO; go_simp) HS (fun inv => ?_)
        try simp only [Act.put, List.setIfInBounds_toArray, List.set_cons_zero, List.set_cons_succ]
        refine FirstH.go (i := 1) (v := .pointer (some ⟨b, 0, none⟩)) rfl rfl 29 rfl (Op.nilCheck (Operand.tmp 28)) rfl (by kernel_rfl) (fun _ _ _ h => h) inv (fun W hS => by unfold bareO; go_simp) HS (fun inv => ?_)
        try simp only [Act.put, List.setIfInBounds_toArray, List.set_cons_zero, List.set_cons_succ]
        refine FirstH.go (i := 2) (v := .pointer (some ⟨b, 2, none⟩)) rfl rfl 30 rfl (Op.fieldAddr 85 (Operand.tmp 29) 2) rfl (by kernel_rfl) (fun _ _ _ h => h) inv (fun W hS => by unfold bareO; go_simp) HS (fun inv => ?_)
        try simp only [Act.put, List.setIfInBounds_toArray, List.set_cons_zero, List.set_cons_succ]
        refine FirstH.go (i := 3) (v := .map (some k)) rfl rfl 31 rfl (Op.load 83 (Operand.tmp 30)) rfl (by kernel_rfl) (fun _ _ _ h => h) inv (fun W hS => by subst hS; have c := cell_of HB.out 2 (.map (some k)) rfl; unfold bareO; go_simp) HS (fun inv => ?_)
        try simp only [Act.put, List.setIfInBounds_toArray, List.set_cons_zero, List.set_cons_succ]
        refine FirstH.go (i := 4) (v := .agg #[.int .u8 n, .int .u16 l]) rfl rfl 32 rfl (Op.load 31 (Operand.tmp 4)) rfl (by kernel_rfl) (fun _ _ _ h => h) inv (fun W hS => by subst hS; exact run_load_row 31 31 _ (kt + 1) (by rfl) 31 #[.int .u8 n, .int .u16 l] (0, 0) _ HKP.out Try.underlying31 rfl (by kernel_rfl)) HS (fun inv => ?_)
        try simp only [Act.put, List.setIfInBounds_toArray, List.set_cons_zero, List.set_cons_succ]
        refine FirstH.go (i := 5) (v := .int .u32 u) rfl rfl 33 rfl (Op.move (Operand.tmp 2)) rfl (by kernel_rfl) (fun _ _ _ h => h) inv (fun W hS => by unfold bareO; go_simp) HS (fun inv => ?_)
        try simp only [Act.put, List.setIfInBounds_toArray, List.set_cons_zero, List.set_cons_succ]
        refine ⟨by kernel_rfl, ?_⟩
        simp only [List.drop_succ_cons, List.drop_zero]
        have hr := HRN.out
        clear inv
        go_wp2_with (first | (go_at_call 42; refine KD.out.mono ?_; rintro e w7 ⟨rfl, P7, k7⟩; have P7 := Lib.hid P7; have K7 : Hid (KP (fun q => q = m ∨ q = k) W w7) := Lib.hid (K6.out.trans k7 (fun i _ e => .inl e)); clear k7) | fail)
        go_end0
        exact ⟨rfl, by rw [HR.out]; exact P7.out, K7.out⟩

end Go.Proofs.Ytldbmmganicliaa
