/-
  Values of the program and of the document, made of one another, and cloned: by contracts. Condition: they lie in memory.
-/
import Derived.Test.YtfkmodmgihadkaaGcl
import Derived.Deep.MidRow
import Derived.LoopN
import Derived.Great.BuildSlice
namespace Go.Proofs.Ytfkmodmgihadkaa
set_option linter.unusedSimpArgs false
set_option linter.unusedVariables false
open Go.RowKit Go.Maps Go.Sort
open V (P2)

theorem fillE (e : Le) : Instr.fill (fun i => some (i * 18, 18)) ((Array.range (1 * 18)).map ((Value.agg #[.int .u8 0, .int .u8 0, .int .u16 0, .int .u32 0, .int .u8 0, .int .u8 0, .int .u8 0, .int .u8 0, .int .u8 0, .int .u8 0, .int .u8 0, .int .u32 0, .slice none 0 0, .int .u8 0, .string ByteArray.empty, .slice none 0 0, .int .u8 0, .int .u16 0]).cells[· % (Value.agg #[.int .u8 0, .int .u8 0, .int .u16 0, .int .u32 0, .int .u8 0, .int .u8 0, .int .u8 0, .int .u8 0, .int .u8 0, .int .u8 0, .int .u8 0, .int .u32 0, .slice none 0 0, .int .u8 0, .string ByteArray.empty, .slice none 0 0, .int .u8 0, .int .u16 0]).cells.size]!)) [(0, Value.agg e.cs)] = some e.cs := by
  obtain ⟨x, A, X, c, B, Y, d⟩ := e
  kernel_rfl
set_option maxRecDepth 100000 in
set_option maxHeartbeats 2000000 in
theorem valClone (x : Vl) (w : World) (h : x.Ok w) :
    Calls Try.prog 25 #[.agg x.cs] w fun r w' => ∃ x' : Vl, r = .returned (.agg x'.cs) ∧ x'.Ok w' ∧ x'.d = x.d ∧ Below w.heap.size w w' := by
  have K1 : Hid (∀ W, Below w.heap.size w W → Calls Try.prog 35 #[x.m] W fun e w' => ∃ v, e = .returned v ∧ w'.ownsRow W.heap.size 54 2 v x.X.length (V.cellsV x.X) ∧ Below W.heap.size W w') := Lib.hid (fun W hw => by
    have h1 := h.keep (Keeps.of_below hw)
    obtain ⟨A, c, e, hr, hc, hm, hA⟩ := h1.m.rows
    rw [e]
    exact cloneV A x.X c W hr h1.lm hc hm hA)
  have K2 : Hid (∀ W, Below w.heap.size w W → Calls Try.prog 32 #[x.t] W fun e w' => ∃ v, e = .returned v ∧ ∃ L', L'.map Le.v = x.L.map Le.v ∧ EnO w' v L' ∧ Below W.heap.size W w') := Lib.hid (fun W hw => cloneTail x.t x.L W ((h.keep (Keeps.of_below hw)).t) h.lt)
  have HLM := Lib.hid h.lm
  have HLT := Lib.hid h.lt
  obtain ⟨m, X, t, L⟩ := x
  dsimp only [Vl.cs] at K1 K2 HLM HLT ⊢
  obtain ⟨wd, hwd⟩ : ∃ z, ((w.alloc (.cells #[m, t] 32)).alloc (.cells #[.slice none 0 0, .slice none 0 0] 32)) = z := ⟨_, rfl⟩
  have b0 : Below w.heap.size w wd := by rw [← hwd]; exact ((Below.refl _ _).alloc (Nat.le_refl _) _).alloc (by simp) _
  have r0 : wd.heap[w.heap.size]? = some (.cells #[m, t] 32 (0, 0)) := by
    rw [← hwd, Below.heap_alloc _ _ _ (by simp)]
    exact heap_alloc_new _ _
  have r1 : wd.heap[w.heap.size + 1]? = some (.cells #[.slice none 0 0, .slice none 0 0] 32 (0, 0)) := by
    rw [← hwd]
    have := heap_alloc_new (w.alloc (.cells #[m, t] 32)) (.cells #[.slice none 0 0, .slice none 0 0] 32)
    simpa using this
  obtain ⟨k, hk⟩ : ∃ k, w.heap.size = k := ⟨_, rfl⟩
  rw [hk] at r0 r1 b0 K1 K2 ⊢
  have HW := Lib.hid hwd
  have B0 := Lib.hid b0
  have R0 := Lib.hid r0
  have R1 := Lib.hid r1
  clear h hwd b0 r0 r1
  go_enter Try.func25, Try.ntmps25
  go_wp2_with (first
    | (refine wpList_bx rfl 32 (.tmp 0) rfl 1 rfl #[m, t] rfl ?_; rw [hk])
    | (rw [HW.out]))
  try simp only [World.size_alloc, hk]
  refine region_heldT (S := fun W => W.heap[k]? = some (.cells #[m, t] 32 (0, 0))) 7 (by kernel_rfl) (by decide) (fun inv => ?_)
  have HS : wd.drew.heap[k]? = some (.cells #[m, t] 32 (0, 0)) := R0.out
  have R1d : Hid (wd.drew.heap[k + 1]? = some (.cells #[.slice none 0 0, .slice none 0 0] 32 (0, 0))) := Lib.hid R1.out
  have R0d : Hid (wd.drew.heap[k]? = some (.cells #[m, t] 32 (0, 0))) := Lib.hid R0.out
  have B0d : Hid (Below k w wd.drew) := Lib.hid B0.out.drew
  change FirstH _ _ _ _ _ _ _ _ _ _ wd.drew
  generalize wd.drew = wd2 at *
  refine FirstH.go (i := 0) (v := .pointer (some ⟨k, 0, none⟩)) rfl rfl 3 rfl (Op.fieldAddr 32 (.tmp 1) 0) rfl (by kernel_rfl) (fun _ _ _ h => h) inv (fun W hS => by have k0 := (cell_of_row _ _ 0 _ _ _ hS); have k1 := (cell_of_row _ _ 1 _ _ _ hS); unfold bareO; go_simp) HS (fun inv => ?_)
  try simp only [Act.put, List.setIfInBounds_toArray, List.set_cons_zero, List.set_cons_succ]
  refine FirstH.go (i := 1) (v := m) rfl rfl 4 rfl (Op.load 29 (.tmp 3)) rfl (by kernel_rfl) (fun _ _ _ h => h) inv (fun W hS => by have k0 := (cell_of_row _ _ 0 _ _ _ hS); have k1 := (cell_of_row _ _ 1 _ _ _ hS); unfold bareO; go_simp) HS (fun inv => ?_)
  try simp only [Act.put, List.setIfInBounds_toArray, List.set_cons_zero, List.set_cons_succ]
  refine FirstH.go (i := 3) (v := .pointer (some ⟨k, 1, none⟩)) rfl rfl 6 rfl (Op.fieldAddr 32 (.tmp 1) 1) rfl (by kernel_rfl) (fun _ _ _ h => h) inv (fun W hS => by have k0 := (cell_of_row _ _ 0 _ _ _ hS); have k1 := (cell_of_row _ _ 1 _ _ _ hS); unfold bareO; go_simp) HS (fun inv => ?_)
  try simp only [Act.put, List.setIfInBounds_toArray, List.set_cons_zero, List.set_cons_succ]
  refine FirstH.go (i := 4) (v := t) rfl rfl 7 rfl (Op.load 30 (.tmp 6)) rfl (by kernel_rfl) (fun _ _ _ h => h) inv (fun W hS => by have k0 := (cell_of_row _ _ 0 _ _ _ hS); have k1 := (cell_of_row _ _ 1 _ _ _ hS); unfold bareO; go_simp) HS (fun inv => ?_)
  try simp only [Act.put, List.setIfInBounds_toArray, List.set_cons_zero, List.set_cons_succ]
  clear HS
  refine FirstH.only (i := 2) (by kernel_rfl) (by decide) inv (fun inv => wpOp_call (i := 2) rfl rfl 5 rfl (Op.call { callee := .value (.func 35), args := #[.tmp 4], argTypes := #[29] }) rfl 35 #[m] (by unfold bareO; go_simp) (K1.out wd2 B0d.out) ?_)
  rintro e w2 ⟨v1, rfl, o1, b2⟩
  have l1 : k + 1 < wd2.heap.size := (Array.getElem?_eq_some_iff.1 R1d.out).1
  have B2 := Lib.hid (B0d.out.trans (b2.mono (hk ▸ B0d.out.size)))
  have HS2 := (b2.block k (by omega)).trans R0d.out
  have R2 := Lib.hid ((b2.block _ l1).trans R1d.out)
  have HP2 : Hid (PrO w2 v1 X) := Lib.hid (PrO.of_owns o1)
  obtain ⟨A1, c1, rfl, -⟩ := (PrO.of_owns o1).rows
  clear b2
  refine ⟨_, rfl, HS2, ?_⟩
  try simp only [Act.put, List.setIfInBounds_toArray, List.set_cons_zero, List.set_cons_succ]
  refine FirstH.only (i := 5) (by kernel_rfl) (by decide) inv (fun inv => wpOp_call (i := 5) rfl rfl 8 rfl (Op.call { callee := .value (.func 32), args := #[.tmp 7], argTypes := #[30] }) rfl 32 #[t] (by unfold bareO; go_simp) (K2.out w2 B2.out) ?_)
  rintro e w3 ⟨v2, rfl, L2, hL2, o2, b3⟩
  have l2 : k + 1 < w2.heap.size := (Array.getElem?_eq_some_iff.1 R2.out).1
  have B3 := Lib.hid (B2.out.trans (b3.mono (hk ▸ B2.out.size)))
  have HS3 := (b3.block k (by omega)).trans HS2
  have R3 := (b3.block _ l2).trans R2.out
  have HP3 : Hid (PrO w3 (.slice A1 X.length c1) X) := Lib.hid (HP2.out.keep (Keeps.of_below b3))
  have HE3 : Hid (EnO w3 v2 L2) := Lib.hid o2
  obtain ⟨A2, c2, rfl, -⟩ := o2.rows
  have hl3 : k + 1 < w3.heap.size := (Array.getElem?_eq_some_iff.1 R3).1
  clear b3 HS2
  refine ⟨_, rfl, HS3, ?_⟩
  try simp only [Act.put, List.setIfInBounds_toArray, List.set_cons_zero, List.set_cons_succ]
  refine FirstH.go (i := 6) (v := .agg #[.slice A1 X.length c1, .slice A2 L2.length c2]) rfl rfl 9 rfl (Op.build 32 #[(0, .tmp 5), (1, .tmp 8)]) rfl (by kernel_rfl) (fun _ _ _ h => h) inv (fun W hS => by unfold bareO; go_simp) HS3 (fun inv => ?_)
  try simp only [Act.put, List.setIfInBounds_toArray, List.set_cons_zero, List.set_cons_succ]
  clear HS3
  refine ⟨by kernel_rfl, ?_⟩
  simp only [List.drop_succ_cons, List.drop_zero]
  have hone : (#[.slice A1 X.length c1, .slice A2 L2.length c2] : Array Value).all (·.oneCell') = true := by simp [Value.oneCell']
  obtain ⟨w4, hw4⟩ : ∃ z, w3.setRow (k + 1) #[.slice A1 X.length c1, .slice A2 L2.length c2] = z := ⟨_, rfl⟩
  have r4 : w4.heap[k + 1]? = some (.cells #[.slice A1 X.length c1, .slice A2 L2.length c2] 32 (0, 0)) := by rw [← hw4]; exact setRow_heapG _ _ _ _ _ _ R3
  have kp : KP (fun j => j = k + 1) w3 w4 := by rw [← hw4]; exact KP.setRow w3 (k + 1) _ rfl
  have B4 := Lib.hid (B3.out.trans (kp.below (by omega) fun j hj => by omega))
  have kk : Keeps w3 w4 := Keeps.of_KP kp fun g cur t hg ht => apart_of hg R3 (by
    intro e
    rw [e] at ht
    revert ht
    simp [Ty])
  have R4 := Lib.hid r4
  have HW4 := Lib.hid hw4
  have P4 := Lib.hid (HP3.out.keep kk)
  have E4 := Lib.hid (HE3.out.keep kk)
  clear r4 kp kk hw4
  refine wpList_store_row rfl 32 (.tmp 2) (.tmp 9) rfl (k + 1) #[.slice A1 X.length c1, .slice A2 L2.length c2] (by rfl) (by rfl) 32 _ R3 (by kernel_rfl) rfl hone ?_
  rw [HW4.out]
  go_wp2
  refine bodyPost_ret (v := .agg #[.slice A1 X.length c1, .slice A2 L2.length c2]) (by
    have c0 := cell_of R4.out 0 (.slice A1 X.length c1) rfl
    have c1 := cell_of R4.out 1 (.slice A2 L2.length c2) rfl
    simp [results, Try.results25, go_sem]
    try go_simp) rfl ⟨⟨.slice A1 X.length c1, X, .slice A2 L2.length c2, L2⟩, rfl, ⟨P4.out, E4.out, HLM.out, (by rw [show L2.length = L.length by have := congrArg List.length hL2; simpa using this]; exact HLT.out)⟩, by simp [Vl.d, hL2], B4.out⟩

end Go.Proofs.Ytfkmodmgihadkaa
