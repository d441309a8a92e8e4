/-
  What the laws of this layer begin with. Condition: the table of the powers of ten is as its text lays it.
-/
import Derived.Test.YtnkimbmnnhnanaaDoorEkn
import Derived.Test.YtnkimbmnnhnanaaDoorElp
namespace Go.Proofs.YtnkimbmnnhnanaaDoor
set_option linter.unusedSimpArgs false
set_option linter.unusedVariables false
open Go.RowKit Go.Sort

theorem FirstH.goG {P : Program} {ops : Array Oper} {Q : Exit → Act → World → Prop} {S : World → Prop} {n i g f : Nat} {oi : Oper} {v : Value} {Lq : Act → World → Prop} {done : Array Bool} {a : Act} {w : World} (hi : ops[i]? = some oi) (hgd : Region.wanted oi (yielded ops a.tmps) = true) (d : Tmp) (hd : oi.dst = some d) (p : Op) (ho : oi.op = p)
    (hB : (Region.noSelect ops && Region.sinkB .any ops n && Region.chainB .any ops n && decide (n < ops.size) && decide (i < n) && Region.free .any ops done i && (Region.ready .any ops done).contains i) = true)
    (hQ : ∀ c a w, Q (.panic c) (a.put (some d) v) w → Q (.panic c) a w) (inv : HeadInv .any ops n done) (hy : ∀ W, S W → (execOp a.eval (bareO p oi.type)).run P W = .ok (.value v) W) (hS : S w)
    (H : HeadInv .any ops n (done.setIfInBounds i true) → FirstH P .any ops Q S n (fun done' a' w' => Region.seqB .any ops g n done' = true ∧ Lq a' w') f (done.setIfInBounds i true) (a.put (some d) v) w) :
    FirstH P .any ops Q S n (fun done' a' w' => Region.seqB .any ops g n done' = true ∧ Lq a' w') (f + 1) done a w := by
  rw [← hd] at hQ H
  simp only [Bool.and_eq_true, decide_eq_true_eq] at hB
  obtain ⟨⟨⟨⟨⟨⟨h1, h2⟩, h3⟩, h4⟩, h5⟩, h6⟩, h7⟩ := hB
  exact FirstH.step hi h1 h6 h7 hQ h2 h3 h4 h5 (fun _ _ _ hL => seqB_ready hL.1) inv (Or.inl ⟨hgd, fun W hW => by rw [← execOp_bare ho]; exact hy W hW⟩) hS H

theorem wpOp_callG {P : Program} {w : World} {ops : Array Oper} {o : Oper} {i : Nat} {a : Act} {K : Act → World → Prop} {Q : Exit → Act → World → Prop} (hi : ops[i]? = some o) (hgd : Region.wanted o (yielded ops a.tmps) = true) (d : Tmp) (hd : o.dst = some d) (p : Op) (ho : o.op = p)
    (f : FuncId) (args : Array Value) (hr : (execOp a.eval (bareO p o.type)).run P w = .ok (.enter f args) w) {R : Ending → World → Prop} (hc : Calls P f args w R)
    (h : ∀ e w', R e w' → ∃ v, e = .returned v ∧ K (a.put (some d) v) w') : wpOp P ops Q i K a w := by
  rw [← hd] at h
  rw [execOp_bare ho] at hr
  unfold wpOp
  simp only [hi]
  rw [if_pos hgd]
  refine .inl ?_
  unfold Oper.wp
  rw [hr, Oper.upon_enter]
  refine hc.mono fun e w' he => ?_
  obtain ⟨v, rfl, hK⟩ := h e w' he
  exact hK
set_option maxRecDepth 100000 in
set_option maxHeartbeats 1000000 in
theorem knows5 (w : World) (B0 : Nat) (ht : Okw B0 w) : Calls Tryd.prog 6 #[] w fun e w' => e = .returned (.bool true) ∧ Below w.heap.size w w' := by
  have H0 : Hid (Below w.heap.size w ((w.alloc (.cells #[.int .u8 0, .int .u8 3, .string { data := #[97] }, .string { data := #[] }, .int .i64 5] 56)).alloc (.cells #[.int .u8 0, .int .u8 1, .int .u16 1, .int .u32 5, .int .u8 0, .int .u8 0, .int .u8 0, .int .u8 0, .int .u8 0, .int .u8 0, .int .u8 0, .int .u32 0, .slice (some ⟨w.heap.size, 0, none⟩) 1 1, .int .u8 0, .string ByteArray.empty, .slice none 0 0, .int .u8 0, .int .u16 0] 49)).drew) := Lib.hid (((Below.refl _ _).alloc (Nat.le_refl _) _).alloc (by simp) _).drew
  have HT := Lib.hid (ht.on H0.out)
  have T0 : Hid (PartAt ((w.alloc (.cells #[.int .u8 0, .int .u8 3, .string { data := #[97] }, .string { data := #[] }, .int .i64 5] 56)).alloc (.cells #[.int .u8 0, .int .u8 1, .int .u16 1, .int .u32 5, .int .u8 0, .int .u8 0, .int .u8 0, .int .u8 0, .int .u8 0, .int .u8 0, .int .u8 0, .int .u32 0, .slice (some ⟨w.heap.size, 0, none⟩) 1 1, .int .u8 0, .string ByteArray.empty, .slice none 0 0, .int .u8 0, .int .u16 0] 49)).drew w.heap.size 0 kQ) := Lib.hid (by constructor <;> simp [kQ])
  have R0 : Hid (((w.alloc (.cells #[.int .u8 0, .int .u8 3, .string { data := #[97] }, .string { data := #[] }, .int .i64 5] 56)).alloc (.cells #[.int .u8 0, .int .u8 1, .int .u16 1, .int .u32 5, .int .u8 0, .int .u8 0, .int .u8 0, .int .u8 0, .int .u8 0, .int .u8 0, .int .u8 0, .int .u32 0, .slice (some ⟨w.heap.size, 0, none⟩) 1 1, .int .u8 0, .string ByteArray.empty, .slice none 0 0, .int .u8 0, .int .u16 0] 49)).drew.heap[w.heap.size + 1]? = some (.cells #[.int .u8 0, .int .u8 1, .int .u16 1, .int .u32 5, .int .u8 0, .int .u8 0, .int .u8 0, .int .u8 0, .int .u8 0, .int .u8 0, .int .u8 0, .int .u32 0, .slice (some ⟨w.heap.size, 0, none⟩) 1 1, .int .u8 0, .string ByteArray.empty, .slice none 0 0, .int .u8 0, .int .u16 0] 49 (0, 0))) := Lib.hid (by
    have hg := heap_alloc_new (w.alloc (.cells #[.int .u8 0, .int .u8 3, .string { data := #[97] }, .string { data := #[] }, .int .i64 5] 56)) (.cells #[.int .u8 0, .int .u8 1, .int .u16 1, .int .u32 5, .int .u8 0, .int .u8 0, .int .u8 0, .int .u8 0, .int .u8 0, .int .u8 0, .int .u8 0, .int .u32 0, .slice (some ⟨w.heap.size, 0, none⟩) 1 1, .int .u8 0, .string ByteArray.empty, .slice none 0 0, .int .u8 0, .int .u16 0] 49)
    have e : (w.alloc (.cells #[.int .u8 0, .int .u8 3, .string { data := #[97] }, .string { data := #[] }, .int .i64 5] 56)).heap.size = w.heap.size + 1 := by simp
    rw [e] at hg
    exact hg)
  clear ht
  go_enter Tryd.func6, Tryd.ntmps6
  go_wp2
  refine region_heldT (S := fun W => W.heap[w.heap.size + 1]? = some (.cells #[.int .u8 0, .int .u8 1, .int .u16 1, .int .u32 5, .int .u8 0, .int .u8 0, .int .u8 0, .int .u8 0, .int .u8 0, .int .u8 0, .int .u8 0, .int .u32 0, .slice (some ⟨w.heap.size, 0, none⟩) 1 1, .int .u8 0, .string ByteArray.empty, .slice none 0 0, .int .u8 0, .int .u16 0] 49 (0, 0))) 16 (by kernel_rfl) (by decide) (fun inv => ?_)
  change FirstH _ _ _ _ _ _ _ _ _ _ ((w.alloc (.cells #[.int .u8 0, .int .u8 3, .string { data := #[97] }, .string { data := #[] }, .int .i64 5] 56)).alloc (.cells #[.int .u8 0, .int .u8 1, .int .u16 1, .int .u32 5, .int .u8 0, .int .u8 0, .int .u8 0, .int .u8 0, .int .u8 0, .int .u8 0, .int .u8 0, .int .u32 0, .slice (some ⟨w.heap.size, 0, none⟩) 1 1, .int .u8 0, .string ByteArray.empty, .slice none 0 0, .int .u8 0, .int .u16 0] 49)).drew
  generalize ((w.alloc (.cells #[.int .u8 0, .int .u8 3, .string { data := #[97] }, .string { data := #[] }, .int .i64 5] 56)).alloc (.cells #[.int .u8 0, .int .u8 1, .int .u16 1, .int .u32 5, .int .u8 0, .int .u8 0, .int .u8 0, .int .u8 0, .int .u8 0, .int .u8 0, .int .u8 0, .int .u32 0, .slice (some ⟨w.heap.size, 0, none⟩) 1 1, .int .u8 0, .string ByteArray.empty, .slice none 0 0, .int .u8 0, .int .u16 0] 49)).drew = W0 at H0 HT T0 R0 ⊢
  have L0 : w.heap.size + 1 < W0.heap.size := by obtain ⟨h, _⟩ := Array.getElem?_eq_some_iff.1 R0.out; exact h
  have HS := R0.out
  refine FirstH.go (i := 0) (v := .agg #[.int .u8 0, .int .u8 1, .int .u16 1, .int .u32 5, .int .u8 0, .int .u8 0, .int .u8 0, .int .u8 0, .int .u8 0, .int .u8 0, .int .u8 0, .int .u32 0, .slice (some ⟨w.heap.size, 0, none⟩) 1 1, .int .u8 0, .string ByteArray.empty, .slice none 0 0, .int .u8 0, .int .u16 0]) rfl rfl 7 rfl (Op.load 49 (.tmp 1)) rfl (by kernel_rfl) (fun _ _ _ h => h) inv (fun W hS => run_load_row 49 _ (.tmp 1) (w.heap.size + 1) (by rfl) 49 #[.int .u8 0, .int .u8 1, .int .u16 1, .int .u32 5, .int .u8 0, .int .u8 0, .int .u8 0, .int .u8 0, .int .u8 0, .int .u8 0, .int .u8 0, .int .u32 0, .slice (some ⟨w.heap.size, 0, none⟩) 1 1, .int .u8 0, .string ByteArray.empty, .slice none 0 0, .int .u8 0, .int .u16 0] (0, 0) _ hS Tryd.underlying49 rfl (by kernel_rfl)) HS (fun inv => ?_)
  try simp only [Act.put, List.setIfInBounds_toArray, List.set_cons_zero, List.set_cons_succ]
  clear HS
  refine FirstH.only (i := 1) (by kernel_rfl) (by decide) inv (fun inv => wpOp_call (i := 1) rfl rfl 8 rfl (Op.call { callee := .value (.func 15), args := #[.tmp 7], argTypes := #[49] }) rfl 15 #[.agg #[.int .u8 0, .int .u8 1, .int .u16 1, .int .u32 5, .int .u8 0, .int .u8 0, .int .u8 0, .int .u8 0, .int .u8 0, .int .u8 0, .int .u8 0, .int .u32 0, .slice (some ⟨w.heap.size, 0, none⟩) 1 1, .int .u8 0, .string ByteArray.empty, .slice none 0 0, .int .u8 0, .int .u16 0]] (by unfold bareO; go_simp) (showK w.heap.size _ B0 HT.out (Nat.lt_of_succ_lt L0) T0.out) ?_)
  rintro e w1 ⟨rfl, b1⟩
  have H1 := Lib.hid (H0.out.trans (b1.mono H0.out.size))
  have T1 := Lib.hid (T0.out.below b1 (Nat.lt_of_succ_lt L0))
  have R1 := Lib.hid ((b1.block _ L0).trans R0.out)
  have L1 : w.heap.size + 1 < w1.heap.size := Nat.lt_of_lt_of_le L0 b1.size
  clear b1
  have HS := R1.out
  refine ⟨_, rfl, HS, ?_⟩
  try simp only [Act.put, List.setIfInBounds_toArray, List.set_cons_zero, List.set_cons_succ]
  refine FirstH.go (i := 2) (v := .bool true) rfl rfl 9 rfl (Op.binOp .eql 9 (.tmp 8) (.const (.string { data := #[67, 97, 108, 108, 32, 49, 46, 49, 47, 53, 32, 48, 58, 84, 97, 107, 101, 40, 97, 45, 53, 41] })) 9) rfl (by kernel_rfl) (fun _ _ _ h => h) inv (fun W _ => by unfold bareO; go_simp) HS (fun inv => ?_)
  try simp only [Act.put, List.setIfInBounds_toArray, List.set_cons_zero, List.set_cons_succ]
  refine FirstH.go (i := 3) (v := .bool true) rfl rfl 10 rfl (Op.move (.tmp 9)) rfl (by kernel_rfl) (fun _ _ _ h => h) inv (fun W _ => by unfold bareO; go_simp) HS (fun inv => ?_)
  try simp only [Act.put, List.setIfInBounds_toArray, List.set_cons_zero, List.set_cons_succ]
  refine FirstH.goG (i := 4) (v := .agg #[.int .u8 0, .int .u8 1, .int .u16 1, .int .u32 5, .int .u8 0, .int .u8 0, .int .u8 0, .int .u8 0, .int .u8 0, .int .u8 0, .int .u8 0, .int .u32 0, .slice (some ⟨w.heap.size, 0, none⟩) 1 1, .int .u8 0, .string ByteArray.empty, .slice none 0 0, .int .u8 0, .int .u16 0]) rfl (by kernel_rfl) 11 rfl (Op.load 49 (.tmp 1)) rfl (by kernel_rfl) (fun _ _ _ h => h) inv (fun W hS => run_load_row 49 _ (.tmp 1) (w.heap.size + 1) (by rfl) 49 #[.int .u8 0, .int .u8 1, .int .u16 1, .int .u32 5, .int .u8 0, .int .u8 0, .int .u8 0, .int .u8 0, .int .u8 0, .int .u8 0, .int .u8 0, .int .u32 0, .slice (some ⟨w.heap.size, 0, none⟩) 1 1, .int .u8 0, .string ByteArray.empty, .slice none 0 0, .int .u8 0, .int .u16 0] (0, 0) _ hS Tryd.underlying49 rfl (by kernel_rfl)) HS (fun inv => ?_)
  try simp only [Act.put, List.setIfInBounds_toArray, List.set_cons_zero, List.set_cons_succ]
  clear HS
  refine FirstH.only (i := 5) (by kernel_rfl) (by decide) inv (fun inv => wpOp_callG (i := 5) rfl (by kernel_rfl) 12 rfl (Op.call { callee := .value (.func 8), args := #[.tmp 11, .const (.int .u8 0)], argTypes := #[49, 5] }) rfl 8 #[.agg #[.int .u8 0, .int .u8 1, .int .u16 1, .int .u32 5, .int .u8 0, .int .u8 0, .int .u8 0, .int .u8 0, .int .u8 0, .int .u8 0, .int .u8 0, .int .u32 0, .slice (some ⟨w.heap.size, 0, none⟩) 1 1, .int .u8 0, .string ByteArray.empty, .slice none 0 0, .int .u8 0, .int .u16 0], .int .u8 0] (by unfold bareO; go_simp) (rightK0 w.heap.size w1 (Nat.lt_of_succ_lt L1) T1.out) ?_)
  rintro e w2 ⟨rfl, b2⟩
  have H2 := Lib.hid (H1.out.trans (b2.mono H1.out.size))
  have T2 := Lib.hid (T1.out.below b2 (Nat.lt_of_succ_lt L1))
  have R2 := Lib.hid ((b2.block _ L1).trans R1.out)
  have L2 : w.heap.size + 1 < w2.heap.size := Nat.lt_of_lt_of_le L1 b2.size
  clear b2
  have HS := R2.out
  refine ⟨_, rfl, HS, ?_⟩
  try simp only [Act.put, List.setIfInBounds_toArray, List.set_cons_zero, List.set_cons_succ]
  refine FirstH.go (i := 6) (v := .bool true) rfl rfl 13 rfl (Op.pick (.tmp 10) (.tmp 12) (.const (.bool false))) rfl (by kernel_rfl) (fun _ _ _ h => h) inv (fun W _ => by unfold bareO; go_simp) HS (fun inv => ?_)
  try simp only [Act.put, List.setIfInBounds_toArray, List.set_cons_zero, List.set_cons_succ]
  refine FirstH.go (i := 7) (v := .bool true) rfl rfl 14 rfl (Op.move (.tmp 13)) rfl (by kernel_rfl) (fun _ _ _ h => h) inv (fun W _ => by unfold bareO; go_simp) HS (fun inv => ?_)
  try simp only [Act.put, List.setIfInBounds_toArray, List.set_cons_zero, List.set_cons_succ]
  refine FirstH.goG (i := 8) (v := .agg #[.int .u8 0, .int .u8 1, .int .u16 1, .int .u32 5, .int .u8 0, .int .u8 0, .int .u8 0, .int .u8 0, .int .u8 0, .int .u8 0, .int .u8 0, .int .u32 0, .slice (some ⟨w.heap.size, 0, none⟩) 1 1, .int .u8 0, .string ByteArray.empty, .slice none 0 0, .int .u8 0, .int .u16 0]) rfl (by kernel_rfl) 15 rfl (Op.load 49 (.tmp 1)) rfl (by kernel_rfl) (fun _ _ _ h => h) inv (fun W hS => run_load_row 49 _ (.tmp 1) (w.heap.size + 1) (by rfl) 49 #[.int .u8 0, .int .u8 1, .int .u16 1, .int .u32 5, .int .u8 0, .int .u8 0, .int .u8 0, .int .u8 0, .int .u8 0, .int .u8 0, .int .u8 0, .int .u32 0, .slice (some ⟨w.heap.size, 0, none⟩) 1 1, .int .u8 0, .string ByteArray.empty, .slice none 0 0, .int .u8 0, .int .u16 0] (0, 0) _ hS Tryd.underlying49 rfl (by kernel_rfl)) HS (fun inv => ?_)
  try simp only [Act.put, List.setIfInBounds_toArray, List.set_cons_zero, List.set_cons_succ]
  clear HS
  refine FirstH.only (i := 9) (by kernel_rfl) (by decide) inv (fun inv => wpOp_callG (i := 9) rfl (by kernel_rfl) 16 rfl (Op.call { callee := .value (.func 8), args := #[.tmp 15, .const (.int .u8 1)], argTypes := #[49, 5] }) rfl 8 #[.agg #[.int .u8 0, .int .u8 1, .int .u16 1, .int .u32 5, .int .u8 0, .int .u8 0, .int .u8 0, .int .u8 0, .int .u8 0, .int .u8 0, .int .u8 0, .int .u32 0, .slice (some ⟨w.heap.size, 0, none⟩) 1 1, .int .u8 0, .string ByteArray.empty, .slice none 0 0, .int .u8 0, .int .u16 0], .int .u8 1] (by unfold bareO; go_simp) (rightK1 w.heap.size w2 (Nat.lt_of_succ_lt L2) T2.out) ?_)
  rintro e w3 ⟨rfl, b3⟩
  have H3 := Lib.hid (H2.out.trans (b3.mono H2.out.size))
  have T3 := Lib.hid (T2.out.below b3 (Nat.lt_of_succ_lt L2))
  have R3 := Lib.hid ((b3.block _ L2).trans R2.out)
  have L3 : w.heap.size + 1 < w3.heap.size := Nat.lt_of_lt_of_le L2 b3.size
  clear b3
  have HS := R3.out
  refine ⟨_, rfl, HS, ?_⟩
  try simp only [Act.put, List.setIfInBounds_toArray, List.set_cons_zero, List.set_cons_succ]
  refine FirstH.goG (i := 10) (v := .bool true) rfl (by kernel_rfl) 17 rfl (Op.unOp .not 4 (.tmp 16)) rfl (by kernel_rfl) (fun _ _ _ h => h) inv (fun W _ => by unfold bareO; go_simp) HS (fun inv => ?_)
  try simp only [Act.put, List.setIfInBounds_toArray, List.set_cons_zero, List.set_cons_succ]
  refine FirstH.go (i := 11) (v := .bool true) rfl rfl 18 rfl (Op.pick (.tmp 14) (.tmp 17) (.const (.bool false))) rfl (by kernel_rfl) (fun _ _ _ h => h) inv (fun W _ => by unfold bareO; go_simp) HS (fun inv => ?_)
  try simp only [Act.put, List.setIfInBounds_toArray, List.set_cons_zero, List.set_cons_succ]
  refine FirstH.go (i := 12) (v := .bool true) rfl rfl 19 rfl (Op.move (.tmp 18)) rfl (by kernel_rfl) (fun _ _ _ h => h) inv (fun W _ => by unfold bareO; go_simp) HS (fun inv => ?_)
  try simp only [Act.put, List.setIfInBounds_toArray, List.set_cons_zero, List.set_cons_succ]
  refine FirstH.goG (i := 13) (v := .agg #[.int .u8 0, .int .u8 1, .int .u16 1, .int .u32 5, .int .u8 0, .int .u8 0, .int .u8 0, .int .u8 0, .int .u8 0, .int .u8 0, .int .u8 0, .int .u32 0, .slice (some ⟨w.heap.size, 0, none⟩) 1 1, .int .u8 0, .string ByteArray.empty, .slice none 0 0, .int .u8 0, .int .u16 0]) rfl (by kernel_rfl) 20 rfl (Op.load 49 (.tmp 1)) rfl (by kernel_rfl) (fun _ _ _ h => h) inv (fun W hS => run_load_row 49 _ (.tmp 1) (w.heap.size + 1) (by rfl) 49 #[.int .u8 0, .int .u8 1, .int .u16 1, .int .u32 5, .int .u8 0, .int .u8 0, .int .u8 0, .int .u8 0, .int .u8 0, .int .u8 0, .int .u8 0, .int .u32 0, .slice (some ⟨w.heap.size, 0, none⟩) 1 1, .int .u8 0, .string ByteArray.empty, .slice none 0 0, .int .u8 0, .int .u16 0] (0, 0) _ hS Tryd.underlying49 rfl (by kernel_rfl)) HS (fun inv => ?_)
  try simp only [Act.put, List.setIfInBounds_toArray, List.set_cons_zero, List.set_cons_succ]
  refine FirstH.goG (i := 14) (v := .agg #[.int .u8 0, .int .u8 1, .int .u16 1, .int .u32 5, .int .u8 0, .int .u8 0, .int .u8 0, .int .u8 0, .int .u8 0, .int .u8 0, .int .u8 0, .int .u32 0, .slice (some ⟨w.heap.size, 0, none⟩) 1 1, .int .u8 0, .string ByteArray.empty, .slice none 0 0, .int .u8 0, .int .u16 0]) rfl (by kernel_rfl) 21 rfl (Op.load 49 (.tmp 1)) rfl (by kernel_rfl) (fun _ _ _ h => h) inv (fun W hS => run_load_row 49 _ (.tmp 1) (w.heap.size + 1) (by rfl) 49 #[.int .u8 0, .int .u8 1, .int .u16 1, .int .u32 5, .int .u8 0, .int .u8 0, .int .u8 0, .int .u8 0, .int .u8 0, .int .u8 0, .int .u8 0, .int .u32 0, .slice (some ⟨w.heap.size, 0, none⟩) 1 1, .int .u8 0, .string ByteArray.empty, .slice none 0 0, .int .u8 0, .int .u16 0] (0, 0) _ hS Tryd.underlying49 rfl (by kernel_rfl)) HS (fun inv => ?_)
  try simp only [Act.put, List.setIfInBounds_toArray, List.set_cons_zero, List.set_cons_succ]
  clear HS
  refine FirstH.only (i := 15) (by kernel_rfl) (by decide) inv (fun inv => wpOp_callG (i := 15) rfl (by kernel_rfl) 22 rfl (Op.call { callee := .value (.func 10), args := #[.tmp 21], argTypes := #[49] }) rfl 10 #[.agg #[.int .u8 0, .int .u8 1, .int .u16 1, .int .u32 5, .int .u8 0, .int .u8 0, .int .u8 0, .int .u8 0, .int .u8 0, .int .u8 0, .int .u8 0, .int .u32 0, .slice (some ⟨w.heap.size, 0, none⟩) 1 1, .int .u8 0, .string ByteArray.empty, .slice none 0 0, .int .u8 0, .int .u16 0]] (by unfold bareO; go_simp) (cloneE kE (some ⟨w.heap.size, 0, none⟩) none [kQ] [] 1 0 w3 (rows_k (Nat.lt_of_succ_lt L3) T3.out) rowsW_nil (by decide) (by decide) (Nat.le_refl _) (by unfold maxLen; omega) (Nat.le_refl _) (by unfold maxLen; omega)) ?_)
  rintro e w4 ⟨A2, c2, B2, d2, rfl, OP, OQ, b4⟩
  have H4 := Lib.hid (H3.out.trans (b4.mono H3.out.size))
  have T4 := Lib.hid (T3.out.below b4 (Nat.lt_of_succ_lt L3))
  have R4 := Lib.hid ((b4.block _ L3).trans R3.out)
  have L4 : w.heap.size + 1 < w4.heap.size := Nat.lt_of_lt_of_le L3 b4.size
  obtain ⟨A3, c3, e3, RP, lp, mp⟩ := rowsP_of_own OP
  obtain ⟨B3, d3, f3, RQ, lq, mq⟩ := rowsW_of_own OQ
  cases e3
  cases f3
  have RP' := Lib.hid RP
  have BB := Lib.hid (And.intro lp (And.intro mp (And.intro lq mq)))
  clear OP OQ RP RQ lp mp lq mq
  clear b4
  have HS := R4.out
  refine ⟨_, rfl, HS, ?_⟩
  try simp only [Act.put, List.setIfInBounds_toArray, List.set_cons_zero, List.set_cons_succ]
  refine ⟨by kernel_rfl, ?_⟩
  simp only [List.drop_succ_cons, List.drop_zero]
  clear HS
  go_wp2_with (go_at_call 11; refine (sameE kE (some ⟨w.heap.size, 0, none⟩) none A2 B2 [kQ] [] 1 0 c2 d2 w4 (rows_k (Nat.lt_of_succ_lt L4) T4.out) rowsW_nil RP'.out rowsW_nil (Nat.le_refl _) (by unfold maxLen; omega) (Nat.le_refl _) (by unfold maxLen; omega) BB.out.1 BB.out.2.1 BB.out.2.2.1 BB.out.2.2.2).mono ?_
               rintro e w5 ⟨rfl, b5⟩
               have H5 := Lib.hid (H4.out.trans (b5.mono H4.out.size))
               clear b5)
  go_ret
  exact ⟨rfl, H5.out⟩

end Go.Proofs.YtnkimbmnnhnanaaDoor
