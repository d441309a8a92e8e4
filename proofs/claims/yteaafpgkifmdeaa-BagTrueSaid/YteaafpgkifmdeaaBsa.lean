/-
  Same of two parcels of the document that are the same: true. Condition: the bytes lie in memory.
-/
import Derived.Test.YteaafpgkifmdeaaBkn
import Derived.Test.YteaafpgkifmdeaaBar
import Derived.DeepKeys4
namespace Go.Proofs.Yteaafpgkifmdeaa
set_option linter.unusedSimpArgs false
set_option linter.unusedVariables false
open Go.RowKit Go.Sort

set_option maxHeartbeats 400000 in
theorem eqRefPr (n l n' l' : Nat) (w : World) : Sem.run Try.prog (binOp .eql 33 (.agg #[.int .u8 n, .int .u16 l]) (.agg #[.int .u8 n', .int .u16 l'])) w = .ok (.bool ((n : Int) == n' && (l : Int) == l')) w := by
  have hS : Try.prog.underlying 33 = some (.struct (Try.prog.fieldsOf 33)) := by kernel_rfl
  have hp : Try.prog.stoodInHeld 33 = false := by kernel_rfl
  have u0 := Try.underlying5
  have a0 := Try.isAgg5
  have z0 := Try.sizeOf5
  have u1 := Try.underlying31
  have a1 := Try.isAgg31
  have z1 := Try.sizeOf31
  rw [run_eql_struct, show (10000 : Nat) = 9999 + 1 from rfl, run_equalIn_agg w 9999 33 _ _ hS hp]
  simp only [Program.fieldsOf, Try.underlying33]
  by_cases h : (n : Int) = n'
  · by_cases h' : (l : Int) = l'
    · go_simp
    · go_simp
  · go_simp

set_option maxRecDepth 100000 in
set_option maxHeartbeats 1000000 in
theorem sameP (x y : Lp) (W : World) (he : x.p = y.p) (hx : BytesAt W W.heap.size x.A x.p.B) (hy : BytesAt W W.heap.size y.A y.p.B) :
    Calls Try.prog 15 #[.agg x.cs, .agg y.cs] W fun e W' => e = .returned (.bool true) ∧ Below W.heap.size W W' := by
  obtain ⟨⟨fn, fl, tn, tl, B, bad⟩, A, c⟩ := x
  obtain ⟨py, A', c'⟩ := y
  simp only at he hx hy
  subst he
  simp only at hy
  unfold Lp.cs
  simp only
  obtain ⟨n, hn⟩ : ∃ n, B.length = n := ⟨_, rfl⟩
  rw [hn]
  obtain ⟨W1, hW1⟩ : ∃ X, W.alloc (.cells #[.int .u8 fn, .int .u16 fl, .int .u8 tn, .int .u16 tl, .slice A n c, .bool bad] 36) = X := ⟨_, rfl⟩
  obtain ⟨W2, hW2⟩ : ∃ X, W1.alloc (.cells #[.int .u8 fn, .int .u16 fl, .int .u8 tn, .int .u16 tl, .slice A' n c', .bool bad] 36) = X := ⟨_, rfl⟩
  have s1 : W1.heap.size = W.heap.size + 1 := by rw [← hW1]; simp
  have b2 : Below W.heap.size W W2 := by rw [← hW2, ← hW1]; exact two_up _ _ _ _ _
  have r1 : W2.heap[W.heap.size]? = some (.cells #[.int .u8 fn, .int .u16 fl, .int .u8 tn, .int .u16 tl, .slice A n c, .bool bad] 36 (0, 0)) := by rw [← hW2, Below.heap_alloc _ _ _ (by omega), ← hW1]; exact heap_alloc_new _ _
  have r2 : W2.heap[W.heap.size + 1]? = some (.cells #[.int .u8 fn, .int .u16 fl, .int .u8 tn, .int .u16 tl, .slice A' n c', .bool bad] 36 (0, 0)) := by rw [← hW2, ← s1]; exact heap_alloc_new _ _
  have hcA := conv_bytes (hx.below b2 (Nat.le_refl _) b2.size) c
  have hcB := conv_bytes (hy.below b2 (Nat.le_refl _) b2.size) c'
  rw [hn] at hcA hcB
  have hE1 := eqRefPr fn fl fn fl W2
  have hE2 := eqRefPr tn tl tn tl W2
  simp only [BEq.rfl, Bool.and_self] at hE1 hE2
  have x0 := cell_of r1 0 (.int .u8 fn) rfl
  have y0 := cell_of r2 0 (.int .u8 fn) rfl
  have x1 := cell_of r1 1 (.int .u16 fl) rfl
  have y1 := cell_of r2 1 (.int .u16 fl) rfl
  have x2 := cell_of r1 2 (.int .u8 tn) rfl
  have y2 := cell_of r2 2 (.int .u8 tn) rfl
  have x3 := cell_of r1 3 (.int .u16 tl) rfl
  have y3 := cell_of r2 3 (.int .u16 tl) rfl
  have x4 := cell_of r1 4 (.slice A n c) rfl
  have y4 := cell_of r2 4 (.slice A' n c') rfl
  have x5 := cell_of r1 5 (.bool bad) rfl
  have y5 := cell_of r2 5 (.bool bad) rfl
  have B2 := Lib.hid b2
  have HW1 := Lib.hid hW1
  have HW2 := Lib.hid hW2
  have S1 := Lib.hid s1
  clear hx hy hn b2 hW1 hW2 r1 r2 s1
  go_enter Try.func15, Try.ntmps15
  go_wp2_with (first
    | (refine wpList_bx rfl 36 (.tmp 0) rfl 2 rfl #[.int .u8 fn, .int .u16 fl, .int .u8 tn, .int .u16 tl, .slice A n c, .bool bad] rfl ?_; rw [HW1.out])
    | (refine wpList_bx rfl 36 (.tmp 1) rfl 3 rfl #[.int .u8 fn, .int .u16 fl, .int .u8 tn, .int .u16 tl, .slice A' n c', .bool bad] rfl ?_; rw [HW2.out, S1.out]))
  go_ret
  exact ⟨ret_bool (by simp), B2.out⟩

end Go.Proofs.Yteaafpgkifmdeaa
