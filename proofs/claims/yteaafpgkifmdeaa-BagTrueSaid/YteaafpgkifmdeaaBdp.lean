/-
  The document's bag: Put, Twice: by exact answers. Condition: the bag lies in memory.
-/
import Derived.Test.YteaafpgkifmdeaaBdb
namespace Go.Proofs.Yteaafpgkifmdeaa
set_option linter.unusedSimpArgs false
set_option linter.unusedVariables false
open Go.RowKit Go.Sort

set_option maxRecDepth 100000 in
set_option maxHeartbeats 400000 in
theorem putD_full (base r most : Nat) (v : Value) (M : List Lp) (x : Lp) (W : World) (h : DB base W r most v M) (hf : most ≤ M.length) :
    Calls Try.prog 25 #[.pointer (some ⟨r, 0, none⟩), .agg x.cs] W fun e W' => e = .returned (.int .i64 11) ∧ Below W.heap.size W W' := by
  obtain ⟨A, c, rfl⟩ := h.slice
  obtain ⟨cs, hcs⟩ : ∃ cs, x.cs = cs := ⟨_, rfl⟩
  rw [hcs]
  clear hcs
  obtain ⟨n, hn⟩ : ∃ n, M.length = n := ⟨_, rfl⟩
  obtain ⟨W1, hW1⟩ : ∃ W1, W.alloc (.cells cs 36) = W1 := ⟨_, rfl⟩
  have b1 : Below W.heap.size W W1 := by rw [← hW1]; exact (Below.refl _ _).alloc (Nat.le_refl _) _
  have h1 := (h.below b1).bag
  rw [hn] at h1 hf
  have c0 := cell_of h1 0 (.slice A n c) rfl
  have c1 := cell_of h1 1 (.int .i64 most) rfl
  have HW := Lib.hid hW1
  have B1 := Lib.hid b1
  have hf' : (most : Int) ≤ (n : Int) := by omega
  clear h hW1 b1 h1 hf hn
  go_enter Try.func25, Try.ntmps25
  go_wp2_with (refine wpList_bx rfl 36 (.tmp 1) rfl 3 rfl cs rfl ?_; rw [HW.out])
  go_quiet (fail)
  go_wp2
  go_ret
  exact ⟨rfl, B1.out.trans ⟨rfl, rfl, rfl, Nat.le_refl _, fun _ _ => rfl⟩⟩

set_option maxRecDepth 100000 in
set_option maxHeartbeats 2000000 in
theorem putD_ok (base r most : Nat) (v : Value) (M : List Lp) (x : Lp) (W : World) (h : DB base W r most v M) (hf : M.length < most) (hr : BytesAt W W.heap.size x.A x.p.B) (hl : x.p.B.length ≤ 140737488351232) (hnn : x.A = none → x.p.B.length = 0 ∧ x.c = 0) :
    Calls Try.prog 25 #[.pointer (some ⟨r, 0, none⟩), .agg x.cs] W fun e W' => e = .returned (.int .i64 0) ∧ ∃ y v', y.p = x.p ∧ y.Ok W' W.heap.size ∧ DB base W' r most v' (M ++ [y]) ∧ KP (fun k => k = r ∨ v.ownBlock = some k) W W' := by
  have hmost := h.most
  obtain ⟨A0, c, hv⟩ := h.slice
  obtain ⟨⟨fn, fl, tn, tl, B, bad⟩, A, xc⟩ := x
  simp only at hr hl hnn
  obtain ⟨q, hq⟩ : ∃ q, B.length = q := ⟨_, rfl⟩
  have hcs : (Lp.mk ⟨fn, fl, tn, tl, B, bad⟩ A xc).cs = #[.int .u8 fn, .int .u16 fl, .int .u8 tn, .int .u16 tl, .slice A q xc, .bool bad] := by unfold Lp.cs; simp only [hq]
  rw [hcs]
  rw [hq] at hnn
  obtain ⟨n, hn⟩ : ∃ n, M.length = n := ⟨_, rfl⟩
  obtain ⟨W1, hW1⟩ : ∃ W1, W.alloc (.cells #[.int .u8 fn, .int .u16 fl, .int .u8 tn, .int .u16 tl, .slice A q xc, .bool bad] 36) = W1 := ⟨_, rfl⟩
  have b1 : Below W.heap.size W W1 := by rw [← hW1]; exact (Below.refl _ _).alloc (Nat.le_refl _) _
  have r1 : W1.heap[W.heap.size]? = some (.cells #[.int .u8 fn, .int .u16 fl, .int .u8 tn, .int .u16 tl, .slice A q xc, .bool bad] 36 (0, 0)) := by rw [← hW1]; exact heap_alloc_new _ _
  have h1 := (h.below b1).bag
  rw [hv, hn] at h1
  have c0 := cell_of h1 0 (.slice A0 n c) rfl
  have c1 := cell_of h1 1 (.int .i64 most) rfl
  have HW := Lib.hid hW1
  have B1 := Lib.hid b1
  have R1 := Lib.hid r1
  have HP := Lib.hid h
  have HR := Lib.hid hr
  have HN := Lib.hid hn
  have HV := Lib.hid hv
  have HQ := Lib.hid hq
  have HNN := Lib.hid hnn
  have HL2 := Lib.hid hl
  have HL : Hid (0 + B.length ≤ 140737488355328) := Lib.hid (by omega)
  have hf' : ¬ (most : Int) ≤ (n : Int) := by omega
  have hn2 : Hid (n ≤ 2000) := Lib.hid (by omega)
  clear h hW1 b1 h1 hf hn r1 hr hl hcs hv hq hnn
  go_enter Try.func25, Try.ntmps25
  go_wp2_with (refine wpList_bx rfl 36 (.tmp 1) rfl 3 rfl #[.int .u8 fn, .int .u16 fl, .int .u8 tn, .int .u16 tl, .slice A q xc, .bool bad] rfl ?_; rw [HW.out])
  go_quiet (fail)
  go_wp2
  obtain ⟨W2, hW2⟩ : ∃ X, W1.drewN nq = X := ⟨_, rfl⟩
  have b2 : Below W1.heap.size W1 W2 := by rw [← hW2]; exact ⟨rfl, rfl, rfl, Nat.le_refl _, fun _ _ => rfl⟩
  rw [hW2]
  clear hW2 c0 c1
  refine region_heldT (S := fun X => X.heap[r]? = some (.cells #[.slice A0 n c, .int .i64 most] 42 (0, 0)) ∧ X.heap[W.heap.size]? = some (.cells #[.int .u8 fn, .int .u16 fl, .int .u8 tn, .int .u16 tl, .slice A q xc, .bool bad] 36 (0, 0))) 18 (by kernel_rfl) (by decide) (fun inv => ?_)
  change FirstH _ _ _ _ _ _ _ _ _ _ W2.drew
  obtain ⟨W3, hW3⟩ : ∃ X, W2.drew = X := ⟨_, rfl⟩
  have b3 : Below W1.heap.size W1 W3 := by rw [← hW3]; exact b2.drew
  rw [hW3]
  clear hW3 b2
  have B3 := Lib.hid (B1.out.trans (b3.mono B1.out.size))
  have r3 : W3.heap[W.heap.size]? = some (.cells #[.int .u8 fn, .int .u16 fl, .int .u8 tn, .int .u16 tl, .slice A q xc, .bool bad] 36 (0, 0)) := (b3.block _ (Array.getElem?_eq_some_iff.1 R1.out).1).trans R1.out
  have P3 := Lib.hid (HP.out.below B3.out)
  have l3 : W3.heap[r]? = some (.cells #[.slice A0 n c, .int .i64 most] 42 (0, 0)) := by have := P3.out.bag; rw [HV.out, HN.out] at this; exact this
  have HS : W3.heap[r]? = some (.cells #[.slice A0 n c, .int .i64 most] 42 (0, 0)) ∧ W3.heap[W.heap.size]? = some (.cells #[.int .u8 fn, .int .u16 fl, .int .u8 tn, .int .u16 tl, .slice A q xc, .bool bad] 36 (0, 0)) := ⟨l3, r3⟩
  have hlt : Hid (W.heap.size < W3.heap.size) := Lib.hid (Array.getElem?_eq_some_iff.1 r3).1
  have R3 := Lib.hid r3
  have L3 := Lib.hid l3
  clear b3 r3 l3 B1 R1
  refine FirstH.go (i := 0) (v := .pointer (some ⟨r, 0, none⟩)) rfl rfl _ rfl _ rfl (by kernel_rfl) (fun _ _ _ h => h) inv (fun X _ => by unfold bareO; go_simp) HS (fun inv => ?_)
  try simp only [Act.put, List.setIfInBounds_toArray, List.set_cons_zero, List.set_cons_succ]
  refine FirstH.go (i := 1) (v := .pointer (some ⟨r, 0, none⟩)) rfl rfl _ rfl _ rfl (by kernel_rfl) (fun _ _ _ h => h) inv (fun X _ => by unfold bareO; go_simp) HS (fun inv => ?_)
  try simp only [Act.put, List.setIfInBounds_toArray, List.set_cons_zero, List.set_cons_succ]
  refine FirstH.go (i := 2) (v := .pointer (some ⟨r, 0, none⟩)) rfl rfl _ rfl _ rfl (by kernel_rfl) (fun _ _ _ h => h) inv (fun X _ => by unfold bareO; go_simp) HS (fun inv => ?_)
  try simp only [Act.put, List.setIfInBounds_toArray, List.set_cons_zero, List.set_cons_succ]
  refine FirstH.go (i := 3) (v := .pointer (some ⟨r, 0, none⟩)) rfl rfl _ rfl _ rfl (by kernel_rfl) (fun _ _ _ h => h) inv (fun X _ => by unfold bareO; go_simp) HS (fun inv => ?_)
  try simp only [Act.put, List.setIfInBounds_toArray, List.set_cons_zero, List.set_cons_succ]
  refine FirstH.go (i := 4) (v := .slice A0 n c) rfl rfl _ rfl _ rfl (by kernel_rfl) (fun _ _ _ h => h) inv (fun X hS => by have c1 := cell_of hS.1 0 (.slice A0 n c) rfl; unfold bareO; go_simp) HS (fun inv => ?_)
  try simp only [Act.put, List.setIfInBounds_toArray, List.set_cons_zero, List.set_cons_succ]
  refine FirstH.go (i := 5) (v := .pointer (some ⟨W.heap.size, 0, none⟩)) rfl rfl _ rfl _ rfl (by kernel_rfl) (fun _ _ _ h => h) inv (fun X _ => by unfold bareO; go_simp) HS (fun inv => ?_)
  try simp only [Act.put, List.setIfInBounds_toArray, List.set_cons_zero, List.set_cons_succ]
  refine FirstH.go (i := 6) (v := .agg #[.int .u8 fn, .int .u16 fl]) rfl rfl _ rfl _ rfl (by kernel_rfl) (fun _ _ _ h => h) inv (fun X hS => by have z1 := cell_of hS.2 0 (.int .u8 fn) rfl; have z2 := cell_of hS.2 1 (.int .u16 fl) rfl; unfold bareO; go_simp) HS (fun inv => ?_)
  try simp only [Act.put, List.setIfInBounds_toArray, List.set_cons_zero, List.set_cons_succ]
  refine FirstH.go (i := 7) (v := .pointer (some ⟨W.heap.size, 2, none⟩)) rfl rfl _ rfl _ rfl (by kernel_rfl) (fun _ _ _ h => h) inv (fun X _ => by unfold bareO; go_simp) HS (fun inv => ?_)
  try simp only [Act.put, List.setIfInBounds_toArray, List.set_cons_zero, List.set_cons_succ]
  refine FirstH.go (i := 8) (v := .agg #[.int .u8 tn, .int .u16 tl]) rfl rfl _ rfl _ rfl (by kernel_rfl) (fun _ _ _ h => h) inv (fun X hS => by have z1 := cell_of hS.2 2 (.int .u8 tn) rfl; have z2 := cell_of hS.2 3 (.int .u16 tl) rfl; unfold bareO; go_simp) HS (fun inv => ?_)
  try simp only [Act.put, List.setIfInBounds_toArray, List.set_cons_zero, List.set_cons_succ]
  refine FirstH.go (i := 10) (v := .pointer (some ⟨W.heap.size, 4, none⟩)) rfl rfl _ rfl _ rfl (by kernel_rfl) (fun _ _ _ h => h) inv (fun X _ => by unfold bareO; go_simp) HS (fun inv => ?_)
  try simp only [Act.put, List.setIfInBounds_toArray, List.set_cons_zero, List.set_cons_succ]
  refine FirstH.go (i := 11) (v := .slice A q xc) rfl rfl _ rfl _ rfl (by kernel_rfl) (fun _ _ _ h => h) inv (fun X hS => by have z1 := cell_of hS.2 4 (.slice A q xc) rfl; unfold bareO; go_simp) HS (fun inv => ?_)
  try simp only [Act.put, List.setIfInBounds_toArray, List.set_cons_zero, List.set_cons_succ]
  refine FirstH.go (i := 13) (v := .pointer (some ⟨W.heap.size, 5, none⟩)) rfl rfl _ rfl _ rfl (by kernel_rfl) (fun _ _ _ h => h) inv (fun X _ => by unfold bareO; go_simp) HS (fun inv => ?_)
  try simp only [Act.put, List.setIfInBounds_toArray, List.set_cons_zero, List.set_cons_succ]
  refine FirstH.go (i := 14) (v := .bool bad) rfl rfl _ rfl _ rfl (by kernel_rfl) (fun _ _ _ h => h) inv (fun X hS => by have z1 := cell_of hS.2 5 (.bool bad) rfl; unfold bareO; go_simp) HS (fun inv => ?_)
  try simp only [Act.put, List.setIfInBounds_toArray, List.set_cons_zero, List.set_cons_succ]
  clear HS
  refine FirstH.only (i := 9) (by kernel_rfl) (by decide) inv (fun inv => wpOp_vl (i := 9) (v := .slice (some ⟨W3.heap.size, 0, none⟩) 0 0) (w' := W3.alloc (.cells #[] 5)) rfl rfl 24 rfl _ rfl (by unfold bareO; go_simp) ?_)
  obtain ⟨W4, hW4⟩ : ∃ x, W3.alloc (.cells #[] 5) = x := ⟨_, rfl⟩
  have O4 : Hid (W4.ownsRow W3.heap.size 5 1 (.slice (some ⟨W3.heap.size, 0, none⟩) 0 0) 0 []) := Lib.hid (by rw [← hW4]; exact ⟨rfl, .inr ⟨W3.heap.size, 0, #[], rfl, Nat.le_refl _, heap_alloc_new _ _, Nat.le_refl _, by unfold maxLen; omega, rfl, rfl⟩⟩)
  have b4 : Below W3.heap.size W3 W4 := by rw [← hW4]; exact (Below.refl _ _).alloc (Nat.le_refl _) _
  have B4 := Lib.hid (B3.out.trans (b4.mono B3.out.size))
  have P4 := Lib.hid (P3.out.below b4)
  have S4 := Lib.hid b4.size
  rw [hW4]
  have HS : W4.heap[r]? = some (.cells #[.slice A0 n c, .int .i64 most] 42 (0, 0)) ∧ W4.heap[W.heap.size]? = some (.cells #[.int .u8 fn, .int .u16 fl, .int .u8 tn, .int .u16 tl, .slice A q xc, .bool bad] 36 (0, 0)) := ⟨(b4.block _ (Array.getElem?_eq_some_iff.1 L3.out).1).trans L3.out, (b4.block _ hlt.out).trans R3.out⟩
  refine ⟨HS, ?_⟩
  have HS4 := Lib.hid HS
  have HS34 := Lib.hid b4
  clear HS hW4 b4
  try simp only [Act.put, List.setIfInBounds_toArray, List.set_cons_zero, List.set_cons_succ]
  refine FirstH.only (i := 12) (by kernel_rfl) (by decide) inv (fun inv => wpOp_appB (i := 12) rfl rfl 27 rfl (.tmp 24) (.tmp 26) rfl W3.heap.size _ 0 [] rfl O4.out A B q xc W.heap.size rfl HQ.out.symm HNN.out (HR.out.below B4.out (Nat.le_refl _) (Nat.le_refl _)) HL.out (Nat.le_of_lt (O4.out.lt _ rfl).2) ?_)
  intro v5 W5 O5 g5
  have hg5 : W4.grownBy W5 (some W3.heap.size) := g5
  have b5 : Below W3.heap.size W4 W5 := (Below.refl _ _).grown hg5 S4.out (fun k hk => by cases hk; exact Nat.le_refl _)
  have k5 : ∀ (k : Nat) (o : Obj), k < W3.heap.size → W4.heap[k]? = some o → W5.heap[k]? = some o := fun k o hk ho => (b5.block k hk).trans ho
  rw [Nat.zero_add, List.nil_append] at O5
  have NL5 := nil_of_own O5
  obtain ⟨A5, c5, rfl, hn5, own5, le5, mx5⟩ := bytes_of_own O5
  have B5 := Lib.hid (B4.out.trans (b5.mono B3.out.size))
  have P5 := Lib.hid (P3.out.below (W' := W5) (HS34.out.trans b5))
  obtain ⟨y, hy⟩ : ∃ y, (Lp.mk ⟨fn, fl, tn, tl, B, bad⟩ A5 c5) = y := ⟨_, rfl⟩
  have hyp : y.p = ⟨fn, fl, tn, tl, B, bad⟩ := by rw [← hy]
  have yok : y.Ok W5 W3.heap.size := by rw [← hy]; exact ⟨own5, le5, mx5, (fun hA => by have hA' : A5 = none := hA; subst hA'; exact ⟨NL5.1 rfl, NL5.2 _ _ rfl⟩), HL2.out⟩
  have ycs : y.cs = #[.int .u8 fn, .int .u16 fl, .int .u8 tn, .int .u16 tl, .slice A5 q c5, .bool bad] := by rw [← hy]; unfold Lp.cs; simp only [HQ.out]
  have l5 : W5.heap[r]? = some (.cells #[.slice A0 n c, .int .i64 most] 42 (0, 0)) := by have := P5.out.bag; rw [HV.out, HN.out] at this; exact this
  have HS : W5.heap[r]? = some (.cells #[.slice A0 n c, .int .i64 most] 42 (0, 0)) ∧ W5.heap[W.heap.size]? = some (.cells #[.int .u8 fn, .int .u16 fl, .int .u8 tn, .int .u16 tl, .slice A q xc, .bool bad] 36 (0, 0)) := ⟨l5, k5 _ _ hlt.out HS4.out.2⟩
  refine ⟨HS, ?_⟩
  have YOK := Lib.hid yok
  have YP := Lib.hid hyp
  have YCS := Lib.hid ycs
  have S5 := Lib.hid b5.size
  have HS5 := Lib.hid HS
  have HN5 := Lib.hid hn5
  clear hy hyp yok ycs own5 le5 mx5 hn5 b5 g5 hg5 O5 NL5
  try simp only [Act.put, List.setIfInBounds_toArray, List.set_cons_zero, List.set_cons_succ]
  rw [HQ.out]
  refine FirstH.go (i := 15) (v := .agg #[.int .u8 fn, .int .u16 fl, .int .u8 tn, .int .u16 tl, .slice A5 q c5, .bool bad]) rfl rfl _ rfl _ rfl (by kernel_rfl) (fun _ _ _ h => h) inv (fun X _ => by unfold bareO; first | (go_simp; done) | kernel_rfl) HS (fun inv => ?_)
  try simp only [Act.put, List.setIfInBounds_toArray, List.set_cons_zero, List.set_cons_succ]
  clear HS
  refine FirstH.only (i := 16) (by kernel_rfl) (by decide) inv (fun inv => wpOp_vl (i := 16) (v := .slice (some ⟨W5.heap.size, 0, none⟩) 1 1) (w' := W5.alloc (.cells #[.int .u8 fn, .int .u16 fl, .int .u8 tn, .int .u16 tl, .slice A5 q c5, .bool bad] 36)) rfl rfl 31 rfl _ rfl (by unfold bareO; go_simp) ?_)
  obtain ⟨W6, hW6⟩ : ∃ x, W5.alloc (.cells #[.int .u8 fn, .int .u16 fl, .int .u8 tn, .int .u16 tl, .slice A5 q c5, .bool bad] 36) = x := ⟨_, rfl⟩
  have b6 : Below W5.heap.size W5 W6 := by rw [← hW6]; exact (Below.refl _ _).alloc (Nat.le_refl _) _
  have r6 : W6.heap[W5.heap.size]? = some (.cells #[.int .u8 fn, .int .u16 fl, .int .u8 tn, .int .u16 tl, .slice A5 q c5, .bool bad] 36 (0, 0)) := by rw [← hW6]; exact heap_alloc_new _ _
  rw [hW6]
  have lt5 : W.heap.size < W5.heap.size := (Array.getElem?_eq_some_iff.1 HS5.out.2).1
  have HS : W6.heap[r]? = some (.cells #[.slice A0 n c, .int .i64 most] 42 (0, 0)) ∧ W6.heap[W.heap.size]? = some (.cells #[.int .u8 fn, .int .u16 fl, .int .u8 tn, .int .u16 tl, .slice A q xc, .bool bad] 36 (0, 0)) := ⟨(b6.block _ (Array.getElem?_eq_some_iff.1 HS5.out.1).1).trans HS5.out.1, (b6.block _ lt5).trans HS5.out.2⟩
  refine ⟨HS, ?_⟩
  have B6 := Lib.hid (B5.out.trans (b6.mono B5.out.size))
  have P6 := Lib.hid (P5.out.below b6)
  have YOK6 := Lib.hid (YOK.out.keep (W' := W6) fun k cur _ _ _ hc => (b6.block k (Array.getElem?_eq_some_iff.1 hc).1).trans hc)
  have HS6 := Lib.hid HS
  have hcell : ∀ j u, (cellsL [y])[j]? = some u → W6.cell? ((⟨W5.heap.size, 0, none⟩ : Addr).add j) = some u := fun j u hu => by
    rw [addr_add, Nat.zero_add, cell_of_row _ _ j _ _ _ r6, ← YCS.out]
    simpa [cellsL] using hu
  have O6 := P6.out.row
  rw [HV.out, HN.out] at O6
  have HO6 := Lib.hid O6
  have HCELL := Lib.hid hcell
  have LT5 := Lib.hid lt5
  clear HS hW6 b6 r6 lt5 hcell O6
  try simp only [Act.put, List.setIfInBounds_toArray, List.set_cons_zero, List.set_cons_succ]
  refine FirstH.only (i := 17) (by kernel_rfl) (by decide) inv (fun inv => wpOp_appD (i := 17) rfl rfl 32 rfl (.tmp 19) (.tmp 31) rfl base _ n _ rfl HO6.out ⟨W5.heap.size, 0, none⟩ [y] 1 1 rfl rfl HCELL.out (by have := hn2.out; show n + 1 ≤ _; omega) (by have := P6.out.hr; have h2 := (Array.getElem?_eq_some_iff.1 P6.out.bag).1; omega) ?_)
  intro v7 W7 O7 g7
  have O7' : W7.ownsRow base 36 6 v7 (n + 1) (cellsL M ++ cellsL [y]) := O7
  obtain ⟨a7, c7, rfl⟩ := ownsRow_succ O7'
  have ne : ∀ (k : Nat) (c' : Array Value) (t : TypeId), W6.heap[k]? = some (.cells c' t (0, 0)) → t ≠ 36 → W7.heap[k]? = some (.cells c' t (0, 0)) := fun k c' t hk ht => (g7.block k (Array.getElem?_eq_some_iff.1 hk).1 (fun e => by
    obtain ⟨cur, hc⟩ := row_block HO6.out e.symm
    exact apart_of hk hc ht rfl)).trans hk
  have l7 : W7.heap[r]? = some (.cells #[.slice A0 n c, .int .i64 most] 42 (0, 0)) := ne _ _ _ HS6.out.1 (by decide)
  have q7 : W7.heap[W.heap.size]? = some (.cells #[.int .u8 fn, .int .u16 fl, .int .u8 tn, .int .u16 tl, .slice A q xc, .bool bad] 36 (0, 0)) := (g7.block _ (Array.getElem?_eq_some_iff.1 HS6.out.2).1 (fun e => by
    have h1 := HP.out.row.lt W.heap.size (by rw [HV.out, HN.out]; exact e.symm)
    omega)).trans HS6.out.2
  refine ⟨⟨l7, q7⟩, ?_⟩
  have c1 := cell_of l7 0 (.slice A0 n c) rfl
  have z1 := frz_row 0 l7
  have G7 := Lib.hid g7
  have O7h := Lib.hid O7'
  have L7 := Lib.hid l7
  have NE := Lib.hid ne
  clear ne g7 O7 O7' l7 q7
  try simp only [Act.put, List.setIfInBounds_toArray, List.set_cons_zero, List.set_cons_succ]
  refine ⟨by kernel_rfl, ?_⟩
  simp only [List.drop_succ_cons, List.drop_zero]
  go_wp2
  go_ret
  clear inv
  have ok8 : ∀ (z : Lp) (bs : Nat), z.Ok W6 bs → z.Ok (W7.setCell ⟨r, 0, none⟩ (.slice (some ⟨a7, 0, none⟩) (n + 1) c7)) bs := fun z bs hz => hz.keep fun k cur _ _ _ hk => other_set (NE.out _ _ _ hk (by decide)) (apart_of (NE.out _ _ _ hk (by decide)) L7.out (by decide)) _
  have yo := (ok8 y _ YOK6.out).lower (base' := W.heap.size) B3.out.size
  have rw0 := (Array.getElem?_eq_some_iff.1 HP.out.bag).1
  refine ⟨rfl, y, YP.out, yo, ⟨.slice (some ⟨a7, 0, none⟩) (n + 1) c7, ⟨P6.out.hr, (row_set L7.out _).trans rfl, ?_, fun z hz => ?_, ?_, P6.out.most⟩⟩, ?_⟩
  · have e1 : (M ++ [y]).length = n + 1 := by rw [List.length_append, HN.out]; rfl
    rw [e1, cellsL_append]
    refine O7h.out.kept (row := some r) ⟨rfl, rfl, rfl, by simp [World.setCell], fun k _ hk => Below.heap_setCell _ _ _ _ (by simpa using hk)⟩ (.inr fun e => ?_)
    obtain ⟨cur, hc⟩ := row_block O7h.out e
    exact apart_of hc L7.out (by decide) rfl
  · rcases List.mem_append.1 hz with h | h
    · exact ok8 z _ (P6.out.ok z h)
    · obtain rfl : z = y := by simpa using h
      exact yo.lower (by have := P6.out.hr; omega)
  · rw [List.length_append, HN.out]
    have := hf'
    simp
    omega
  · refine ((KP.of_below B6.out).trans (KP.grown G7.out fun k hk => ?_) fun _ _ h => h).trans (KP.set _ _ _ _ (.inl rfl)) fun _ _ h => h
    right
    rw [HV.out, HN.out]
    exact hk

end Go.Proofs.Yteaafpgkifmdeaa
