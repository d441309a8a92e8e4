/-
  The program's proposer: choose, Propose, by exact answers. Condition: it lies in memory, as does the wish.
-/
import Derived.Test.YtfkmodmgihadkaaGp3
import Derived.Deep.MidRow
namespace Go.Proofs.Ytfkmodmgihadkaa
set_option linter.unusedSimpArgs false
set_option linter.unusedVariables false
open Go.RowKit Go.Maps Go.Sort
open V (P2)

set_option maxRecDepth 100000 in
set_option maxHeartbeats 2000000 in
theorem pChoose (base : Nat) (W : World) (b m : Nat) (d : Pd) (h : PP base W b m d) (wv : Value) (X : List P2) (hw : PrO W wv X) (hx : X.length ≤ 1000) :
    Calls Try.prog 34 #[.pointer (some ⟨b, 0, none⟩), wv] W fun e W' => ∃ x : Vl, e = .returned (.agg x.cs) ∧ x.Ok W' ∧ x.d = d.choose X ∧ Below W.heap.size W W' := by
  obtain ⟨⟨mv, lv, Lg, hv, vl⟩, h⟩ := h
  obtain ⟨k, hk⟩ : ∃ k, W.heap.size = k := ⟨_, rfl⟩
  have hkb : b < k := by rw [← hk]; exact heap_lt h.blk
  obtain ⟨w1, hw1⟩ : ∃ z, W.alloc (.cells #[.slice none 0 0, .slice none 0 0] 32) = z := ⟨_, rfl⟩
  have b1 : Below W.heap.size W w1 := by rw [← hw1]; exact (Below.refl _ _).alloc (Nat.le_refl _) _
  have r1 : w1.heap[k]? = some (.cells #[.slice none 0 0, .slice none 0 0] 32 (0, 0)) := by rw [← hw1, ← hk]; exact heap_alloc_new _ _
  have h1 := h.below b1
  have HW1 := Lib.hid hw1
  have HK := Lib.hid hk
  have B1 := Lib.hid b1
  have R1 := Lib.hid r1
  have H1 := Lib.hid h1
  cases ehh : d.hh with
  | true =>
    have HE : Hid (d.choose X = d.hd) := Lib.hid (by simp [Pd.choose, ehh])
    have c10 : w1.cell? ⟨b, 10, none⟩ = some (.bool true) := (cell_of h1.blk 10 (.bool d.hh) rfl).trans (by rw [ehh])
    obtain ⟨A1, c1, e1, -, -, -, -⟩ := h1.hv.m.rows
    obtain ⟨A2, c2, e2, -, -, -, -⟩ := h1.hv.t.rows
    obtain ⟨m5, X5, t5, L5⟩ := hv
    dsimp only at e1 e2
    subst e1 e2
    have c8 := cell_of h1.blk 8 (.slice A1 X5.length c1) rfl
    have c9 := cell_of h1.blk 9 (.slice A2 L5.length c2) rfl
    obtain ⟨n5, hn5⟩ : ∃ z, X5.length = z := ⟨_, rfl⟩
    obtain ⟨n6, hn6⟩ : ∃ z, L5.length = z := ⟨_, rfl⟩
    have OK := Lib.hid h1.hv
    have HD := Lib.hid h1.hvd
    simp only [hn5, hn6] at c8 c9 OK HD
    obtain ⟨w2, hw2⟩ : ∃ z, w1.setRow k #[.slice A1 n5 c1, .slice A2 n6 c2] = z := ⟨_, rfl⟩
    have r2 : w2.heap[k]? = some (.cells #[.slice A1 n5 c1, .slice A2 n6 c2] 32 (0, 0)) := by rw [← hw2]; exact setRow_heapG _ _ _ _ _ _ r1
    have kp : KP (fun j => j = k) w1 w2 := by rw [← hw2]; exact KP.setRow w1 k _ rfl
    have B2 := Lib.hid (b1.trans (kp.below b1.size fun j hj => by omega))
    have OK2 : Hid (Vl.Ok ⟨.slice A1 n5 c1, X5, .slice A2 n6 c2, L5⟩ w2) := Lib.hid (OK.out.keep (Keeps.of_KP kp fun g cur t hg ht => apart_of hg r1 (by
      intro e
      rw [e] at ht
      revert ht
      simp [Ty])))
    have R2 := Lib.hid r2
    have HW2 := Lib.hid hw2
    clear h h1 hw1 b1 r1 hw2 r2 kp hn5 hn6 hw hx hk
    go_enter Try.func34, Try.ntmps34
    go_wp2_with (first
      | (rw [HW1.out, HK.out])
      | (refine wpList_store_row rfl 32 (.tmp 4) (.tmp 14) rfl k #[.slice A1 n5 c1, .slice A2 n6 c2] (by rfl) (by rfl) 32 _ R1.out (by kernel_rfl) rfl (by simp [Value.oneCell']) ?_; rw [HW2.out])
      | fail)
    refine bodyPost_ret (v := .agg #[.slice A1 n5 c1, .slice A2 n6 c2]) (by
      have c0 := cell_of R2.out 0 (.slice A1 n5 c1) rfl
      have c1 := cell_of R2.out 1 (.slice A2 n6 c2) rfl
      simp [results, Try.results34, go_sem]
      try go_simp) rfl ⟨⟨.slice A1 n5 c1, X5, .slice A2 n6 c2, L5⟩, rfl, OK2.out, by rw [HE.out]; exact HD.out, B2.out⟩
  | false =>
    have HE : Hid (d.choose X = (X, d.Lg)) := Lib.hid (by simp [Pd.choose, ehh])
    have c10 : w1.cell? ⟨b, 10, none⟩ = some (.bool false) := (cell_of h1.blk 10 (.bool d.hh) rfl).trans (by rw [ehh])
    obtain ⟨WA, wc, rfl, -, -, -, -⟩ := hw.rows
    have KC : Hid (∀ u, Keeps W u → Calls Try.prog 35 #[.slice WA X.length wc] u fun e w' => ∃ v, e = .returned v ∧ w'.ownsRow u.heap.size 54 2 v X.length (V.cellsV X) ∧ Below u.heap.size u w') := Lib.hid (fun u hu => by
      obtain ⟨A', c', e', r1, l1, m1, n1⟩ := (hw.keep hu).rows
      cases e'
      exact cloneV WA X wc u r1 hx l1 m1 n1)
    obtain ⟨nw, hnw⟩ : ∃ z, X.length = z := ⟨_, rfl⟩
    have HNW := Lib.hid hnw
    have HXL := Lib.hid hx
    rw [hnw] at KC ⊢
    obtain ⟨A2, c2, e2, -, -, -, -⟩ := h1.lg.rows
    dsimp only at e2
    subst e2
    have H1 := Lib.hid h1
    have B1d : Hid (Below W.heap.size W w1.drew) := Lib.hid b1.drew
    have HSS : Hid (w1.drew.heap[b]? = some (.cells (d.cs ⟨mv, .slice A2 Lg.length c2, Lg, hv, vl⟩ m) 73 (0, 0))) := Lib.hid h1.blk
    have R1d : Hid (w1.drew.heap[k]? = some (.cells #[.slice none 0 0, .slice none 0 0] 32 (0, 0))) := Lib.hid r1
    have H1d : Hid (PQ base w1.drew b m d ⟨mv, .slice A2 Lg.length c2, Lg, hv, vl⟩) := Lib.hid (h1.below (Below.refl _ _).drew)
    clear h h1 hw1 b1 r1 hw hx hk hnw
    go_enter Try.func34, Try.ntmps34
    go_wp2_with (first
      | (rw [HW1.out, HK.out])
      | fail)
    refine region_heldT (S := fun u => u.heap[b]? = some (.cells (d.cs ⟨mv, .slice A2 Lg.length c2, Lg, hv, vl⟩ m) 73 (0, 0))) 7 (by kernel_rfl) (by decide) (fun inv => ?_)
    have HS := HSS.out
    change FirstH _ _ _ _ _ _ _ _ _ _ w1.drew
    generalize w1.drew = wd at *
    refine FirstH.go (i := 0) (v := .slice WA nw wc) rfl rfl 15 rfl (Op.move (.tmp 1)) rfl (by kernel_rfl) (fun _ _ _ h => h) inv (fun W hS => by unfold bareO; go_simp) HS (fun inv => ?_)
    try simp only [Act.put, List.setIfInBounds_toArray, List.set_cons_zero, List.set_cons_succ]
    refine FirstH.go (i := 2) (v := .pointer (some ⟨b, 0, none⟩)) rfl rfl 17 rfl (Op.move (.tmp 0)) rfl (by kernel_rfl) (fun _ _ _ h => h) inv (fun W hS => by unfold bareO; go_simp) HS (fun inv => ?_)
    try simp only [Act.put, List.setIfInBounds_toArray, List.set_cons_zero, List.set_cons_succ]
    refine FirstH.go (i := 3) (v := .pointer (some ⟨b, 0, none⟩)) rfl rfl 18 rfl (Op.nilCheck (.tmp 17)) rfl (by kernel_rfl) (fun _ _ _ h => h) inv (fun W hS => by unfold bareO; go_simp) HS (fun inv => ?_)
    try simp only [Act.put, List.setIfInBounds_toArray, List.set_cons_zero, List.set_cons_succ]
    refine FirstH.go (i := 4) (v := .pointer (some ⟨b, 6, none⟩)) rfl rfl 19 rfl (Op.fieldAddr 73 (.tmp 18) 4) rfl (by kernel_rfl) (fun _ _ _ h => h) inv (fun W hS => by unfold bareO; go_simp) HS (fun inv => ?_)
    try simp only [Act.put, List.setIfInBounds_toArray, List.set_cons_zero, List.set_cons_succ]
    refine FirstH.go (i := 5) (v := .slice A2 Lg.length c2) rfl rfl 20 rfl (Op.load 30 (.tmp 19)) rfl (by kernel_rfl) (fun _ _ _ h => h) inv (fun W hS => by have c6 := cell_of hS 6 (.slice A2 Lg.length c2) rfl; unfold bareO; go_simp) HS (fun inv => ?_)
    try simp only [Act.put, List.setIfInBounds_toArray, List.set_cons_zero, List.set_cons_succ]
    refine FirstH.only (i := 1) (by kernel_rfl) (by decide) inv (fun inv => wpOp_call (i := 1) rfl rfl 16 rfl (Op.call { callee := .value (.func 35), args := #[.tmp 15], argTypes := #[29] }) rfl 35 #[.slice WA nw wc] (by unfold bareO; go_simp) (KC.out wd (Keeps.of_below B1d.out)) ?_)
    rintro e w3 ⟨v3, rfl, o3, b3⟩
    have o3' := o3
    rw [← HNW.out] at o3'
    have P3 := PrO.of_owns o3'
    obtain ⟨A3, c3, e3, -, -, -, -⟩ := P3.rows
    subst e3
    rw [HNW.out] at P3 ⊢
    have HS3 := (b3.block b (heap_lt HS)).trans HS
    have R3 := (b3.block k (heap_lt R1d.out)).trans R1d.out
    have H3 := H1d.out.below b3
    have B3 := B1d.out.trans (b3.mono B1d.out.size)
    refine ⟨_, rfl, HS3, ?_⟩
    try simp only [Act.put, List.setIfInBounds_toArray, List.set_cons_zero, List.set_cons_succ]
    refine FirstH.go (i := 6) (v := .agg #[.slice A3 nw c3, .slice A2 Lg.length c2]) rfl rfl 21 rfl (Op.build 32 #[(0, .tmp 16), (1, .tmp 20)]) rfl (by kernel_rfl) (fun _ _ _ h => h) inv (fun W hS => by unfold bareO; go_simp) HS3 (fun inv => ?_)
    try simp only [Act.put, List.setIfInBounds_toArray, List.set_cons_zero, List.set_cons_succ]
    clear HS3
    refine ⟨by kernel_rfl, ?_⟩
    simp only [List.drop_succ_cons, List.drop_zero]
    obtain ⟨w4, hw4⟩ : ∃ z, w3.setRow k #[.slice A3 nw c3, .slice A2 Lg.length c2] = z := ⟨_, rfl⟩
    have r4 : w4.heap[k]? = some (.cells #[.slice A3 nw c3, .slice A2 Lg.length c2] 32 (0, 0)) := by rw [← hw4]; exact setRow_heapG _ _ _ _ _ _ R3
    have kp : KP (fun j => j = k) w3 w4 := by rw [← hw4]; exact KP.setRow w3 k _ rfl
    have B4 := Lib.hid (B3.trans (kp.below B3.size fun j hj => by rw [hj, HK.out]; exact Nat.le_refl _))
    have kk : Keeps w3 w4 := Keeps.of_KP kp fun g cur t hg ht => apart_of hg R3 (by
      intro e
      rw [e] at ht
      revert ht
      simp [Ty])
    have OK4 : Hid (Vl.Ok ⟨.slice A3 nw c3, X, .slice A2 Lg.length c2, Lg⟩ w4) := Lib.hid ⟨P3.keep kk, H3.lg.keep kk, HXL.out, H3.lgl⟩
    have HD : Hid (Lg.map Le.v = d.Lg) := Lib.hid H3.lgd
    have R4 := Lib.hid r4
    have HW4 := Lib.hid hw4
    clear r4 kp kk hw4 H3 P3 B3 b3 o3 o3'
    refine wpList_store_row rfl 32 (.tmp 4) (.tmp 21) rfl k #[.slice A3 nw c3, .slice A2 Lg.length c2] (by rfl) (by rfl) 32 _ R3 (by kernel_rfl) rfl (by simp [Value.oneCell']) ?_
    rw [HW4.out]
    go_wp2
    refine bodyPost_ret (v := .agg #[.slice A3 nw c3, .slice A2 Lg.length c2]) (by
      have c0 := cell_of R4.out 0 (.slice A3 nw c3) rfl
      have c1 := cell_of R4.out 1 (.slice A2 Lg.length c2) rfl
      simp [results, Try.results34, go_sem]
      try go_simp) rfl ⟨⟨.slice A3 nw c3, X, .slice A2 Lg.length c2, Lg⟩, rfl, OK4.out, by rw [HE.out]; simp only [Vl.d, HD.out], B4.out⟩

end Go.Proofs.Ytfkmodmgihadkaa
