/-
  No wheel, and one that nobody made: every call, by exact answers; the walk of the law WheelNil. Condition: each number of a key fits its kind.
-/
import Derived.Test.YtfekkfphogjpeaaYar
import Derived.Laws.IdiomRangeMap
namespace Go.Proofs.Ytfekkfphogjpeaa
set_option linter.unusedSimpArgs false
set_option linter.unusedVariables false
open Go.RowKit Go.Maps Go.Sort

/-- no wheel, or one that nobody made. -/
def NoW (W : World) (po : Option Addr) : Prop := po = none ∨ ∃ b, po = some ⟨b, 0, none⟩ ∧ W.heap[b]? = some (.cells #[.int .i64 0, .map none] 74 (0, 0))
theorem NoW.below {W W' : World} {po : Option Addr} (h : NoW W po) (hb : Below W.heap.size W W') : NoW W' po := by
  rcases h with h | ⟨b, e, hg⟩
  · exact .inl h
  · exact .inr ⟨b, e, (hb.block b (Array.getElem?_eq_some_iff.1 hg).1).trans hg⟩

set_option maxRecDepth 100000 in
set_option maxHeartbeats 1000000 in
theorem at_none (W : World) (po : Option Addr) (x : K13) (rx : x.Rng) (h : NoW W po) :
    Calls Try.prog 16 #[.pointer po, .agg x.cs] W fun e W' => e = .returned (.tuple #[.int .i64 0, .bool false]) ∧ Below W.heap.size W W' := by
  obtain ⟨W1, hW1⟩ : ∃ W1, W.alloc (.cells x.cs 50) = W1 := ⟨_, rfl⟩
  have b1 : Below W.heap.size W W1 := by rw [← hW1]; exact (Below.refl _ _).alloc (Nat.le_refl _) _
  have r1 : W1.heap[W.heap.size]? = some (.cells x.cs 50 (0, 0)) := by rw [← hW1]; exact heap_alloc_new _ _
  have hsz : (Try.prog.info? 50).map (·.size) = some x.cs.size := by kernel_rfl
  have h1 := h.below b1
  rcases h1 with rfl | ⟨b, rfl, hg⟩
  · obtain ⟨cs, hcs⟩ : ∃ cs, x.cs = cs := ⟨_, rfl⟩
    rw [hcs] at hW1
    rw [hcs]
    have HW := Lib.hid hW1
    have B1 := Lib.hid b1
    clear h hW1 b1 r1 hcs rx hsz
    go_enter Try.func16, Try.ntmps16
    go_wp2_with (refine wpList_bx rfl 50 (.tmp 1) rfl 3 rfl cs rfl ?_; rw [HW.out])
    exact bodyPost_ret (results_tmp2 rfl _ _ _) rfl ⟨rfl, B1.out⟩
  · obtain ⟨W3, hW3⟩ : ∃ X, W1.drew = X := ⟨_, rfl⟩
    have b3 : Below W.heap.size W W3 := by rw [← hW3]; exact b1.drew
    have HS : W3.heap[b]? = some (.cells #[.int .i64 0, .map none] 74 (0, 0)) ∧ W3.heap[W.heap.size]? = some (.cells x.cs 50 (0, 0)) := by rw [← hW3]; exact ⟨hg, r1⟩
    have hl := fun X : World => Maps.look_nil (w := X) true kKeyed mapU (atZero X) (keyCs rx)
    obtain ⟨cs, hcs⟩ : ∃ cs, x.cs = cs := ⟨_, rfl⟩
    rw [hcs] at HS hl hsz hW1
    rw [hcs]
    simp only [if_true] at hl
    have HL := Lib.hid hl
    have HW := Lib.hid hW1
    have HW3 := Lib.hid hW3
    have B3 := Lib.hid b3
    have HH := Lib.hid HS
    have HZ := Lib.hid hsz
    clear h hW1 b1 r1 hcs hW3 b3 HS hl rx hsz hg
    go_enter Try.func16, Try.ntmps16
    go_wp2_with (refine wpList_bx rfl 50 (.tmp 1) rfl 3 rfl cs rfl ?_; rw [HW.out])
    refine region_heldT (S := fun X => X.heap[b]? = some (.cells #[.int .i64 0, .map none] 74 (0, 0)) ∧ X.heap[W.heap.size]? = some (.cells cs 50 (0, 0))) 10 (by kernel_rfl) (by decide) (fun inv => ?_)
    change FirstH _ _ _ _ _ _ _ _ _ _ W1.drew
    rw [HW3.out]
    have HS := HH.out
    refine FirstH.go (i := 0) (v := .pointer (some ⟨b, 0, none⟩)) rfl rfl _ rfl _ rfl (by kernel_rfl) (fun _ _ _ h => h) inv (fun X _ => by unfold bareO; go_simp) HS (fun inv => ?_)
    try simp only [Act.put, List.setIfInBounds_toArray, List.set_cons_zero, List.set_cons_succ]
    refine FirstH.go (i := 1) (v := .pointer (some ⟨b, 0, none⟩)) rfl rfl _ rfl _ rfl (by kernel_rfl) (fun _ _ _ h => h) inv (fun X _ => by unfold bareO; go_simp) HS (fun inv => ?_)
    try simp only [Act.put, List.setIfInBounds_toArray, List.set_cons_zero, List.set_cons_succ]
    refine FirstH.go (i := 2) (v := .pointer (some ⟨b, 1, none⟩)) rfl rfl _ rfl _ rfl (by kernel_rfl) (fun _ _ _ h => h) inv (fun X _ => by unfold bareO; go_simp) HS (fun inv => ?_)
    try simp only [Act.put, List.setIfInBounds_toArray, List.set_cons_zero, List.set_cons_succ]
    refine FirstH.go (i := 3) (v := .map none) rfl rfl _ rfl _ rfl (by kernel_rfl) (fun _ _ _ h => h) inv (fun X hS => by have c1 := cell_of hS.1 1 (.map none) rfl; unfold bareO; go_simp) HS (fun inv => ?_)
    try simp only [Act.put, List.setIfInBounds_toArray, List.set_cons_zero, List.set_cons_succ]
    refine FirstH.go (i := 4) (v := .agg cs) rfl rfl _ rfl _ rfl (by kernel_rfl) (fun _ _ _ h => h) inv (fun X hS => run_load_row 50 _ _ W.heap.size rfl _ _ _ _ hS.2 Try.underlying50 rfl HZ.out) HS (fun inv => ?_)
    try simp only [Act.put, List.setIfInBounds_toArray, List.set_cons_zero, List.set_cons_succ]
    refine FirstH.go (i := 5) (v := .tuple #[.int .i64 0, .bool false]) rfl rfl _ rfl _ rfl (by kernel_rfl) (fun _ _ _ h => h) inv (fun X hS => by have hl := HL.out X; unfold bareO; go_simp) HS (fun inv => ?_)
    try simp only [Act.put, List.setIfInBounds_toArray, List.set_cons_zero, List.set_cons_succ]
    refine FirstH.go (i := 6) (v := .tuple #[.int .i64 0, .bool false]) rfl rfl _ rfl _ rfl (by kernel_rfl) (fun _ _ _ h => h) inv (fun X _ => by unfold bareO; go_simp) HS (fun inv => ?_)
    try simp only [Act.put, List.setIfInBounds_toArray, List.set_cons_zero, List.set_cons_succ]
    refine FirstH.go (i := 7) (v := .int .i64 0) rfl rfl _ rfl _ rfl (by kernel_rfl) (fun _ _ _ h => h) inv (fun X _ => by unfold bareO; go_simp) HS (fun inv => ?_)
    try simp only [Act.put, List.setIfInBounds_toArray, List.set_cons_zero, List.set_cons_succ]
    refine FirstH.go (i := 8) (v := .bool false) rfl rfl _ rfl _ rfl (by kernel_rfl) (fun _ _ _ h => h) inv (fun X _ => by unfold bareO; go_simp) HS (fun inv => ?_)
    try simp only [Act.put, List.setIfInBounds_toArray, List.set_cons_zero, List.set_cons_succ]
    refine FirstH.go (i := 9) (v := .int .i64 0) rfl rfl _ rfl _ rfl (by kernel_rfl) (fun _ _ _ h => h) inv (fun X _ => by unfold bareO; go_simp) HS (fun inv => ?_)
    try simp only [Act.put, List.setIfInBounds_toArray, List.set_cons_zero, List.set_cons_succ]
    clear HS
    refine ⟨by kernel_rfl, ?_⟩
    simp only [List.drop_succ_cons, List.drop_zero]
    go_wp2
    exact bodyPost_ret (results_tmp2 rfl _ _ _) rfl ⟨rfl, B3.out⟩

set_option maxRecDepth 100000 in
set_option maxHeartbeats 1000000 in
theorem set_none (W : World) (po : Option Addr) (x : K13) (at_ : Int) (h : NoW W po) :
    Calls Try.prog 11 #[.pointer po, .agg x.cs, .int .i64 at_] W fun e W' => e = .returned (.int .i64 1) ∧ Below W.heap.size W W' := by
  obtain ⟨W1, hW1⟩ : ∃ W1, W.alloc (.cells x.cs 50) = W1 := ⟨_, rfl⟩
  have b1 : Below W.heap.size W W1 := by rw [← hW1]; exact (Below.refl _ _).alloc (Nat.le_refl _) _
  have r1 : W1.heap[W.heap.size]? = some (.cells x.cs 50 (0, 0)) := by rw [← hW1]; exact heap_alloc_new _ _
  have hsz : (Try.prog.info? 50).map (·.size) = some x.cs.size := by kernel_rfl
  have h1 := h.below b1
  have hmn : ∀ (w : World) (r : Option Nat), (binOp .eql 72 (.map r) (.map none)).run Try.prog w = .ok (.bool r.isNone) w := fun w r => run_eql_map_nil w _ _ _ r mapU
  obtain ⟨cs, hcs⟩ : ∃ cs, x.cs = cs := ⟨_, rfl⟩
  rw [hcs] at hW1
  rw [hcs]
  have HW := Lib.hid hW1
  have B1 := Lib.hid b1
  rcases h1 with rfl | ⟨b, rfl, hg⟩
  · clear h hW1 b1 r1 hcs hsz
    go_enter Try.func11, Try.ntmps11
    go_wp2_with (refine wpList_bx rfl 50 (.tmp 1) rfl 4 rfl cs rfl ?_; rw [HW.out])
    go_ret
    exact ⟨rfl, B1.out⟩
  · have c1 := cell_of hg 1 (.map none) rfl
    clear h hW1 b1 r1 hcs hsz hg
    go_enter Try.func11, Try.ntmps11
    go_wp2_with (refine wpList_bx rfl 50 (.tmp 1) rfl 4 rfl cs rfl ?_; rw [HW.out])
    go_ret
    exact ⟨rfl, B1.out⟩

set_option maxRecDepth 100000 in
set_option maxHeartbeats 1000000 in
theorem cancel_none (W : World) (po : Option Addr) (x : K13) (rx : x.Rng) (h : NoW W po) :
    Calls Try.prog 14 #[.pointer po, .agg x.cs] W fun e W' => e = .returned (.bool false) ∧ Below W.heap.size W W' := by
  obtain ⟨W1, hW1⟩ : ∃ W1, W.alloc (.cells x.cs 50) = W1 := ⟨_, rfl⟩
  have b1 : Below W.heap.size W W1 := by rw [← hW1]; exact (Below.refl _ _).alloc (Nat.le_refl _) _
  have r1 : W1.heap[W.heap.size]? = some (.cells x.cs 50 (0, 0)) := by rw [← hW1]; exact heap_alloc_new _ _
  have hsz : (Try.prog.info? 50).map (·.size) = some x.cs.size := by kernel_rfl
  have h1 := h.below b1
  have K := Lib.hid (at_none W1 po x rx h1)
  obtain ⟨cs, hcs⟩ : ∃ cs, x.cs = cs := ⟨_, rfl⟩
  rw [hcs] at hW1 K r1 hsz
  rw [hcs]
  have HW := Lib.hid hW1
  have B1 := Lib.hid b1
  have R1 := Lib.hid r1
  have HZ := Lib.hid hsz
  clear h hW1 b1 r1 hcs rx hsz h1
  go_enter Try.func14, Try.ntmps14
  go_wp2_with (first | (refine wpList_bx rfl 50 (.tmp 1) rfl 3 rfl cs rfl ?_; rw [HW.out]) | (refine wpList_load_row rfl 50 (.tmp 3) rfl W.heap.size (by rfl) 50 cs (0, 0) _ R1.out Try.underlying50 rfl HZ.out ?_))
  refine K.out.mono ?_
  rintro e W2 ⟨rfl, b2⟩
  have B2 := Lib.hid (B1.out.trans (b2.mono B1.out.size))
  clear b2 K
  go_wp2
  go_ret
  exact ⟨rfl, B2.out⟩

set_option maxRecDepth 100000 in
set_option maxHeartbeats 1000000 in
theorem len_none (W : World) (po : Option Addr) (h : NoW W po) :
    Calls Try.prog 23 #[.pointer po] W fun e W' => e = .returned (.int .i64 0) ∧ Below W.heap.size W W' := by
  rcases h with rfl | ⟨b, rfl, hg⟩
  · go_enter Try.func23, Try.ntmps23
    go_wp2
    go_ret
    exact ⟨rfl, Below.refl _ _⟩
  · have c1 := cell_of hg 1 (.map none) rfl
    have hln := fun (X : World) ty => Maps.len_nil (w := X) mapU ty
    clear hg
    go_enter Try.func23, Try.ntmps23
    go_wp2
    go_ret
    exact ⟨rfl, Below.refl _ _⟩

set_option maxRecDepth 100000 in
set_option maxHeartbeats 1000000 in
theorem next_none (W : World) (po : Option Addr) (h : NoW W po) :
    Calls Try.prog 21 #[.pointer po] W fun e W' => e = .returned (.tuple #[.int .i64 0, .bool false]) ∧ Below W.heap.size W W' := by
  rcases h with rfl | ⟨b, rfl, hg⟩
  · go_enter Try.func21, Try.ntmps21
    go_wp2
    exact bodyPost_ret (results_tmp2 rfl _ _ _) rfl ⟨rfl, Below.refl _ _⟩
  · have c1 := cell_of hg 1 (.map none) rfl
    have hrg := run_range_nilMap (P := Try.prog) W 72 50 3 mapU
    have hnx : ∀ ty, (Instr.next (.pointer (some ⟨W.heap.size, 0, none⟩)) false ty).run Try.prog (W.alloc (.mapIter none 0 #[] 0)) = _ := fun ty => run_next_nilMap _ ty 0 0 #[]
    clear hg
    go_enter Try.func21, Try.ntmps21
    go_wp2
    refine wp_loop_rounds 1 ?_
    rw [rounds_succ]
    go_wp2
    exact bodyPost_ret (results_tmp2 rfl _ _ _) rfl ⟨rfl, (Below.refl _ _).alloc (Nat.le_refl _) _⟩

set_option maxRecDepth 100000 in
set_option maxHeartbeats 1000000 in
theorem due_none (W : World) (po : Option Addr) (now : Int) (h : NoW W po) :
    Calls Try.prog 19 #[.pointer po, .int .i64 now] W fun e W' => ∃ A c, e = .returned (.slice A 0 c) ∧ Below W.heap.size W W' := by
  rcases h with rfl | ⟨b, rfl, hg⟩
  · go_enter Try.func19, Try.ntmps19
    go_wp2
    go_ret
    exact ⟨_, _, rfl, Below.refl _ _⟩
  · have c1 := cell_of hg 1 (.map none) rfl
    have hrg := run_range_nilMap (P := Try.prog) W 72 50 3 mapU
    have hnx : ∀ ty, (Instr.next (.pointer (some ⟨W.heap.size, 0, none⟩)) false ty).run Try.prog (W.alloc (.mapIter none 0 #[] 0)) = _ := fun ty => run_next_nilMap _ ty 0 0 #[]
    have IN := Lib.hid (inOrder_nil (W.alloc (.mapIter none 0 #[] 0)))
    clear hg
    go_enter Try.func19, Try.ntmps19
    go_wp2
    refine wp_loop_rounds 1 ?_
    rw [rounds_succ]
    go_wp2
    refine wp_loop_rounds 1 ?_
    rw [rounds_succ]
    go_wp2_with fail
    refine IN.out.mono ?_
    rintro e W7 ⟨v, rfl, hO7, b7⟩
    obtain ⟨A, c, rfl, -⟩ := own_form hO7
    have B7 := Lib.hid (((Below.refl W.heap.size W).alloc (Nat.le_refl _) (.mapIter none 0 #[] 0)).trans (b7.mono (by simp)))
    clear hO7 b7
    go_wp2
    go_ret
    exact ⟨A, c, rfl, B7.out⟩

set_option maxRecDepth 100000 in
set_option maxHeartbeats 4000000 in
theorem walkNil (a : Ac) (W : World) (ok : a.ok) : Calls Try.prog 6 #[.agg a.cs.toArray] W fun e W' => e = .returned (.bool true) ∧ Below W.heap.size W W' := by
  obtain ⟨kd, at_, x⟩ := a
  have rx := ok.2
  obtain ⟨W1, hW1⟩ : ∃ X, W.alloc (.cells (Ac.mk kd at_ x).cs.toArray 40) = X := ⟨_, rfl⟩
  have b1 : Below W.heap.size W W1 := by rw [← hW1]; exact (Below.refl _ _).alloc (Nat.le_refl _) _
  have r1 : W1.heap[W.heap.size]? = some (.cells (Ac.mk kd at_ x).cs.toArray 40 (0, 0)) := by rw [← hW1]; exact heap_alloc_new _ _
  have cell : ∀ (w : World), Below W1.heap.size W1 w → ∀ j u, (Ac.mk kd at_ x).cs[j]? = some u → w.cell? ⟨W.heap.size, j, none⟩ = some u := fun w hb j u hu => (cell_of_row _ _ j _ _ _ ((hb.block _ (Array.getElem?_eq_some_iff.1 r1).1).trans r1)).trans (by simpa using hu)
  have HC := Lib.hid cell
  have HW := Lib.hid hW1
  have B1 := Lib.hid b1
  have KK := Lib.hid (fun w => knowsW w)
  have TK := Lib.hid (fun w => toKey x w)
  have TA := Lib.hid (fun w po (h : NoW w po) => at_none w po x rx h)
  have TX := Lib.hid (fun w po (h : NoW w po) => next_none w po h)
  have TS := Lib.hid (fun w po (h : NoW w po) => set_none w po x at_ h)
  have TC := Lib.hid (fun w po (h : NoW w po) => cancel_none w po x rx h)
  have TD := Lib.hid (fun w po (h : NoW w po) => due_none w po at_ h)
  have TL := Lib.hid (fun w po (h : NoW w po) => len_none w po h)
  have TN0 : ∀ w : World, Calls Try.prog 10 #[.int .i64 1] w fun e w' => e = .returned (.int .i64 1) ∧ Below w.heap.size w w' := fun w => (numW 1 w).mono fun _ _ ⟨he, hw⟩ => ⟨he, hw ▸ Below.refl _ _⟩
  have TN := Lib.hid TN0
  clear TN0
  obtain ⟨W0, hW0⟩ : ∃ W0, W = W0 := ⟨_, rfl⟩
  subst hW0
  unfold Ac.cs at HC HW ⊢
  unfold K13.cs at TK TA TS TC
  clear hW1 b1 r1 cell rx ok
  go_enter Try.func6, Try.ntmps6
  go_wp2_with (rw [HW.out])
  go_loopw [3, 4] (fun p i wx => ∃ k : Nat, k ≤ 2 ∧ i = .int .i64 k ∧ ∃ po, p = .pointer po ∧ Hid (NoW wx po) ∧ Hid (Below W1.heap.size W1 wx)) (fun _ i _ => 2 - (intOf i).toNat)
  case atStart => exact ⟨0, by omega, rfl, none, rfl, Lib.hid (.inl rfl), Lib.hid (Below.refl _ _)⟩
  case round =>
    obtain ⟨k, hk, rfl, po, rfl, N0, B0⟩ := hrel
    by_cases hk2 : k < 2
    · have hk2' : (k : Int) < 2 := by omega
      have c0 := HC.out wr B0.out 2 _ rfl
      have c1 := HC.out wr B0.out 3 _ rfl
      have c2 := HC.out wr B0.out 4 _ rfl
      have c3 := HC.out wr B0.out 5 _ rfl
      have c4 := HC.out wr B0.out 6 _ rfl
      have c5 := HC.out wr B0.out 7 _ rfl
      have c6 := HC.out wr B0.out 8 _ rfl
      have c7 := HC.out wr B0.out 9 _ rfl
      have c8 := HC.out wr B0.out 10 _ rfl
      have c9 := HC.out wr B0.out 11 _ rfl
      have c10 := HC.out wr B0.out 12 _ rfl
      have c11 := HC.out wr B0.out 13 _ rfl
      have c12 := HC.out wr B0.out 14 _ rfl
      go_wp2_with fail
      refine (TK.out _).mono ?_
      rintro e w1 ⟨rfl, d1⟩
      have BB1 := Lib.hid (B0.out.trans (d1.mono B0.out.size))
      have NO1 := Lib.hid (N0.out.below d1)
      clear d1 c0 c1 c2 c3 c4 c5 c6 c7 c8 c9 c10 c11 c12
      go_wp2_with fail
      refine (TA.out _ _ NO1.out).mono ?_
      rintro e w2 ⟨rfl, d2⟩
      have BB2 := Lib.hid (BB1.out.trans (d2.mono BB1.out.size))
      have NO2 := Lib.hid (NO1.out.below d2)
      clear d2
      go_wp2_with fail
      refine (TX.out _ _ NO2.out).mono ?_
      rintro e w3 ⟨rfl, d3⟩
      have BB3 := Lib.hid (BB2.out.trans (d3.mono BB2.out.size))
      have NO := Lib.hid (NO2.out.below d3)
      clear d3
      go_wp2
      have HACT : Hid (∀ X, Below w3.heap.size w3 X → ∀ j u, ([.int .i64 kd, .int .i64 at_, .int .u8 x.k, .int .u8 x.pn, .int .u16 x.pl, .int .u8 x.x.n, .int .u16 x.x.l, .int .u32 x.x.s, .int .u8 x.x.d, .int .u8 x.x.a0, .int .u8 x.x.a1, .int .u8 x.x.b0, .int .u8 x.x.b1, .int .u8 x.x.c0, .int .u8 x.x.c1] : List Value)[j]? = some u → X.cell? ⟨W.heap.size, j, none⟩ = some u) := Lib.hid fun X hX j u hu => HC.out X (BB3.out.trans (hX.mono BB3.out.size)) j u hu
      obtain ⟨w4, hw4⟩ : ∃ X, w3.drew = X := ⟨_, rfl⟩
      have HW4 := Lib.hid hw4
      have HS0 := Lib.hid (show Below w3.heap.size w3 w4 from by rw [← hw4]; exact (Below.refl _ _).drew)
      clear hw4
      refine region_heldT (S := fun X => Below w3.heap.size w3 X) 38 (by kernel_rfl) (by decide) (fun inv => ?_)
      change FirstH _ _ _ _ _ _ _ _ _ _ w3.drew
      rw [HW4.out]
      have HS := HS0.out
      refine FirstH.go (i := 0) (v := .pointer po) rfl rfl _ rfl _ rfl (by kernel_rfl) (fun _ _ _ h => h) inv (fun X _ => by unfold bareO; go_simp) HS (fun inv => ?_)
      try simp only [Act.put, List.setIfInBounds_toArray, List.set_cons_zero, List.set_cons_succ]
      refine FirstH.go (i := 1) (v := .pointer (some ⟨W.heap.size, 2, none⟩)) rfl rfl _ rfl _ rfl (by kernel_rfl) (fun _ _ _ h => h) inv (fun X _ => by unfold bareO; go_simp) HS (fun inv => ?_)
      try simp only [Act.put, List.setIfInBounds_toArray, List.set_cons_zero, List.set_cons_succ]
      refine FirstH.go (i := 2) (v := .agg #[.int .u8 x.k, .int .u8 x.pn, .int .u16 x.pl, .int .u8 x.x.n, .int .u16 x.x.l, .int .u32 x.x.s, .int .u8 x.x.d, .int .u8 x.x.a0, .int .u8 x.x.a1, .int .u8 x.x.b0, .int .u8 x.x.b1, .int .u8 x.x.c0, .int .u8 x.x.c1]) rfl rfl _ rfl _ rfl (by kernel_rfl) (fun _ _ _ h => h) inv (fun X hS => by have c0 := HACT.out X hS 2 _ rfl; have c1 := HACT.out X hS 3 _ rfl; have c2 := HACT.out X hS 4 _ rfl; have c3 := HACT.out X hS 5 _ rfl; have c4 := HACT.out X hS 6 _ rfl; have c5 := HACT.out X hS 7 _ rfl; have c6 := HACT.out X hS 8 _ rfl; have c7 := HACT.out X hS 9 _ rfl; have c8 := HACT.out X hS 10 _ rfl; have c9 := HACT.out X hS 11 _ rfl; have c10 := HACT.out X hS 12 _ rfl; have c11 := HACT.out X hS 13 _ rfl; have c12 := HACT.out X hS 14 _ rfl; unfold bareO; go_simp) HS (fun inv => ?_)
      try simp only [Act.put, List.setIfInBounds_toArray, List.set_cons_zero, List.set_cons_succ]
      refine FirstH.go (i := 4) (v := .pointer (some ⟨W.heap.size, 1, none⟩)) rfl rfl _ rfl _ rfl (by kernel_rfl) (fun _ _ _ h => h) inv (fun X _ => by unfold bareO; go_simp) HS (fun inv => ?_)
      try simp only [Act.put, List.setIfInBounds_toArray, List.set_cons_zero, List.set_cons_succ]
      refine FirstH.go (i := 5) (v := .int .i64 at_) rfl rfl _ rfl _ rfl (by kernel_rfl) (fun _ _ _ h => h) inv (fun X hS => by have c1 := HACT.out X hS 1 _ rfl; unfold bareO; go_simp) HS (fun inv => ?_)
      try simp only [Act.put, List.setIfInBounds_toArray, List.set_cons_zero, List.set_cons_succ]
      refine FirstH.only (i := 3) (by kernel_rfl) (by decide) inv (fun inv => wpOp_call (i := 3) rfl rfl 29 rfl _ rfl 12 #[.agg #[.int .u8 x.k, .int .u8 x.pn, .int .u16 x.pl, .int .u8 x.x.n, .int .u16 x.x.l, .int .u32 x.x.s, .int .u8 x.x.d, .int .u8 x.x.a0, .int .u8 x.x.a1, .int .u8 x.x.b0, .int .u8 x.x.b1, .int .u8 x.x.c0, .int .u8 x.x.c1]] (by unfold bareO; go_simp) (TK.out _) ?_)
      rintro e u1 ⟨rfl, bu1⟩
      have HSu1 := HS.trans (bu1.mono HS.size)
      refine ⟨_, rfl, HSu1, ?_⟩
      try simp only [Act.put, List.setIfInBounds_toArray, List.set_cons_zero, List.set_cons_succ]
      clear HS bu1
      have HS := HSu1
      clear HSu1
      refine FirstH.only (i := 6) (by kernel_rfl) (by decide) inv (fun inv => wpOp_call (i := 6) rfl rfl 32 rfl _ rfl 11 #[.pointer po, .agg #[.int .u8 x.k, .int .u8 x.pn, .int .u16 x.pl, .int .u8 x.x.n, .int .u16 x.x.l, .int .u32 x.x.s, .int .u8 x.x.d, .int .u8 x.x.a0, .int .u8 x.x.a1, .int .u8 x.x.b0, .int .u8 x.x.b1, .int .u8 x.x.c0, .int .u8 x.x.c1], .int .i64 at_] (by unfold bareO; go_simp) (TS.out _ _ (NO.out.below HS)) ?_)
      rintro e u2 ⟨rfl, bu2⟩
      have HSu2 := HS.trans (bu2.mono HS.size)
      refine ⟨_, rfl, HSu2, ?_⟩
      try simp only [Act.put, List.setIfInBounds_toArray, List.set_cons_zero, List.set_cons_succ]
      clear HS bu2
      have HS := HSu2
      clear HSu2
      refine FirstH.only (i := 7) (by kernel_rfl) (by decide) inv (fun inv => wpOp_call (i := 7) rfl rfl 33 rfl _ rfl 10 #[.int .i64 1] (by unfold bareO; go_simp) (TN.out _) ?_)
      rintro e u3 ⟨rfl, bu3⟩
      have HSu3 := HS.trans (bu3.mono HS.size)
      refine ⟨_, rfl, HSu3, ?_⟩
      try simp only [Act.put, List.setIfInBounds_toArray, List.set_cons_zero, List.set_cons_succ]
      clear HS bu3
      have HS := HSu3
      clear HSu3
      refine FirstH.go (i := 8) (v := .bool false) rfl rfl _ rfl _ rfl (by kernel_rfl) (fun _ _ _ h => h) inv (fun X _ => by unfold bareO; go_simp) HS (fun inv => ?_)
      try simp only [Act.put, List.setIfInBounds_toArray, List.set_cons_zero, List.set_cons_succ]
      refine FirstH.go (i := 9) (v := .bool false) rfl rfl _ rfl _ rfl (by kernel_rfl) (fun _ _ _ h => h) inv (fun X _ => by unfold bareO; go_simp) HS (fun inv => ?_)
      try simp only [Act.put, List.setIfInBounds_toArray, List.set_cons_zero, List.set_cons_succ]
      refine FirstH.goG (i := 10) (v := .pointer po) rfl (by kernel_rfl) _ rfl _ rfl (by kernel_rfl) (fun _ _ _ h => h) inv (fun X _ => by unfold bareO; go_simp) HS (fun inv => ?_)
      try simp only [Act.put, List.setIfInBounds_toArray, List.set_cons_zero, List.set_cons_succ]
      refine FirstH.goG (i := 11) (v := .pointer (some ⟨W.heap.size, 2, none⟩)) rfl (by kernel_rfl) _ rfl _ rfl (by kernel_rfl) (fun _ _ _ h => h) inv (fun X _ => by unfold bareO; go_simp) HS (fun inv => ?_)
      try simp only [Act.put, List.setIfInBounds_toArray, List.set_cons_zero, List.set_cons_succ]
      refine FirstH.goG (i := 12) (v := .agg #[.int .u8 x.k, .int .u8 x.pn, .int .u16 x.pl, .int .u8 x.x.n, .int .u16 x.x.l, .int .u32 x.x.s, .int .u8 x.x.d, .int .u8 x.x.a0, .int .u8 x.x.a1, .int .u8 x.x.b0, .int .u8 x.x.b1, .int .u8 x.x.c0, .int .u8 x.x.c1]) rfl (by kernel_rfl) _ rfl _ rfl (by kernel_rfl) (fun _ _ _ h => h) inv (fun X hS => by have c0 := HACT.out X hS 2 _ rfl; have c1 := HACT.out X hS 3 _ rfl; have c2 := HACT.out X hS 4 _ rfl; have c3 := HACT.out X hS 5 _ rfl; have c4 := HACT.out X hS 6 _ rfl; have c5 := HACT.out X hS 7 _ rfl; have c6 := HACT.out X hS 8 _ rfl; have c7 := HACT.out X hS 9 _ rfl; have c8 := HACT.out X hS 10 _ rfl; have c9 := HACT.out X hS 11 _ rfl; have c10 := HACT.out X hS 12 _ rfl; have c11 := HACT.out X hS 13 _ rfl; have c12 := HACT.out X hS 14 _ rfl; unfold bareO; go_simp) HS (fun inv => ?_)
      try simp only [Act.put, List.setIfInBounds_toArray, List.set_cons_zero, List.set_cons_succ]
      refine FirstH.only (i := 13) (by kernel_rfl) (by decide) inv (fun inv => wpOp_callG (i := 13) rfl (by kernel_rfl) 39 rfl _ rfl 12 #[.agg #[.int .u8 x.k, .int .u8 x.pn, .int .u16 x.pl, .int .u8 x.x.n, .int .u16 x.x.l, .int .u32 x.x.s, .int .u8 x.x.d, .int .u8 x.x.a0, .int .u8 x.x.a1, .int .u8 x.x.b0, .int .u8 x.x.b1, .int .u8 x.x.c0, .int .u8 x.x.c1]] (by unfold bareO; go_simp) (TK.out _) ?_)
      rintro e u4 ⟨rfl, bu4⟩
      have HSu4 := HS.trans (bu4.mono HS.size)
      refine ⟨_, rfl, HSu4, ?_⟩
      try simp only [Act.put, List.setIfInBounds_toArray, List.set_cons_zero, List.set_cons_succ]
      clear HS bu4
      have HS := HSu4
      clear HSu4
      refine FirstH.only (i := 14) (by kernel_rfl) (by decide) inv (fun inv => wpOp_callG (i := 14) rfl (by kernel_rfl) 40 rfl _ rfl 14 #[.pointer po, .agg #[.int .u8 x.k, .int .u8 x.pn, .int .u16 x.pl, .int .u8 x.x.n, .int .u16 x.x.l, .int .u32 x.x.s, .int .u8 x.x.d, .int .u8 x.x.a0, .int .u8 x.x.a1, .int .u8 x.x.b0, .int .u8 x.x.b1, .int .u8 x.x.c0, .int .u8 x.x.c1]] (by unfold bareO; go_simp) (TC.out _ _ (NO.out.below HS)) ?_)
      rintro e u5 ⟨rfl, bu5⟩
      have HSu5 := HS.trans (bu5.mono HS.size)
      refine ⟨_, rfl, HSu5, ?_⟩
      try simp only [Act.put, List.setIfInBounds_toArray, List.set_cons_zero, List.set_cons_succ]
      clear HS bu5
      have HS := HSu5
      clear HSu5
      refine FirstH.go (i := 15) (v := .bool false) rfl rfl _ rfl _ rfl (by kernel_rfl) (fun _ _ _ h => h) inv (fun X _ => by unfold bareO; go_simp) HS (fun inv => ?_)
      try simp only [Act.put, List.setIfInBounds_toArray, List.set_cons_zero, List.set_cons_succ]
      refine FirstH.go (i := 16) (v := .bool false) rfl rfl _ rfl _ rfl (by kernel_rfl) (fun _ _ _ h => h) inv (fun X _ => by unfold bareO; go_simp) HS (fun inv => ?_)
      try simp only [Act.put, List.setIfInBounds_toArray, List.set_cons_zero, List.set_cons_succ]
      refine FirstH.goG (i := 17) (v := .int .i64 0) rfl (by kernel_rfl) _ rfl _ rfl (by kernel_rfl) (fun _ _ _ h => h) inv (fun X _ => by unfold bareO; go_simp) HS (fun inv => ?_)
      try simp only [Act.put, List.setIfInBounds_toArray, List.set_cons_zero, List.set_cons_succ]
      refine FirstH.goG (i := 18) (v := .int .i64 0) rfl (by kernel_rfl) _ rfl _ rfl (by kernel_rfl) (fun _ _ _ h => h) inv (fun X _ => by unfold bareO; go_simp) HS (fun inv => ?_)
      try simp only [Act.put, List.setIfInBounds_toArray, List.set_cons_zero, List.set_cons_succ]
      refine FirstH.goG (i := 19) (v := .int .i64 0) rfl (by kernel_rfl) _ rfl _ rfl (by kernel_rfl) (fun _ _ _ h => h) inv (fun X _ => by unfold bareO; go_simp; rfl) HS (fun inv => ?_)
      try simp only [Act.put, List.setIfInBounds_toArray, List.set_cons_zero, List.set_cons_succ]
      refine FirstH.goG (i := 20) (v := .bool false) rfl (by kernel_rfl) _ rfl _ rfl (by kernel_rfl) (fun _ _ _ h => h) inv (fun X _ => by unfold bareO; go_simp) HS (fun inv => ?_)
      try simp only [Act.put, List.setIfInBounds_toArray, List.set_cons_zero, List.set_cons_succ]
      refine FirstH.go (i := 21) (v := .bool false) rfl rfl _ rfl _ rfl (by kernel_rfl) (fun _ _ _ h => h) inv (fun X _ => by unfold bareO; go_simp) HS (fun inv => ?_)
      try simp only [Act.put, List.setIfInBounds_toArray, List.set_cons_zero, List.set_cons_succ]
      refine FirstH.go (i := 22) (v := .bool false) rfl rfl _ rfl _ rfl (by kernel_rfl) (fun _ _ _ h => h) inv (fun X _ => by unfold bareO; go_simp) HS (fun inv => ?_)
      try simp only [Act.put, List.setIfInBounds_toArray, List.set_cons_zero, List.set_cons_succ]
      refine FirstH.goG (i := 23) (v := .bool false) rfl (by kernel_rfl) _ rfl _ rfl (by kernel_rfl) (fun _ _ _ h => h) inv (fun X _ => by unfold bareO; go_simp) HS (fun inv => ?_)
      try simp only [Act.put, List.setIfInBounds_toArray, List.set_cons_zero, List.set_cons_succ]
      refine FirstH.go (i := 24) (v := .bool false) rfl rfl _ rfl _ rfl (by kernel_rfl) (fun _ _ _ h => h) inv (fun X _ => by unfold bareO; go_simp) HS (fun inv => ?_)
      try simp only [Act.put, List.setIfInBounds_toArray, List.set_cons_zero, List.set_cons_succ]
      refine FirstH.go (i := 25) (v := .bool false) rfl rfl _ rfl _ rfl (by kernel_rfl) (fun _ _ _ h => h) inv (fun X _ => by unfold bareO; go_simp) HS (fun inv => ?_)
      try simp only [Act.put, List.setIfInBounds_toArray, List.set_cons_zero, List.set_cons_succ]
      refine FirstH.goG (i := 26) (v := .bool false) rfl (by kernel_rfl) _ rfl _ rfl (by kernel_rfl) (fun _ _ _ h => h) inv (fun X _ => by unfold bareO; go_simp) HS (fun inv => ?_)
      try simp only [Act.put, List.setIfInBounds_toArray, List.set_cons_zero, List.set_cons_succ]
      refine FirstH.go (i := 27) (v := .bool false) rfl rfl _ rfl _ rfl (by kernel_rfl) (fun _ _ _ h => h) inv (fun X _ => by unfold bareO; go_simp) HS (fun inv => ?_)
      try simp only [Act.put, List.setIfInBounds_toArray, List.set_cons_zero, List.set_cons_succ]
      refine FirstH.go (i := 28) (v := .bool false) rfl rfl _ rfl _ rfl (by kernel_rfl) (fun _ _ _ h => h) inv (fun X _ => by unfold bareO; go_simp) HS (fun inv => ?_)
      try simp only [Act.put, List.setIfInBounds_toArray, List.set_cons_zero, List.set_cons_succ]
      refine FirstH.goG (i := 29) (v := .pointer po) rfl (by kernel_rfl) _ rfl _ rfl (by kernel_rfl) (fun _ _ _ h => h) inv (fun X _ => by unfold bareO; go_simp) HS (fun inv => ?_)
      try simp only [Act.put, List.setIfInBounds_toArray, List.set_cons_zero, List.set_cons_succ]
      refine FirstH.goG (i := 30) (v := .pointer (some ⟨W.heap.size, 1, none⟩)) rfl (by kernel_rfl) _ rfl _ rfl (by kernel_rfl) (fun _ _ _ h => h) inv (fun X _ => by unfold bareO; go_simp) HS (fun inv => ?_)
      try simp only [Act.put, List.setIfInBounds_toArray, List.set_cons_zero, List.set_cons_succ]
      refine FirstH.goG (i := 31) (v := .int .i64 at_) rfl (by kernel_rfl) _ rfl _ rfl (by kernel_rfl) (fun _ _ _ h => h) inv (fun X hS => by have c1 := HACT.out X hS 1 _ rfl; unfold bareO; go_simp) HS (fun inv => ?_)
      try simp only [Act.put, List.setIfInBounds_toArray, List.set_cons_zero, List.set_cons_succ]
      refine FirstH.goG (i := 34) (v := .pointer po) rfl (by kernel_rfl) _ rfl _ rfl (by kernel_rfl) (fun _ _ _ h => h) inv (fun X _ => by unfold bareO; go_simp) HS (fun inv => ?_)
      try simp only [Act.put, List.setIfInBounds_toArray, List.set_cons_zero, List.set_cons_succ]
      refine FirstH.only (i := 32) (by kernel_rfl) (by decide) inv (fun inv => wpOp_callG (i := 32) rfl (by kernel_rfl) 58 rfl _ rfl 19 #[.pointer po, .int .i64 at_] (by unfold bareO; go_simp) (TD.out _ _ (NO.out.below HS)) ?_)
      rintro e u6 ⟨A6, c6, rfl, bu6⟩
      have HSu6 := HS.trans (bu6.mono HS.size)
      refine ⟨_, rfl, HSu6, ?_⟩
      try simp only [Act.put, List.setIfInBounds_toArray, List.set_cons_zero, List.set_cons_succ]
      clear HS bu6
      have HS := HSu6
      clear HSu6
      refine FirstH.goG (i := 33) (v := .int .i64 0) rfl (by kernel_rfl) _ rfl _ rfl (by kernel_rfl) (fun _ _ _ h => h) inv (fun X _ => by unfold bareO; go_simp) HS (fun inv => ?_)
      try simp only [Act.put, List.setIfInBounds_toArray, List.set_cons_zero, List.set_cons_succ]
      refine FirstH.only (i := 35) (by kernel_rfl) (by decide) inv (fun inv => wpOp_callG (i := 35) rfl (by kernel_rfl) 61 rfl _ rfl 23 #[.pointer po] (by unfold bareO; go_simp) (TL.out _ _ (NO.out.below HS)) ?_)
      rintro e u7 ⟨rfl, bu7⟩
      have HSu7 := HS.trans (bu7.mono HS.size)
      refine ⟨_, rfl, HSu7, ?_⟩
      try simp only [Act.put, List.setIfInBounds_toArray, List.set_cons_zero, List.set_cons_succ]
      clear HS bu7
      have HS := HSu7
      clear HSu7
      refine FirstH.goG (i := 36) (v := .int .i64 0) rfl (by kernel_rfl) _ rfl _ rfl (by kernel_rfl) (fun _ _ _ h => h) inv (fun X _ => by unfold bareO; go_simp; rfl) HS (fun inv => ?_)
      try simp only [Act.put, List.setIfInBounds_toArray, List.set_cons_zero, List.set_cons_succ]
      refine FirstH.goG (i := 37) (v := .bool false) rfl (by kernel_rfl) _ rfl _ rfl (by kernel_rfl) (fun _ _ _ h => h) inv (fun X _ => by unfold bareO; go_simp) HS (fun inv => ?_)
      try simp only [Act.put, List.setIfInBounds_toArray, List.set_cons_zero, List.set_cons_succ]
      have BB7 := Lib.hid (BB3.out.trans (HS.mono BB3.out.size))
      clear HS
      refine ⟨by kernel_rfl, ?_⟩
      simp only [List.drop_succ_cons, List.drop_zero]
      obtain ⟨w8, hw8⟩ : ∃ X, u7.alloc (.cells #[.int .i64 0, .map none] 74) = X := ⟨_, rfl⟩
      have HW8 := Lib.hid hw8
      have BB8 := Lib.hid (show Below W1.heap.size W1 w8 from by rw [← hw8]; exact BB7.out.alloc BB7.out.size _)
      have NO8 : Hid (NoW w8 (some ⟨u7.heap.size, 0, none⟩)) := Lib.hid (.inr ⟨_, rfl, by rw [← hw8]; exact heap_alloc_new _ _⟩)
      clear hw8
      go_wp2_with (rw [HW8.out])
      go_roundw
      case rel => exact ⟨k + 1, by omega, by go_num, _, rfl, NO8, BB8⟩
      case measure => simp [intOf]; omega
    · obtain rfl : k = 2 := by omega
      go_wp2_with fail
      refine (KK.out _).mono ?_
      rintro e w2 ⟨rfl, d2⟩
      have B2 := Lib.hid (B1.out.trans ((B0.out.mono B1.out.size).trans (d2.mono (by have := B0.out.size; have := B1.out.size; omega))))
      clear d2
      go_wp2
      go_ret
      exact ⟨rfl, B2.out⟩

end Go.Proofs.Ytfekkfphogjpeaa
