/-
  The wheel's Set and Cancel: by exact answers. Condition: the wheel lies in memory, each number of a key fits its kind.
-/
import Derived.Test.YtfekkfphogjpeaaYsm
namespace Go.Proofs.Ytfekkfphogjpeaa
set_option linter.unusedSimpArgs false
set_option linter.unusedVariables false
open Go.RowKit Go.Maps Go.Sort

theorem grown_trans {a b c : World} {row : Option Nat} (h : Below a.heap.size a b) (k : b.grownBy c row) : a.grownBy c row := (grown_of_below h row).trans k
set_option maxRecDepth 100000 in
set_option maxHeartbeats 1000000 in
theorem set_there (W : World) (b m c most : Nat) (T : List Tm) (x : K13) (at_ : Int) (rx : x.Rng) (h : PW W b m c most T) (hc : c < 1000000000) (hx : ∃ t ∈ T, t.k = x) :
    Calls Try.prog 11 #[.pointer (some ⟨b, 0, none⟩), .agg x.cs, .int .i64 at_] W fun e W' => e = .returned (.int .i64 0) ∧ PW W' b m (c + 1) most (⟨at_, x⟩ :: outK T x) ∧ W.grownBy W' (some m) := by
  obtain ⟨W1, hW1⟩ : ∃ W1, W.alloc (.cells x.cs 50) = W1 := ⟨_, rfl⟩
  have b1 : Below W.heap.size W W1 := by rw [← hW1]; exact (Below.refl _ _).alloc (Nat.le_refl _) _
  have r1 : W1.heap[W.heap.size]? = some (.cells x.cs 50 (0, 0)) := by rw [← hW1]; exact heap_alloc_new _ _
  have h1 := h.below b1
  have K := Lib.hid (atW W1 b m c most T x rx h1)
  have hsz : (Try.prog.info? 50).map (·.size) = some x.cs.size := by kernel_rfl
  have hkey := Lib.hid (keyCs rx)
  have HP := Lib.hid h1
  have ll := (Array.getElem?_eq_some_iff.1 r1).1
  obtain ⟨cs, hcs⟩ : ∃ cs, x.cs = cs := ⟨_, rfl⟩
  rw [hcs] at K hsz hW1 r1 hkey
  rw [hcs]
  have R1 := Lib.hid r1
  have HW := Lib.hid hW1
  have B1 := Lib.hid b1
  have HZ := Lib.hid hsz
  have L1 := Lib.hid ll
  generalize (fAt T x).1 = q1 at K
  have hq : (fAt T x).2 = true := by
    obtain ⟨t, ht, rfl⟩ := hx
    rw [fAt_yes h.apart ht]
  rw [hq] at K
  have RX := Lib.hid rx
  have HC := Lib.hid hc
  have hmn : ∀ (w : World) (r : Option Nat), (binOp .eql 72 (.map r) (.map none)).run Try.prog w = .ok (.bool r.isNone) w := fun w r => run_eql_map_nil w _ _ _ r mapU
  have c1 := cell_of h1.whl 1 (.map (some m)) rfl
  clear h h1 hW1 b1 r1 hcs hsz ll hx hq rx hc
  go_enter Try.func11, Try.ntmps11
  go_wp2_with (first | (refine wpList_bx rfl 50 (.tmp 1) rfl 4 rfl cs rfl ?_; rw [HW.out]) | (refine wpList_load_row rfl 50 (.tmp 4) rfl W.heap.size (by rfl) 50 cs (0, 0) _ R1.out Try.underlying50 rfl HZ.out ?_))
  clear c1
  refine K.out.mono ?_
  rintro e W2 ⟨rfl, b2⟩
  clear K
  have R2 := Lib.hid ((b2.block _ L1.out).trans R1.out)
  have P2 := Lib.hid (HP.out.below b2)
  have B2 := Lib.hid (B1.out.trans (b2.mono B1.out.size))
  clear b2
  have c0 := cell_of P2.out.whl 0 (.int .i64 most) rfl
  go_wp2_with fail
  have t0 := cell_regrown c0
  clear c0
  have LL : ∀ d os, Calls Try.prog 23 #[.pointer (some ⟨b, 0, none⟩)] (grow (redrawn W2 d) os) fun e w' => e = .returned (.int .i64 T.length) ∧ Below (grow (redrawn W2 d) os).heap.size (grow (redrawn W2 d) os) w' := fun d os =>
    (lenW (grow (redrawn W2 d) os) b m c most T (P2.out.below (below_regrown W2 d os))).mono fun _ _ ⟨he, hw⟩ => ⟨he, hw ▸ Below.refl _ _⟩
  have LH := Lib.hid LL
  clear LL
  generalize hn : (T.length : Int) = n at LH
  refine wp_region_quiet_below (by kernel_rfl) (by kernel_rfl) ?_
  repeat (go_big_quiet_step (first | (go_at_call 23; exact Calls.regrown_of (LH.out _ _)) | fail))
  refine wpQuiet_nil ?_
  rintro W3 ⟨p, rfl⟩
  have b3 := below_regrown W2 p.d p.os
  generalize grow (redrawn W2 p.d) p.os = W3 at b3 ⊢
  clear t0 LH
  have P3 := P2.out.below b3
  have R3 := (b3.block _ (Array.getElem?_eq_some_iff.1 R2.out).1).trans R2.out
  have B3 := Lib.hid (B2.out.trans (b3.mono B2.out.size))
  clear b3
  obtain ⟨W5, hW5⟩ : ∃ X, W3.drew = X := ⟨_, rfl⟩
  have b5 : Below W3.heap.size W3 W5 := by rw [← hW5]; exact (Below.refl _ _).drew
  have P5 := P3.below b5
  have R5 : W5.heap[W.heap.size]? = some (.cells cs 50 (0, 0)) := by rw [← hW5]; exact R3
  obtain ⟨nn, D, hk, O, KM⟩ := P5.map
  obtain ⟨W6, hrun, O6, hturn⟩ := O.store kKeyed mapU (by have := HC.out; unfold maxLen; omega) hkey.out (atElem_mk at_)
  have KM6 := KM.put (O.tidy kKeyed) O.isMap ⟨at_, x⟩ RX.out
  have hg : W.grownBy W6 (some m) := grown_trans (B3.out.trans (b5.mono B3.out.size)) hturn.grown
  have F6 := Lib.hid (show PW W6 b m (c + 1) most (⟨at_, x⟩ :: outK T x) from ⟨(hturn.grown.block b P5.bl (by have := P5.ne; simpa using this)).trans P5.whl, ⟨nn + 1, _, by omega, O6, KM6⟩, P5.most⟩)
  have G6 := Lib.hid hg
  have HW5 := Lib.hid hW5
  have HR := Lib.hid hrun
  have HH : W5.heap[b]? = some (.cells #[.int .i64 most, .map (some m)] 74 (0, 0)) ∧ W5.heap[W.heap.size]? = some (.cells cs 50 (0, 0)) := ⟨P5.whl, R5⟩
  clear P3 R3 P5 R5 O KM O6 KM6 hturn hg hrun hW5 b5
  go_wp2
  refine region_heldT (S := fun X => X = W5) 6 (by kernel_rfl) (by decide) (fun inv => ?_)
  change FirstH _ _ _ _ _ _ _ _ _ _ W3.drew
  rw [HW5.out]
  have HS : W5 = W5 := rfl
  refine FirstH.go (i := 0) (v := .pointer (some ⟨b, 0, none⟩)) rfl rfl _ rfl _ rfl (by kernel_rfl) (fun _ _ _ h => h) inv (fun X _ => by unfold bareO; go_simp) HS (fun inv => ?_)
  try simp only [Act.put, List.setIfInBounds_toArray, List.set_cons_zero, List.set_cons_succ]
  refine FirstH.go (i := 1) (v := .pointer (some ⟨b, 0, none⟩)) rfl rfl _ rfl _ rfl (by kernel_rfl) (fun _ _ _ h => h) inv (fun X _ => by unfold bareO; go_simp) HS (fun inv => ?_)
  try simp only [Act.put, List.setIfInBounds_toArray, List.set_cons_zero, List.set_cons_succ]
  refine FirstH.go (i := 2) (v := .pointer (some ⟨b, 1, none⟩)) rfl rfl _ rfl _ rfl (by kernel_rfl) (fun _ _ _ h => h) inv (fun X _ => by unfold bareO; go_simp) HS (fun inv => ?_)
  try simp only [Act.put, List.setIfInBounds_toArray, List.set_cons_zero, List.set_cons_succ]
  refine FirstH.go (i := 3) (v := .map (some m)) rfl rfl _ rfl _ rfl (by kernel_rfl) (fun _ _ _ h => h) inv (fun X hS => by subst hS; have c1 := cell_of HH.1 1 (.map (some m)) rfl; unfold bareO; go_simp) HS (fun inv => ?_)
  try simp only [Act.put, List.setIfInBounds_toArray, List.set_cons_zero, List.set_cons_succ]
  refine FirstH.go (i := 4) (v := .agg cs) rfl rfl _ rfl _ rfl (by kernel_rfl) (fun _ _ _ h => h) inv (fun X hS => by subst hS; exact run_load_row 50 _ _ W.heap.size rfl _ _ _ _ HH.2 Try.underlying50 rfl HZ.out) HS (fun inv => ?_)
  try simp only [Act.put, List.setIfInBounds_toArray, List.set_cons_zero, List.set_cons_succ]
  refine FirstH.go (i := 5) (v := .int .i64 at_) rfl rfl _ rfl _ rfl (by kernel_rfl) (fun _ _ _ h => h) inv (fun X _ => by unfold bareO; go_simp) HS (fun inv => ?_)
  try simp only [Act.put, List.setIfInBounds_toArray, List.set_cons_zero, List.set_cons_succ]
  clear HS
  refine ⟨by kernel_rfl, ?_⟩
  simp only [List.drop_succ_cons, List.drop_zero]
  have hr := HR.out
  go_wp2
  go_ret
  exact ⟨rfl, F6.out, G6.out⟩

set_option maxRecDepth 100000 in
set_option maxHeartbeats 1000000 in
theorem set_new (W : World) (b m c most : Nat) (T : List Tm) (x : K13) (at_ : Int) (rx : x.Rng) (h : PW W b m c most T) (hc : c < 1000000000) (hx : ∀ t ∈ T, t.k ≠ x) (hl : T.length < most) :
    Calls Try.prog 11 #[.pointer (some ⟨b, 0, none⟩), .agg x.cs, .int .i64 at_] W fun e W' => e = .returned (.int .i64 0) ∧ PW W' b m (c + 1) most (⟨at_, x⟩ :: outK T x) ∧ W.grownBy W' (some m) := by
  obtain ⟨W1, hW1⟩ : ∃ W1, W.alloc (.cells x.cs 50) = W1 := ⟨_, rfl⟩
  have b1 : Below W.heap.size W W1 := by rw [← hW1]; exact (Below.refl _ _).alloc (Nat.le_refl _) _
  have r1 : W1.heap[W.heap.size]? = some (.cells x.cs 50 (0, 0)) := by rw [← hW1]; exact heap_alloc_new _ _
  have h1 := h.below b1
  have K := Lib.hid (atW W1 b m c most T x rx h1)
  have hsz : (Try.prog.info? 50).map (·.size) = some x.cs.size := by kernel_rfl
  have hkey := Lib.hid (keyCs rx)
  have HP := Lib.hid h1
  have ll := (Array.getElem?_eq_some_iff.1 r1).1
  obtain ⟨cs, hcs⟩ : ∃ cs, x.cs = cs := ⟨_, rfl⟩
  rw [hcs] at K hsz hW1 r1 hkey
  rw [hcs]
  have R1 := Lib.hid r1
  have HW := Lib.hid hW1
  have B1 := Lib.hid b1
  have HZ := Lib.hid hsz
  have L1 := Lib.hid ll
  generalize (fAt T x).1 = q1 at K
  have hq : (fAt T x).2 = false := by rw [fAt_no hx]
  rw [hq] at K
  have RX := Lib.hid rx
  have HC := Lib.hid hc
  have HL : (¬ (most : Int) ≤ (T.length : Int)) := by omega
  have hmn : ∀ (w : World) (r : Option Nat), (binOp .eql 72 (.map r) (.map none)).run Try.prog w = .ok (.bool r.isNone) w := fun w r => run_eql_map_nil w _ _ _ r mapU
  have c1 := cell_of h1.whl 1 (.map (some m)) rfl
  clear h h1 hW1 b1 r1 hcs hsz ll hx hq rx hc
  go_enter Try.func11, Try.ntmps11
  go_wp2_with (first | (refine wpList_bx rfl 50 (.tmp 1) rfl 4 rfl cs rfl ?_; rw [HW.out]) | (refine wpList_load_row rfl 50 (.tmp 4) rfl W.heap.size (by rfl) 50 cs (0, 0) _ R1.out Try.underlying50 rfl HZ.out ?_))
  clear c1
  refine K.out.mono ?_
  rintro e W2 ⟨rfl, b2⟩
  clear K
  have R2 := Lib.hid ((b2.block _ L1.out).trans R1.out)
  have P2 := Lib.hid (HP.out.below b2)
  have B2 := Lib.hid (B1.out.trans (b2.mono B1.out.size))
  clear b2
  have c0 := cell_of P2.out.whl 0 (.int .i64 most) rfl
  go_wp2_with fail
  have t0 := cell_regrown c0
  clear c0
  have LL : ∀ d os, Calls Try.prog 23 #[.pointer (some ⟨b, 0, none⟩)] (grow (redrawn W2 d) os) fun e w' => e = .returned (.int .i64 T.length) ∧ Below (grow (redrawn W2 d) os).heap.size (grow (redrawn W2 d) os) w' := fun d os =>
    (lenW (grow (redrawn W2 d) os) b m c most T (P2.out.below (below_regrown W2 d os))).mono fun _ _ ⟨he, hw⟩ => ⟨he, hw ▸ Below.refl _ _⟩
  have LH := Lib.hid LL
  clear LL
  generalize hn : (T.length : Int) = n at LH HL
  refine wp_region_quiet_below (by kernel_rfl) (by kernel_rfl) ?_
  repeat (go_big_quiet_step (first | (go_at_call 23; exact Calls.regrown_of (LH.out _ _)) | fail))
  refine wpQuiet_nil ?_
  rintro W3 ⟨p, rfl⟩
  have b3 := below_regrown W2 p.d p.os
  generalize grow (redrawn W2 p.d) p.os = W3 at b3 ⊢
  clear t0 LH
  have P3 := P2.out.below b3
  have R3 := (b3.block _ (Array.getElem?_eq_some_iff.1 R2.out).1).trans R2.out
  have B3 := Lib.hid (B2.out.trans (b3.mono B2.out.size))
  clear b3
  obtain ⟨W5, hW5⟩ : ∃ X, W3.drew = X := ⟨_, rfl⟩
  have b5 : Below W3.heap.size W3 W5 := by rw [← hW5]; exact (Below.refl _ _).drew
  have P5 := P3.below b5
  have R5 : W5.heap[W.heap.size]? = some (.cells cs 50 (0, 0)) := by rw [← hW5]; exact R3
  obtain ⟨nn, D, hk, O, KM⟩ := P5.map
  obtain ⟨W6, hrun, O6, hturn⟩ := O.store kKeyed mapU (by have := HC.out; unfold maxLen; omega) hkey.out (atElem_mk at_)
  have KM6 := KM.put (O.tidy kKeyed) O.isMap ⟨at_, x⟩ RX.out
  have hg : W.grownBy W6 (some m) := grown_trans (B3.out.trans (b5.mono B3.out.size)) hturn.grown
  have F6 := Lib.hid (show PW W6 b m (c + 1) most (⟨at_, x⟩ :: outK T x) from ⟨(hturn.grown.block b P5.bl (by have := P5.ne; simpa using this)).trans P5.whl, ⟨nn + 1, _, by omega, O6, KM6⟩, P5.most⟩)
  have G6 := Lib.hid hg
  have HW5 := Lib.hid hW5
  have HR := Lib.hid hrun
  have HH : W5.heap[b]? = some (.cells #[.int .i64 most, .map (some m)] 74 (0, 0)) ∧ W5.heap[W.heap.size]? = some (.cells cs 50 (0, 0)) := ⟨P5.whl, R5⟩
  clear P3 R3 P5 R5 O KM O6 KM6 hturn hg hrun hW5 b5
  go_wp2
  refine region_heldT (S := fun X => X = W5) 6 (by kernel_rfl) (by decide) (fun inv => ?_)
  change FirstH _ _ _ _ _ _ _ _ _ _ W3.drew
  rw [HW5.out]
  have HS : W5 = W5 := rfl
  refine FirstH.go (i := 0) (v := .pointer (some ⟨b, 0, none⟩)) rfl rfl _ rfl _ rfl (by kernel_rfl) (fun _ _ _ h => h) inv (fun X _ => by unfold bareO; go_simp) HS (fun inv => ?_)
  try simp only [Act.put, List.setIfInBounds_toArray, List.set_cons_zero, List.set_cons_succ]
  refine FirstH.go (i := 1) (v := .pointer (some ⟨b, 0, none⟩)) rfl rfl _ rfl _ rfl (by kernel_rfl) (fun _ _ _ h => h) inv (fun X _ => by unfold bareO; go_simp) HS (fun inv => ?_)
  try simp only [Act.put, List.setIfInBounds_toArray, List.set_cons_zero, List.set_cons_succ]
  refine FirstH.go (i := 2) (v := .pointer (some ⟨b, 1, none⟩)) rfl rfl _ rfl _ rfl (by kernel_rfl) (fun _ _ _ h => h) inv (fun X _ => by unfold bareO; go_simp) HS (fun inv => ?_)
  try simp only [Act.put, List.setIfInBounds_toArray, List.set_cons_zero, List.set_cons_succ]
  refine FirstH.go (i := 3) (v := .map (some m)) rfl rfl _ rfl _ rfl (by kernel_rfl) (fun _ _ _ h => h) inv (fun X hS => by subst hS; have c1 := cell_of HH.1 1 (.map (some m)) rfl; unfold bareO; go_simp) HS (fun inv => ?_)
  try simp only [Act.put, List.setIfInBounds_toArray, List.set_cons_zero, List.set_cons_succ]
  refine FirstH.go (i := 4) (v := .agg cs) rfl rfl _ rfl _ rfl (by kernel_rfl) (fun _ _ _ h => h) inv (fun X hS => by subst hS; exact run_load_row 50 _ _ W.heap.size rfl _ _ _ _ HH.2 Try.underlying50 rfl HZ.out) HS (fun inv => ?_)
  try simp only [Act.put, List.setIfInBounds_toArray, List.set_cons_zero, List.set_cons_succ]
  refine FirstH.go (i := 5) (v := .int .i64 at_) rfl rfl _ rfl _ rfl (by kernel_rfl) (fun _ _ _ h => h) inv (fun X _ => by unfold bareO; go_simp) HS (fun inv => ?_)
  try simp only [Act.put, List.setIfInBounds_toArray, List.set_cons_zero, List.set_cons_succ]
  clear HS
  refine ⟨by kernel_rfl, ?_⟩
  simp only [List.drop_succ_cons, List.drop_zero]
  have hr := HR.out
  go_wp2
  go_ret
  exact ⟨rfl, F6.out, G6.out⟩

set_option maxRecDepth 100000 in
set_option maxHeartbeats 1000000 in
theorem set_full (W : World) (b m c most : Nat) (T : List Tm) (x : K13) (at_ : Int) (rx : x.Rng) (h : PW W b m c most T) (hc : c < 1000000000) (hx : ∀ t ∈ T, t.k ≠ x) (hl : most ≤ T.length) :
    Calls Try.prog 11 #[.pointer (some ⟨b, 0, none⟩), .agg x.cs, .int .i64 at_] W fun e W' => e = .returned (.int .i64 11) ∧ Below W.heap.size W W' := by
  obtain ⟨W1, hW1⟩ : ∃ W1, W.alloc (.cells x.cs 50) = W1 := ⟨_, rfl⟩
  have b1 : Below W.heap.size W W1 := by rw [← hW1]; exact (Below.refl _ _).alloc (Nat.le_refl _) _
  have r1 : W1.heap[W.heap.size]? = some (.cells x.cs 50 (0, 0)) := by rw [← hW1]; exact heap_alloc_new _ _
  have h1 := h.below b1
  have K := Lib.hid (atW W1 b m c most T x rx h1)
  have hsz : (Try.prog.info? 50).map (·.size) = some x.cs.size := by kernel_rfl
  have hkey := Lib.hid (keyCs rx)
  have HP := Lib.hid h1
  have ll := (Array.getElem?_eq_some_iff.1 r1).1
  obtain ⟨cs, hcs⟩ : ∃ cs, x.cs = cs := ⟨_, rfl⟩
  rw [hcs] at K hsz hW1 r1 hkey
  rw [hcs]
  have R1 := Lib.hid r1
  have HW := Lib.hid hW1
  have B1 := Lib.hid b1
  have HZ := Lib.hid hsz
  have L1 := Lib.hid ll
  generalize (fAt T x).1 = q1 at K
  have hq : (fAt T x).2 = false := by rw [fAt_no hx]
  rw [hq] at K
  have RX := Lib.hid rx
  have HC := Lib.hid hc
  have HL : ((most : Int) ≤ (T.length : Int)) := by omega
  have hmn : ∀ (w : World) (r : Option Nat), (binOp .eql 72 (.map r) (.map none)).run Try.prog w = .ok (.bool r.isNone) w := fun w r => run_eql_map_nil w _ _ _ r mapU
  have c1 := cell_of h1.whl 1 (.map (some m)) rfl
  clear h h1 hW1 b1 r1 hcs hsz ll hx hq rx hc
  go_enter Try.func11, Try.ntmps11
  go_wp2_with (first | (refine wpList_bx rfl 50 (.tmp 1) rfl 4 rfl cs rfl ?_; rw [HW.out]) | (refine wpList_load_row rfl 50 (.tmp 4) rfl W.heap.size (by rfl) 50 cs (0, 0) _ R1.out Try.underlying50 rfl HZ.out ?_))
  clear c1
  refine K.out.mono ?_
  rintro e W2 ⟨rfl, b2⟩
  clear K
  have R2 := Lib.hid ((b2.block _ L1.out).trans R1.out)
  have P2 := Lib.hid (HP.out.below b2)
  have B2 := Lib.hid (B1.out.trans (b2.mono B1.out.size))
  clear b2
  have c0 := cell_of P2.out.whl 0 (.int .i64 most) rfl
  go_wp2_with fail
  have t0 := cell_regrown c0
  clear c0
  have LL : ∀ d os, Calls Try.prog 23 #[.pointer (some ⟨b, 0, none⟩)] (grow (redrawn W2 d) os) fun e w' => e = .returned (.int .i64 T.length) ∧ Below (grow (redrawn W2 d) os).heap.size (grow (redrawn W2 d) os) w' := fun d os =>
    (lenW (grow (redrawn W2 d) os) b m c most T (P2.out.below (below_regrown W2 d os))).mono fun _ _ ⟨he, hw⟩ => ⟨he, hw ▸ Below.refl _ _⟩
  have LH := Lib.hid LL
  clear LL
  generalize hn : (T.length : Int) = n at LH HL
  refine wp_region_quiet_below (by kernel_rfl) (by kernel_rfl) ?_
  repeat (go_big_quiet_step (first | (go_at_call 23; exact Calls.regrown_of (LH.out _ _)) | fail))
  refine wpQuiet_nil ?_
  rintro W3 ⟨p, rfl⟩
  have b3 := below_regrown W2 p.d p.os
  generalize grow (redrawn W2 p.d) p.os = W3 at b3 ⊢
  clear t0 LH
  have P3 := P2.out.below b3
  have R3 := (b3.block _ (Array.getElem?_eq_some_iff.1 R2.out).1).trans R2.out
  have B3 := Lib.hid (B2.out.trans (b3.mono B2.out.size))
  clear b3
  clear P3 R3
  go_wp2
  go_ret
  exact ⟨rfl, B3.out⟩

set_option maxRecDepth 100000 in
set_option maxHeartbeats 1000000 in
theorem cancel_no (W : World) (b m c most : Nat) (T : List Tm) (x : K13) (rx : x.Rng) (h : PW W b m c most T) (hx : ∀ t ∈ T, t.k ≠ x) :
    Calls Try.prog 14 #[.pointer (some ⟨b, 0, none⟩), .agg x.cs] W fun e W' => e = .returned (.bool false) ∧ Below W.heap.size W W' := by
  obtain ⟨W1, hW1⟩ : ∃ W1, W.alloc (.cells x.cs 50) = W1 := ⟨_, rfl⟩
  have b1 : Below W.heap.size W W1 := by rw [← hW1]; exact (Below.refl _ _).alloc (Nat.le_refl _) _
  have r1 : W1.heap[W.heap.size]? = some (.cells x.cs 50 (0, 0)) := by rw [← hW1]; exact heap_alloc_new _ _
  have h1 := h.below b1
  have K := Lib.hid (atW W1 b m c most T x rx h1)
  have hsz : (Try.prog.info? 50).map (·.size) = some x.cs.size := by kernel_rfl
  have hkey := Lib.hid (keyCs rx)
  have HP := Lib.hid h1
  have ll := (Array.getElem?_eq_some_iff.1 r1).1
  obtain ⟨cs, hcs⟩ : ∃ cs, x.cs = cs := ⟨_, rfl⟩
  rw [hcs] at K hsz hW1 r1 hkey
  rw [hcs]
  have R1 := Lib.hid r1
  have HW := Lib.hid hW1
  have B1 := Lib.hid b1
  have HZ := Lib.hid hsz
  have L1 := Lib.hid ll
  generalize (fAt T x).1 = q1 at K
  have hq : (fAt T x).2 = false := by rw [fAt_no hx]
  rw [hq] at K
  have RX := Lib.hid rx
  clear h h1 hW1 b1 r1 hcs hsz ll hx hq rx
  go_enter Try.func14, Try.ntmps14
  go_wp2_with (first | (refine wpList_bx rfl 50 (.tmp 1) rfl 3 rfl cs rfl ?_; rw [HW.out]) | (refine wpList_load_row rfl 50 (.tmp 3) rfl W.heap.size (by rfl) 50 cs (0, 0) _ R1.out Try.underlying50 rfl HZ.out ?_))
  refine K.out.mono ?_
  rintro e W2 ⟨rfl, b2⟩
  clear K
  have R2 := Lib.hid ((b2.block _ L1.out).trans R1.out)
  have P2 := Lib.hid (HP.out.below b2)
  have B2 := Lib.hid (B1.out.trans (b2.mono B1.out.size))
  clear b2
  go_wp2
  go_ret
  exact ⟨rfl, B2.out⟩

set_option maxRecDepth 100000 in
set_option maxHeartbeats 1000000 in
theorem cancel_yes (W : World) (b m c most : Nat) (T : List Tm) (x : K13) (rx : x.Rng) (h : PW W b m c most T) (hx : ∃ t ∈ T, t.k = x) :
    Calls Try.prog 14 #[.pointer (some ⟨b, 0, none⟩), .agg x.cs] W fun e W' => e = .returned (.bool true) ∧ PW W' b m c most (outK T x) ∧ W.grownBy W' (some m) := by
  obtain ⟨W1, hW1⟩ : ∃ W1, W.alloc (.cells x.cs 50) = W1 := ⟨_, rfl⟩
  have b1 : Below W.heap.size W W1 := by rw [← hW1]; exact (Below.refl _ _).alloc (Nat.le_refl _) _
  have r1 : W1.heap[W.heap.size]? = some (.cells x.cs 50 (0, 0)) := by rw [← hW1]; exact heap_alloc_new _ _
  have h1 := h.below b1
  have K := Lib.hid (atW W1 b m c most T x rx h1)
  have hsz : (Try.prog.info? 50).map (·.size) = some x.cs.size := by kernel_rfl
  have hkey := Lib.hid (keyCs rx)
  have HP := Lib.hid h1
  have ll := (Array.getElem?_eq_some_iff.1 r1).1
  obtain ⟨cs, hcs⟩ : ∃ cs, x.cs = cs := ⟨_, rfl⟩
  rw [hcs] at K hsz hW1 r1 hkey
  rw [hcs]
  have R1 := Lib.hid r1
  have HW := Lib.hid hW1
  have B1 := Lib.hid b1
  have HZ := Lib.hid hsz
  have L1 := Lib.hid ll
  generalize (fAt T x).1 = q1 at K
  have hq : (fAt T x).2 = true := by
    obtain ⟨t, ht, rfl⟩ := hx
    rw [fAt_yes h.apart ht]
  rw [hq] at K
  have RX := Lib.hid rx
  clear h h1 hW1 b1 r1 hcs hsz ll hx hq rx
  go_enter Try.func14, Try.ntmps14
  go_wp2_with (first | (refine wpList_bx rfl 50 (.tmp 1) rfl 3 rfl cs rfl ?_; rw [HW.out]) | (refine wpList_load_row rfl 50 (.tmp 3) rfl W.heap.size (by rfl) 50 cs (0, 0) _ R1.out Try.underlying50 rfl HZ.out ?_))
  refine K.out.mono ?_
  rintro e W2 ⟨rfl, b2⟩
  clear K
  have R2 := Lib.hid ((b2.block _ L1.out).trans R1.out)
  have P2 := Lib.hid (HP.out.below b2)
  have B2 := Lib.hid (B1.out.trans (b2.mono B1.out.size))
  clear b2
  obtain ⟨W5, hW5⟩ : ∃ X, W2.drew = X := ⟨_, rfl⟩
  have b5 : Below W2.heap.size W2 W5 := by rw [← hW5]; exact (Below.refl _ _).drew
  have P5 := P2.out.below b5
  have R5 : W5.heap[W.heap.size]? = some (.cells cs 50 (0, 0)) := by rw [← hW5]; exact R2.out
  obtain ⟨nn, D, hk, O, KM⟩ := P5.map
  obtain ⟨W6, hrun, O6, hturn⟩ := O.drop kKeyed mapU hkey.out 0
  have KM6 := KM.del (O.tidy kKeyed) RX.out
  have hg : W.grownBy W6 (some m) := grown_trans (B2.out.trans (b5.mono B2.out.size)) hturn.grown
  have F6 := Lib.hid (show PW W6 b m c most (outK T x) from ⟨(hturn.grown.block b P5.bl (by have := P5.ne; simpa using this)).trans P5.whl, ⟨nn, _, hk, O6, KM6⟩, P5.most⟩)
  have G6 := Lib.hid hg
  have HW5 := Lib.hid hW5
  have HR := Lib.hid hrun
  have HH : W5.heap[b]? = some (.cells #[.int .i64 most, .map (some m)] 74 (0, 0)) ∧ W5.heap[W.heap.size]? = some (.cells cs 50 (0, 0)) := ⟨P5.whl, R5⟩
  clear P5 R5 O KM O6 KM6 hturn hg hrun hW5 b5
  go_wp2
  refine region_heldT (S := fun X => X = W5) 5 (by kernel_rfl) (by decide) (fun inv => ?_)
  change FirstH _ _ _ _ _ _ _ _ _ _ W2.drew
  rw [HW5.out]
  have HS : W5 = W5 := rfl
  refine FirstH.go (i := 0) (v := .pointer (some ⟨b, 0, none⟩)) rfl rfl _ rfl _ rfl (by kernel_rfl) (fun _ _ _ h => h) inv (fun X _ => by unfold bareO; go_simp) HS (fun inv => ?_)
  try simp only [Act.put, List.setIfInBounds_toArray, List.set_cons_zero, List.set_cons_succ]
  refine FirstH.go (i := 1) (v := .pointer (some ⟨b, 0, none⟩)) rfl rfl _ rfl _ rfl (by kernel_rfl) (fun _ _ _ h => h) inv (fun X _ => by unfold bareO; go_simp) HS (fun inv => ?_)
  try simp only [Act.put, List.setIfInBounds_toArray, List.set_cons_zero, List.set_cons_succ]
  refine FirstH.go (i := 2) (v := .pointer (some ⟨b, 1, none⟩)) rfl rfl _ rfl _ rfl (by kernel_rfl) (fun _ _ _ h => h) inv (fun X _ => by unfold bareO; go_simp) HS (fun inv => ?_)
  try simp only [Act.put, List.setIfInBounds_toArray, List.set_cons_zero, List.set_cons_succ]
  refine FirstH.go (i := 3) (v := .map (some m)) rfl rfl _ rfl _ rfl (by kernel_rfl) (fun _ _ _ h => h) inv (fun X hS => by subst hS; have c1 := cell_of HH.1 1 (.map (some m)) rfl; unfold bareO; go_simp) HS (fun inv => ?_)
  try simp only [Act.put, List.setIfInBounds_toArray, List.set_cons_zero, List.set_cons_succ]
  refine FirstH.go (i := 4) (v := .agg cs) rfl rfl _ rfl _ rfl (by kernel_rfl) (fun _ _ _ h => h) inv (fun X hS => by subst hS; exact run_load_row 50 _ _ W.heap.size rfl _ _ _ _ HH.2 Try.underlying50 rfl HZ.out) HS (fun inv => ?_)
  try simp only [Act.put, List.setIfInBounds_toArray, List.set_cons_zero, List.set_cons_succ]
  clear HS
  refine ⟨by kernel_rfl, ?_⟩
  simp only [List.drop_succ_cons, List.drop_zero]
  have hr := HR.out
  go_wp2
  go_ret
  exact ⟨rfl, F6.out, G6.out⟩

end Go.Proofs.Ytfekkfphogjpeaa
