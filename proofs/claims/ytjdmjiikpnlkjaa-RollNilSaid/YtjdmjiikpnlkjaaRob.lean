/-
  The program's order: made, leads, has, and the small looks, by exact answers. Condition: it lies in memory.
-/
import Derived.Test.YtjdmjiikpnlkjaaRoa
import Derived.Test.YtjdmjiikpnlkjaaVix
import Derived.Test.YtjdmjiikpnlkjaaVfi
namespace Go.Proofs.Ytjdmjiikpnlkjaa
set_option linter.unusedSimpArgs false
set_option linter.unusedVariables false
open Go.RowKit Go.Maps Go.Sort
open V (P2)

theorem neqMapT (W : World) (r : Option Nat) : (binOp .neq 79 (.map r) (.map none)).run Try.prog W = .ok (.bool (!r.isNone)) W := by
  cases r <;> kernel_rfl
set_option maxRecDepth 100000 in
set_option maxHeartbeats 2000000 in
theorem rMade (W : World) (b m : Nat) (lb : Option Nat) (d : Rd) (h : RP W b m lb d) :
    Calls Try.prog 32 #[.pointer (some ⟨b, 0, none⟩)] W fun e W' => e = .returned (.bool true) ∧ W = W' := by
  obtain ⟨w, hlb, h⟩ := h
  have c9 := cell_of h.blk 9 (.map (some m)) rfl
  clear h
  have hm := neqMapT
  go_enter Try.func32, Try.ntmps32
  go_wp2
  go_ret
  exact ⟨rfl, rfl⟩
set_option maxRecDepth 100000 in
set_option maxHeartbeats 2000000 in
theorem rBase (W : World) (b m : Nat) (lb : Option Nat) (d : Rd) (h : RP W b m lb d) :
    Calls Try.prog 28 #[.pointer (some ⟨b, 0, none⟩)] W fun e W' => e = .returned (.int .i64 d.base) ∧ W = W' := by
  have K1 := Lib.hid (rMade W b m lb d h)
  obtain ⟨w, hlb, h⟩ := h
  have c4 := cell_of h.blk 6 (.int .i64 d.base) rfl
  clear h hlb
  go_enter Try.func28, Try.ntmps28
  go_wp2_with (go_at_call 32; refine K1.out.mono ?_; rintro e w1 ⟨rfl, rfl⟩)
  go_ret
  exact ⟨rfl, rfl⟩
set_option maxRecDepth 100000 in
set_option maxHeartbeats 2000000 in
theorem rCommit (W : World) (b m : Nat) (lb : Option Nat) (d : Rd) (h : RP W b m lb d) :
    Calls Try.prog 13 #[.pointer (some ⟨b, 0, none⟩)] W fun e W' => e = .returned (.int .i64 d.commit) ∧ W = W' := by
  have K1 := Lib.hid (rMade W b m lb d h)
  obtain ⟨w, hlb, h⟩ := h
  have c4 := cell_of h.blk 7 (.int .i64 d.commit) rfl
  clear h hlb
  go_enter Try.func13, Try.ntmps13
  go_wp2_with (go_at_call 32; refine K1.out.mono ?_; rintro e w1 ⟨rfl, rfl⟩)
  go_ret
  exact ⟨rfl, rfl⟩
set_option maxRecDepth 100000 in
set_option maxHeartbeats 2000000 in
theorem rOpen (W : World) (b m : Nat) (lb : Option Nat) (d : Rd) (h : RP W b m lb d) :
    Calls Try.prog 29 #[.pointer (some ⟨b, 0, none⟩)] W fun e W' => e = .returned (.bool (!d.shut)) ∧ W = W' := by
  have K1 := Lib.hid (rMade W b m lb d h)
  obtain ⟨w, hlb, h⟩ := h
  have c4 := cell_of h.blk 8 (.bool d.shut) rfl
  clear h hlb
  generalize d.shut = s at *
  go_enter Try.func29, Try.ntmps29
  go_wp2_with (go_at_call 32; refine K1.out.mono ?_; rintro e w1 ⟨rfl, rfl⟩)
  go_ret
  exact ⟨rfl, rfl⟩
set_option maxRecDepth 100000 in
set_option maxHeartbeats 2000000 in
theorem rLen (W : World) (b m : Nat) (lb : Option Nat) (d : Rd) (h : RP W b m lb d) :
    Calls Try.prog 21 #[.pointer (some ⟨b, 0, none⟩)] W fun e W' => e = .returned (.int .i64 d.L.length) ∧ W = W' := by
  have K1 := Lib.hid (rMade W b m lb d h)
  obtain ⟨w, hlb, h⟩ := h
  obtain ⟨A, c, e, h1, h2, h3⟩ := RowO.slice h.row
  have hl := h.len
  rw [hl] at e
  have c4 := cell_of h.blk 5 w.lv rfl
  rw [e] at c4
  clear h hlb
  have q : ∀ (W : World) (ty : TypeId), (Builtin.len_ #[37] ty #[.slice A d.L.length c]).run Try.prog W = .ok (.int .i64 d.L.length) W := fun W ty => by first | rfl | go_simp
  generalize d.L.length = n at *
  go_enter Try.func21, Try.ntmps21
  go_wp2_with (go_at_call 32; refine K1.out.mono ?_; rintro e w1 ⟨rfl, rfl⟩)
  go_ret
  exact ⟨rfl, rfl⟩
set_option maxRecDepth 100000 in
set_option maxHeartbeats 2000000 in
theorem headO (g N : Int) (A : Option Addr) (x : P2) (X : List P2) (c : Nat) (w : World) (hr : V.RowsV w w.heap.size A (x :: X)) (hc : (x :: X).length ≤ c) (hm : c ≤ maxLen) :
    Calls Try.prog 52 #[.agg #[.int .u8 g, .int .u32 N, .slice A (x :: X).length c]] w fun e w' => e = .returned (.agg #[.int .u8 x.n, .int .u16 x.l]) ∧ Below w.heap.size w w' := by
  obtain ⟨bk, o, rfl, hb, C⟩ := V.RowsV.at_ hr (show 0 < (x :: X).length by simp)
  obtain ⟨n, hn⟩ : ∃ n, (x :: X).length = n + 1 := ⟨X.length, rfl⟩
  rw [hn] at hc ⊢
  have c0 : w.cell? ⟨bk, o, none⟩ = some (.int .u8 x.n) := by simpa using C.1
  have c1 : w.cell? ⟨bk, o + 1, none⟩ = some (.int .u16 x.l) := by simpa using C.2
  clear hr C
  have hne : ¬ (n + 1 = 0) := by omega
  have hne2 : ((n : Int) + 1 == 0) = false := by simp; omega
  have hne3 : ¬ ((n : Int) + 1 = 0) := by omega
  have hpos : (0 : Int) < (n : Int) + 1 := by omega
  clear hn
  go_enter Try.func52, Try.ntmps52
  go_wp2
  refine bodyPost_ret (v := .agg #[.int .u8 x.n, .int .u16 x.l]) (by
    simp [results, Try.results52, go_sem]
    try go_simp) rfl ⟨rfl, ?_⟩
  exact (by repeat (first | (with_reducible exact Below.refl _ _) | (with_reducible refine Below.setCell ?_ (by first | omega | (simp; done) | (simp; omega)) _) | (with_reducible refine Below.drew ?_) | (with_reducible refine Below.alloc ?_ (by first | omega | (simp; done) | (simp; omega)) _)))
theorem RQ.rows {W : World} {b m : Nat} {d : Rd} {w : Rw} (h : RQ W b m d w) : ∃ A c, w.mv = .slice A d.M.length c ∧ V.RowsV W W.heap.size A d.M ∧ d.M.length ≤ c ∧ c ≤ maxLen := by
  obtain ⟨A, c, e, hr, hc, hm, _⟩ := PrO.rows h.mem
  exact ⟨A, c, e, hr, hc, hm⟩
set_option maxRecDepth 100000 in
set_option maxHeartbeats 2000000 in
theorem rLeads (W : World) (b m : Nat) (lb : Option Nat) (d : Rd) (h : RP W b m lb d) :
    Calls Try.prog 38 #[.pointer (some ⟨b, 0, none⟩)] W fun e W' => e = .returned (.bool d.lead) ∧ Below W.heap.size W W' := by
  have KM : Hid (∀ dd os, Calls Try.prog 32 #[.pointer (some ⟨b, 0, none⟩)] (grow (redrawn W dd) os) fun e w' => e = .returned (.bool true) ∧ Below (grow (redrawn W dd) os).heap.size (grow (redrawn W dd) os) w') := Lib.hid fun dd os => (rMade _ b m lb d (h.below (below_regrown W dd os))).mono fun e w' h => ⟨h.1, h.2 ▸ Below.refl _ _⟩
  obtain ⟨⟨mv, lv, Lg⟩, hlb, h⟩ := h
  obtain ⟨A, c, hmv, hr, hc, hm⟩ := h.rows
  obtain ⟨x, X, hX⟩ : ∃ x X, d.M = x :: X := by
    have := h.mem8.1
    cases hM : d.M with
    | nil => rw [hM] at this; simp at this
    | cons x X => exact ⟨x, X, rfl⟩
  have HE : Hid (d.lead = decide (x = d.me)) := Lib.hid (by
    unfold Rd.lead
    rw [hX]
    simp)
  dsimp only at hmv
  subst hmv
  obtain ⟨nM, hnM⟩ : ∃ n, d.M.length = n := ⟨_, rfl⟩
  have KH : Hid (∀ dd os, Calls Try.prog 52 #[.agg #[.int .u8 d.g, .int .u32 d.N, .slice A nM c]] (grow (redrawn W dd) os) fun e w' => e = .returned (.agg #[.int .u8 x.n, .int .u16 x.l]) ∧ Below (grow (redrawn W dd) os).heap.size (grow (redrawn W dd) os) w') := Lib.hid fun dd os => by
    have hb := below_regrown W dd os
    have := headO d.g d.N A x X c _ (hX ▸ hr.below hb (Nat.le_refl _) hb.size) (by rw [← hX]; exact hc) hm
    rwa [← hX, hnM] at this
  have k0 := cell_regrown (cell_of h.blk 0 (.int .u8 d.g) rfl)
  have k1 := cell_regrown (cell_of h.blk 1 (.int .u32 d.N) rfl)
  have k2 := cell_regrown (cell_of h.blk 2 (.slice A nM c) (by rw [← hnM]; rfl))
  have k3 := cell_regrown (cell_of h.blk 3 (.int .u8 d.me.n) rfl)
  have k4 := cell_regrown (cell_of h.blk 4 (.int .u16 d.me.l) rfl)
  have heq := V.eqOP x d.me
  clear hX hr hc hm h hlb hnM
  obtain ⟨t, ht⟩ : ∃ t, decide (x = d.me) = t := ⟨_, rfl⟩
  simp only [ht] at heq
  rw [ht] at HE
  clear ht
  go_enter Try.func38, Try.ntmps38
  go_wp2_with fail
  refine wp_region_quiet_below (by kernel_rfl) (by kernel_rfl) ?_
  repeat (go_big_quiet_step (first | (go_at_call 32; exact Calls.regrown_of (KM.out _ _)) | (go_at_call 52; exact Calls.regrown_of (KH.out _ _)) | fail))
  refine wpQuiet_nil ?_
  rintro W9 ⟨p9, rfl⟩
  have B9 := Lib.hid (below_regrown W p9.d p9.os)
  generalize grow (redrawn W p9.d) p9.os = W9 at *
  go_wp2_with fail
  go_ret
  exact ⟨ret_bool HE.out.symm, B9.out⟩
set_option maxRecDepth 100000 in
set_option maxHeartbeats 2000000 in
theorem rHas (W : World) (b m : Nat) (lb : Option Nat) (d : Rd) (h : RP W b m lb d) (p : P2) (rp : Rg2 p) :
    Calls Try.prog 43 #[.pointer (some ⟨b, 0, none⟩), .agg #[.int .u8 p.n, .int .u16 p.l]] W fun e W' => e = .returned (.int .i64 (d.has p)) ∧ Below W.heap.size W W' := by
  obtain ⟨⟨mv, lv, Lg⟩, hlb, h⟩ := h
  obtain ⟨A, c, e, h1, h2, h3⟩ := RowO.slice h.row
  have hl := h.len
  dsimp only at e hl
  rw [hl] at e
  subst e
  obtain ⟨k, hk⟩ : ∃ k, W.heap.size = k := ⟨_, rfl⟩
  have hkb : b < k := by rw [← hk]; exact h.ltb
  have hkm : m < k := by rw [← hk]; exact h.ltm
  obtain ⟨es, cl, hmap, hlook⟩ := h.tl.look p rp
  obtain ⟨w1, hw1⟩ : ∃ z, W.alloc (.cells #[.int .u8 p.n, .int .u16 p.l] 49) = z := ⟨_, rfl⟩
  have b1 : Below k W w1 := by rw [← hw1, ← hk]; exact (Below.refl _ _).alloc (Nat.le_refl _) _
  have r1 : w1.heap[k]? = some (.cells #[.int .u8 p.n, .int .u16 p.l] 49 (0, 0)) := by rw [← hw1, ← hk]; exact heap_alloc_new _ _
  have q1 := (b1.block b hkb).trans h.blk
  have HL : Hid (∀ X : World, X.heap[m]? = some (.map es cl) → (Instr.lookup 79 (.map (some m)) (.agg #[.int .u8 p.n, .int .u16 p.l]) false).run Try.prog X = .ok (.int .i64 (d.T p)) X) := Lib.hid hlook
  have k3 := cell_of q1 3 (.int .u8 d.me.n) rfl
  have k4 := cell_of q1 4 (.int .u16 d.me.l) rfl
  have k5 := cell_of q1 5 (.slice A d.L.length c) rfl
  have k6 := cell_of q1 6 (.int .i64 d.base) rfl
  have k9 := cell_of q1 9 (.map (some m)) rfl
  have p0 := cell_of r1 0 (.int .u8 p.n) rfl
  have p1 := cell_of r1 1 (.int .u16 p.l) rfl
  have hm1 : w1.heap[m]? = some (.map es cl) := (b1.block m hkm).trans hmap
  have hrun := hlook w1 hm1
  have hrund : ∀ i j : Nat, (Instr.lookup 79 (.map (some m)) (.agg #[.int .u8 p.n, .int .u16 p.l]) false).run Try.prog ((w1.drewN i).drewN j) = .ok (.int .i64 (d.T p)) ((w1.drewN i).drewN j) := fun i j => hlook _ (by simpa using hm1)
  have heq := V.eqOP p d.me
  have R1 : Hid (w1.heap[b]? = some (.cells #[.int .u8 d.g, .int .u32 d.N, mv, .int .u8 d.me.n, .int .u16 d.me.l, .slice A d.L.length c, .int .i64 d.base, .int .i64 d.commit, .bool d.shut, .map (some m)] 81 (0, 0)) ∧ w1.heap[k]? = some (.cells #[.int .u8 p.n, .int .u16 p.l] 49 (0, 0)) ∧ w1.heap[m]? = some (.map es cl)) := Lib.hid ⟨q1, r1, hm1⟩
  have HW1 := Lib.hid hw1
  have HK := Lib.hid hk
  have B1 := Lib.hid b1
  have hbt : Hid (d.base ≤ 400 ∧ d.T p ≤ 400) := Lib.hid ⟨Nat.le_trans h.hb h.few, Nat.le_trans (h.ht p) h.few⟩
  have q : ∀ (W : World) (ty : TypeId), (Builtin.len_ #[37] ty #[.slice A d.L.length c]).run Try.prog W = .ok (.int .i64 d.L.length) W := fun W ty => by first | rfl | go_simp
  clear h hlb hl h1 h2 h3 hmap hlook b1 r1 q1 hm1 hw1 hk
  by_cases hp : p = d.me
  · have HE : Hid (d.has p = d.L.length) := Lib.hid (by unfold Rd.has; rw [if_pos hp])
    rw [decide_eq_true hp] at heq
    clear hp
    generalize d.L.length = n at *
    generalize d.me = x at *
    go_enter Try.func43, Try.ntmps43
    go_wp2_with (first
      | (rw [HW1.out, HK.out])
      | fail)
    go_quiet (fail)
    go_wp2_with fail
    go_ret
    exact ⟨ret_int (by rw [HE.out]), by rw [HK.out]; repeat (first | (with_reducible exact B1.out) | (with_reducible refine Below.drew ?_) | (with_reducible refine Below.drewsN ?_))⟩
  · have HE : Hid (d.has p = max d.base (d.T p)) := Lib.hid (by unfold Rd.has; rw [if_neg hp])
    rw [decide_eq_false hp] at heq
    clear hp
    generalize d.L.length = n at *
    generalize d.base = bs at *
    generalize d.T p = tp at *
    generalize d.me = x at *
    have q2 : ∀ (W : World) (ty : TypeId), (Builtin.max_ #[3, 3] ty #[.int .i64 bs, .int .i64 tp]).run Try.prog W = .ok (.int .i64 (max bs tp : Nat)) W := fun W ty => by
      first
        | (go_simp; done)
        | (go_simp; omega)
    go_enter Try.func43, Try.ntmps43
    go_wp2_with (first
      | (rw [HW1.out, HK.out])
      | fail)
    go_quiet (fail)
    go_wp2_with fail
    refine region_heldT (S := fun u => u.heap[b]? = some (.cells #[.int .u8 d.g, .int .u32 d.N, mv, .int .u8 x.n, .int .u16 x.l, .slice A n c, .int .i64 bs, .int .i64 d.commit, .bool d.shut, .map (some m)] 81 (0, 0)) ∧ u.heap[k]? = some (.cells #[.int .u8 p.n, .int .u16 p.l] 49 (0, 0)) ∧ u.heap[m]? = some (.map es cl)) 11 (by kernel_rfl) (by decide) (fun inv => ?_)
    have HS : (w1.drewN nq).drew.heap[b]? = some (.cells #[.int .u8 d.g, .int .u32 d.N, mv, .int .u8 x.n, .int .u16 x.l, .slice A n c, .int .i64 bs, .int .i64 d.commit, .bool d.shut, .map (some m)] 81 (0, 0)) ∧ (w1.drewN nq).drew.heap[k]? = some (.cells #[.int .u8 p.n, .int .u16 p.l] 49 (0, 0)) ∧ (w1.drewN nq).drew.heap[m]? = some (.map es cl) := R1.out
    have BZ : Hid (Below k W (w1.drewN nq).drew) := Lib.hid (below_drewN B1.out nq).drew
    change FirstH _ _ _ _ _ _ _ _ _ _ (w1.drewN nq).drew
    generalize (w1.drewN nq).drew = wd at *
    refine FirstH.go (i := 0) (v := .pointer (some ⟨b, 0, none⟩)) rfl rfl 16 rfl (Op.move (Operand.tmp 0)) rfl (by kernel_rfl) (fun _ _ _ h => h) inv (fun W hS => by unfold bareO; go_simp) HS (fun inv => ?_)
    try simp only [Act.put, List.setIfInBounds_toArray, List.set_cons_zero, List.set_cons_succ]
    refine FirstH.go (i := 1) (v := .pointer (some ⟨b, 0, none⟩)) rfl rfl 17 rfl (Op.nilCheck (Operand.tmp 16)) rfl (by kernel_rfl) (fun _ _ _ h => h) inv (fun W hS => by unfold bareO; go_simp) HS (fun inv => ?_)
    try simp only [Act.put, List.setIfInBounds_toArray, List.set_cons_zero, List.set_cons_succ]
    refine FirstH.go (i := 2) (v := .pointer (some ⟨b, 6, none⟩)) rfl rfl 18 rfl (Op.fieldAddr 81 (Operand.tmp 17) 3) rfl (by kernel_rfl) (fun _ _ _ h => h) inv (fun W hS => by unfold bareO; go_simp) HS (fun inv => ?_)
    try simp only [Act.put, List.setIfInBounds_toArray, List.set_cons_zero, List.set_cons_succ]
    refine FirstH.go (i := 3) (v := .int .i64 bs) rfl rfl 19 rfl (Op.load 3 (Operand.tmp 18)) rfl (by kernel_rfl) (fun _ _ _ h => h) inv (fun W hS => by have k6 := cell_of hS.1 6 (.int .i64 bs) rfl; have k9 := cell_of hS.1 9 (.map (some m)) rfl; have p0 := cell_of hS.2.1 0 (.int .u8 p.n) rfl; have p1 := cell_of hS.2.1 1 (.int .u16 p.l) rfl; unfold bareO; go_simp) HS (fun inv => ?_)
    try simp only [Act.put, List.setIfInBounds_toArray, List.set_cons_zero, List.set_cons_succ]
    refine FirstH.go (i := 4) (v := .pointer (some ⟨b, 0, none⟩)) rfl rfl 20 rfl (Op.move (Operand.tmp 0)) rfl (by kernel_rfl) (fun _ _ _ h => h) inv (fun W hS => by unfold bareO; go_simp) HS (fun inv => ?_)
    try simp only [Act.put, List.setIfInBounds_toArray, List.set_cons_zero, List.set_cons_succ]
    refine FirstH.go (i := 5) (v := .pointer (some ⟨b, 0, none⟩)) rfl rfl 21 rfl (Op.nilCheck (Operand.tmp 20)) rfl (by kernel_rfl) (fun _ _ _ h => h) inv (fun W hS => by unfold bareO; go_simp) HS (fun inv => ?_)
    try simp only [Act.put, List.setIfInBounds_toArray, List.set_cons_zero, List.set_cons_succ]
    refine FirstH.go (i := 6) (v := .pointer (some ⟨b, 9, none⟩)) rfl rfl 22 rfl (Op.fieldAddr 81 (Operand.tmp 21) 6) rfl (by kernel_rfl) (fun _ _ _ h => h) inv (fun W hS => by unfold bareO; go_simp) HS (fun inv => ?_)
    try simp only [Act.put, List.setIfInBounds_toArray, List.set_cons_zero, List.set_cons_succ]
    refine FirstH.go (i := 7) (v := .map (some m)) rfl rfl 23 rfl (Op.load 79 (Operand.tmp 22)) rfl (by kernel_rfl) (fun _ _ _ h => h) inv (fun W hS => by have k6 := cell_of hS.1 6 (.int .i64 bs) rfl; have k9 := cell_of hS.1 9 (.map (some m)) rfl; have p0 := cell_of hS.2.1 0 (.int .u8 p.n) rfl; have p1 := cell_of hS.2.1 1 (.int .u16 p.l) rfl; unfold bareO; go_simp) HS (fun inv => ?_)
    try simp only [Act.put, List.setIfInBounds_toArray, List.set_cons_zero, List.set_cons_succ]
    refine FirstH.go (i := 8) (v := .agg #[.int .u8 p.n, .int .u16 p.l]) rfl rfl 24 rfl (Op.load 49 (Operand.tmp 3)) rfl (by kernel_rfl) (fun _ _ _ h => h) inv (fun W hS => by have k6 := cell_of hS.1 6 (.int .i64 bs) rfl; have k9 := cell_of hS.1 9 (.map (some m)) rfl; have p0 := cell_of hS.2.1 0 (.int .u8 p.n) rfl; have p1 := cell_of hS.2.1 1 (.int .u16 p.l) rfl; unfold bareO; go_simp) HS (fun inv => ?_)
    try simp only [Act.put, List.setIfInBounds_toArray, List.set_cons_zero, List.set_cons_succ]
    refine FirstH.go (i := 9) (v := .int .i64 tp) rfl rfl 25 rfl (Op.lookup 79 (Operand.tmp 23) (Operand.tmp 24) false) rfl (by kernel_rfl) (fun _ _ _ h => h) inv (fun W hS => by have hl := HL.out W hS.2.2; unfold bareO; go_simp) HS (fun inv => ?_)
    try simp only [Act.put, List.setIfInBounds_toArray, List.set_cons_zero, List.set_cons_succ]
    refine FirstH.go (i := 10) (v := .int .i64 (max bs tp : Nat)) rfl rfl 26 rfl (Op.call { callee := Callee.builtin Builtin.max, args := #[Operand.tmp 19, Operand.tmp 25], argTypes := #[3, 3] }) rfl (by kernel_rfl) (fun _ _ _ h => h) inv (fun W hS => by have q := q2 W; unfold bareO; go_simp) HS (fun inv => ?_)
    try simp only [Act.put, List.setIfInBounds_toArray, List.set_cons_zero, List.set_cons_succ]
    refine ⟨by kernel_rfl, ?_⟩
    simp only [List.drop_succ_cons, List.drop_zero]
    go_wp2_with fail
    go_ret
    exact ⟨ret_int (by rw [HE.out]), by rw [HK.out]; exact BZ.out⟩

end Go.Proofs.Ytjdmjiikpnlkjaa
