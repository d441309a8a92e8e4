/-
  The document's proposer in memory as the plain state of a proposer: whether somebody counts, Ready, Start, by exact answers. Condition: it lies in memory.
-/
import Derived.Test.YtmhgopaekpnhoaaGp7
import Derived.Test.YtmhgopaekpnhoaaGaa
import Derived.Deep.MidRow
namespace Go.Proofs.Ytmhgopaekpnhoaa
set_option linter.unusedSimpArgs false
set_option linter.unusedVariables false
open Go.RowKit Go.Maps Go.Sort
open V (P2)

/-- where the document's proposer's rows lie. -/
structure Rw where
  A : Option Addr
  c : Nat
  gv : Value
  hx : Vl
  tx : Vl
  vx : Vl
def Pd.rs (d : Pd) (r : Rw) : Array Value := #[.int .u8 d.g, .int .u32 d.N, .slice r.A d.M.length r.c, .int .u64 d.bal, .int .i64 d.ph, r.gv, .int .u64 d.hb, r.hx.m, r.hx.t, .bool d.hh, r.tx.t, r.vx.m, r.vx.t]
/-- the document's proposer: block b; its rows: below B, but those who have counted: a row of its own. -/
structure DQ (W : World) (B b : Nat) (d : Pd) (r : Rw) : Prop where
  hb : B ≤ b
  blk : W.heap[b]? = some (.cells (d.rs r) 80 (0, 0))
  mem : V.RowsV W B r.A d.M
  mc : d.M.length ≤ r.c
  mm : r.c ≤ maxLen
  got : W.ownsRow B 38 2 r.gv d.C.length (V.cellsV d.C)
  hx : r.hx.At W B
  hd : r.hx.d = d.hd
  tx : r.tx.At W B
  td : r.tx.L.map Le.v = d.Lg
  vx : r.vx.At W B
  vd : r.vx.d = d.vd
  right : V.vR d.g d.N d.M = true
  nodup : d.C.Nodup
  cin : ∀ x ∈ d.C, x ∈ d.M
/-- what its calls may change. -/
def FR (b : Nat) (r : Rw) (k : Nat) : Prop := k = b ∨ r.gv.ownBlock = some k
theorem DQ.lt {W : World} {B b : Nat} {d : Pd} {r : Rw} (h : DQ W B b d r) : b < W.heap.size := heap_lt h.blk
theorem DQ.keep {S : Nat → Prop} {W W' : World} {B b : Nat} {d : Pd} {r : Rw} (h : DQ W B b d r) (k : KP S W W') (hS : ∀ i, S i → B ≤ i) (hb : ¬ S b) (hg : ∀ g, r.gv.ownBlock = some g → ¬ S g) : DQ W' B b d r := by
  have hbe : Below B W W' := k.below (Nat.le_trans h.hb (Nat.le_of_lt h.lt)) hS
  exact ⟨h.hb, (k.block b h.lt hb).trans h.blk, h.mem.below hbe (Nat.le_refl _) (Nat.le_refl _), h.mc, h.mm, V.own_same h.got fun g e => k.block g (h.got.lt g e).2 (hg g e),
    h.hx.below hbe (Nat.le_refl _) (Nat.le_refl _), h.hd, h.tx.below hbe (Nat.le_refl _) (Nat.le_refl _), h.td, h.vx.below hbe (Nat.le_refl _) (Nat.le_refl _), h.vd, h.right, h.nodup, h.cin⟩
theorem DQ.below {W W' : World} {B b : Nat} {d : Pd} {r : Rw} (h : DQ W B b d r) (hb : Below W.heap.size W W') : DQ W' B b d r := by
  have hbe : Below B W W' := hb.mono (Nat.le_trans h.hb (Nat.le_of_lt h.lt))
  exact ⟨h.hb, (hb.block b h.lt).trans h.blk, h.mem.below hbe (Nat.le_refl _) (Nat.le_refl _), h.mc, h.mm, V.own_kept h.got hb,
    h.hx.below hbe (Nat.le_refl _) (Nat.le_refl _), h.hd, h.tx.below hbe (Nat.le_refl _) (Nat.le_refl _), h.td, h.vx.below hbe (Nat.le_refl _) (Nat.le_refl _), h.vd, h.right, h.nodup, h.cin⟩
theorem DQ.foot {W : World} {B b : Nat} {d : Pd} {r : Rw} (h : DQ W B b d r) : ∀ k, FR b r k → B ≤ k := by
  rintro k (rfl | e)
  · exact h.hb
  · exact (h.got.lt k e).1
theorem DQ.apart {W : World} {B b : Nat} {d : Pd} {r : Rw} (h : DQ W B b d r) : ∀ g, r.gv.ownBlock = some g → g ≠ b := by
  intro g e
  obtain ⟨cur, hc⟩ := row_block h.got e
  exact apart_of hc h.blk (by decide)
theorem DQ.few {W : World} {B b : Nat} {d : Pd} {r : Rw} (h : DQ W B b d r) : d.M.length ≤ 8 ∧ 1 ≤ d.M.length ∧ d.C.length ≤ d.M.length := by
  have hr := h.right
  simp only [V.vR, Bool.and_eq_true, decide_eq_true_eq] at hr
  obtain ⟨⟨⟨⟨_, _⟩, h1⟩, h2⟩, _⟩ := hr
  exact ⟨h2, h1, nodup_le _ _ h.nodup h.cin⟩
theorem okV_nodup {M : List P2} (h : V.okV M = true) : M.Nodup := by
  have h2 := ((V.okV_iff M).1 h).2
  exact h2.imp fun hne e => hne (by rw [e])
theorem filter_in_len : ∀ (M C : List P2), M.Nodup → C.Nodup → (∀ x ∈ C, x ∈ M) → (M.filter fun p => decide (p ∈ C)).length = C.length
  | M, C, hM, hC, hs => by
    have h1 : (M.filter fun p => decide (p ∈ C)).length ≤ C.length := nodup_le _ _ (hM.sublist List.filter_sublist) fun x hx => by simpa using (List.mem_filter.1 hx).2
    have h2 : C.length ≤ (M.filter fun p => decide (p ∈ C)).length := nodup_le _ _ hC fun x hx => List.mem_filter.2 ⟨hs x hx, by simpa using hx⟩
    omega
theorem DQ.quo {W : World} {B b : Nat} {d : Pd} {r : Rw} (h : DQ W B b d r) : V.quo d.M d.C = d.enough := by
  have hr := h.right
  simp only [V.vR, Bool.and_eq_true, decide_eq_true_eq] at hr
  unfold V.quo Pd.enough
  rw [filter_in_len d.M d.C (okV_nodup hr.2) h.nodup h.cin]

set_option maxRecDepth 100000 in
set_option maxHeartbeats 2000000 in
theorem rCounts (W : World) (B b : Nat) (d : Pd) (r : Rw) (h : DQ W B b d r) (x : P2) (k : Int) :
    Calls Try.prog 58 #[.pointer (some ⟨b, 0, none⟩), .agg #[.int .u8 x.n, .int .u16 x.l], .int .i64 k] W fun e W' => e = .returned (.bool (decide (d.ph = k) && d.cnt x)) ∧ Below W.heap.size W W' := by
  obtain ⟨G, gc, hgv, hG, hGl, hGm⟩ := V.rowsV_of_own h.got
  obtain ⟨k0, hk0⟩ : ∃ k, W.heap.size = k := ⟨_, rfl⟩
  have hlt : b < k0 := by rw [← hk0]; exact h.lt
  obtain ⟨w1, hw1⟩ : ∃ z, W.alloc (.cells #[.int .u8 x.n, .int .u16 x.l] 38) = z := ⟨_, rfl⟩
  have b1 : Below k0 W w1 := by rw [← hw1, ← hk0]; exact (Below.refl _ _).alloc (Nat.le_refl _) _
  have rx : w1.heap[k0]? = some (.cells #[.int .u8 x.n, .int .u16 x.l] 38 (0, 0)) := by rw [← hw1, ← hk0]; exact heap_alloc_new _ _
  have rb : w1.heap[b]? = some (.cells (d.rs r) 80 (0, 0)) := (b1.block b hlt).trans h.blk
  have KM := Lib.hid (fun u (hu : Below k0 W u) => V.rank r.A d.M x r.c u (h.mem.below hu (Nat.le_trans h.hb (Nat.le_of_lt hlt)) (Nat.le_trans (Nat.le_trans h.hb (Nat.le_of_lt h.lt)) hu.size)) h.mc h.mm)
  have KG := Lib.hid (fun u (hu : Below k0 W u) => V.rank G d.C x gc u (hG.below hu (Nat.le_of_eq hk0) hu.size) hGl hGm)
  obtain ⟨nM, hnM⟩ : ∃ n, d.M.length = n := ⟨_, rfl⟩
  obtain ⟨nC, hnC⟩ : ∃ n, d.C.length = n := ⟨_, rfl⟩
  have c2 := cell_of rb 2 (.slice r.A nM r.c) (by rw [← hnM]; rfl)
  have c4 := cell_of rb 4 (.int .i64 d.ph) rfl
  have c5 := cell_of rb 5 (.slice G nC gc) (by rw [← hnC, ← hgv]; rfl)
  have x0 := cell_of rx 0 (.int .u8 x.n) rfl
  have x1 := cell_of rx 1 (.int .u16 x.l) rfl
  rw [hnM] at KM
  rw [hnC] at KG
  obtain ⟨rm, hrm⟩ : ∃ z, V.rk d.M x = z := ⟨_, rfl⟩
  obtain ⟨rc, hrc⟩ : ∃ z, V.rk d.C x = z := ⟨_, rfl⟩
  have HM : Hid (decide (x ∈ d.M) = decide (0 ≤ rm)) := Lib.hid (by rw [← hrm]; exact decide_eq_decide.2 (V.rk_mem d.M x).symm)
  have HC : Hid (decide (x ∉ d.C) = decide (rc < 0)) := Lib.hid (by rw [← hrc]; exact decide_eq_decide.2 (V.rk_neg d.C x).symm)
  rw [hrm] at KM
  rw [hrc] at KG
  have B1 := Lib.hid b1
  have HSZ : Hid (k0 ≤ w1.heap.size) := Lib.hid (by rw [← hk0]; exact (hk0 ▸ b1).size)
  have HE : Hid (∀ bo : Bool, (decide (d.ph = k) && (decide (rc < 0) && decide (0 ≤ rm))) = bo → (decide (d.ph = k) && d.cnt x) = bo) := Lib.hid (fun bo hbo => by rw [← hbo]; unfold Pd.cnt; rw [HM.out, HC.out])
  have KM2 : Hid (∀ dd os, Calls Try.prog 64 #[.slice r.A nM r.c, .agg #[.int .u8 x.n, .int .u16 x.l]] (grow (redrawn w1 dd) os) fun e w' => e = .returned (.int .i64 rm) ∧ Below (grow (redrawn w1 dd) os).heap.size (grow (redrawn w1 dd) os) w') := Lib.hid (fun dd os => KM.out _ (B1.out.trans ((below_regrown w1 dd os).mono HSZ.out)))
  have KG2 : Hid (∀ dd os, Calls Try.prog 64 #[.slice G nC gc, .agg #[.int .u8 x.n, .int .u16 x.l]] (grow (redrawn w1 dd) os) fun e w' => e = .returned (.int .i64 rc) ∧ Below (grow (redrawn w1 dd) os).heap.size (grow (redrawn w1 dd) os) w') := Lib.hid (fun dd os => KG.out _ (B1.out.trans ((below_regrown w1 dd os).mono HSZ.out)))
  have kc2 := cell_regrown c2
  have kc4 := cell_regrown c4
  have kc5 := cell_regrown c5
  have kx0 := cell_regrown x0
  have kx1 := cell_regrown x1
  have HW1 := Lib.hid hw1
  have HK0 := Lib.hid hk0
  clear h hG hGl hGm b1 rx rb KM KG hgv hnM hnC hrm hrc HM HC c2 c4 c5 x0 x1 hw1 hk0 hlt
  generalize d.ph = p at *
  have HEND : Hid (∀ (dd : Nat) (os : Array Obj), True) := Lib.hid fun _ _ => trivial
  by_cases hp : p = k
  · subst hp
    by_cases hm : 0 ≤ rm
    · have hm' : ¬ rm < 0 := by omega
      have hdm : decide (0 ≤ rm) = true := decide_eq_true hm
      by_cases hc : rc < 0
      · have HF := Lib.hid (HE.out true (by simp [hm, hc]))
        go_enter Try.func58, Try.ntmps58
        go_wp2_with (first
          | (rw [HW1.out, HK0.out])
          | fail)
        refine wp_region_quiet_below (by kernel_rfl) (by kernel_rfl) ?_
        repeat (go_big_quiet_step (first | (go_at_call 64; first | (with_reducible exact Calls.regrown_of (KM2.out _ _)) | (with_reducible exact Calls.regrown_of (KG2.out _ _))) | fail))
        refine wpQuiet_nil ?_
        rintro W9 ⟨p9, rfl⟩
        have B9 := Lib.hid (B1.out.trans ((below_regrown w1 p9.d p9.os).mono HSZ.out))
        generalize grow (redrawn w1 p9.d) p9.os = W9 at *
        go_wp2_with fail
        go_ret
        exact ⟨ret_bool (Eq.trans (by first | rfl | (simp only [decide_eq_false_iff_not, decide_eq_true_eq]; omega)) HF.out.symm), by rw [HK0.out]; exact B9.out⟩
      · have HF := Lib.hid (HE.out false (by simp [hm, hc]))
        have hc' : 0 ≤ rc := by omega
        go_enter Try.func58, Try.ntmps58
        go_wp2_with (first
          | (rw [HW1.out, HK0.out])
          | fail)
        refine wp_region_quiet_below (by kernel_rfl) (by kernel_rfl) ?_
        repeat (go_big_quiet_step (first | (go_at_call 64; first | (with_reducible exact Calls.regrown_of (KM2.out _ _)) | (with_reducible exact Calls.regrown_of (KG2.out _ _))) | fail))
        refine wpQuiet_nil ?_
        rintro W9 ⟨p9, rfl⟩
        have B9 := Lib.hid (B1.out.trans ((below_regrown w1 p9.d p9.os).mono HSZ.out))
        generalize grow (redrawn w1 p9.d) p9.os = W9 at *
        go_wp2_with fail
        go_ret
        exact ⟨ret_bool (Eq.trans (by first | rfl | (simp only [decide_eq_false_iff_not, decide_eq_true_eq]; omega)) HF.out.symm), by rw [HK0.out]; exact B9.out⟩
    · have hm' : rm < 0 := by omega
      have hdm : decide (0 ≤ rm) = false := decide_eq_false hm
      have HF := Lib.hid (HE.out false (by simp [hm]))
      go_enter Try.func58, Try.ntmps58
      go_wp2_with (first
        | (rw [HW1.out, HK0.out])
        | fail)
      refine wp_region_quiet_below (by kernel_rfl) (by kernel_rfl) ?_
      repeat (go_big_quiet_step (first | (go_at_call 64; first | (with_reducible exact Calls.regrown_of (KM2.out _ _)) | (with_reducible exact Calls.regrown_of (KG2.out _ _))) | fail))
      refine wpQuiet_nil ?_
      rintro W9 ⟨p9, rfl⟩
      have B9 := Lib.hid (B1.out.trans ((below_regrown w1 p9.d p9.os).mono HSZ.out))
      generalize grow (redrawn w1 p9.d) p9.os = W9 at *
      go_wp2_with fail
      go_ret
      exact ⟨ret_bool (Eq.trans (by first | rfl | (simp only [decide_eq_false_iff_not, decide_eq_true_eq]; omega)) HF.out.symm), by rw [HK0.out]; exact B9.out⟩
  · have HF := Lib.hid (HE.out false (by simp [hp]))
    have hpb : (p == k) = false := by simpa using hp
    go_enter Try.func58, Try.ntmps58
    go_wp2_with (first
      | (rw [HW1.out, HK0.out])
      | fail)
    refine wp_region_quiet_below (by kernel_rfl) (by kernel_rfl) ?_
    repeat (go_big_quiet_step (first | (go_at_call 64; first | (with_reducible exact Calls.regrown_of (KM2.out _ _)) | (with_reducible exact Calls.regrown_of (KG2.out _ _))) | fail))
    refine wpQuiet_nil ?_
    rintro W9 ⟨p9, rfl⟩
    have B9 := Lib.hid (B1.out.trans ((below_regrown w1 p9.d p9.os).mono HSZ.out))
    generalize grow (redrawn w1 p9.d) p9.os = W9 at *
    go_wp2_with fail
    go_ret
    exact ⟨ret_bool (Eq.trans (by first | rfl | (simp only [decide_eq_false_iff_not, decide_eq_true_eq]; omega)) HF.out.symm), by rw [HK0.out]; exact B9.out⟩
set_option maxRecDepth 100000 in
set_option maxHeartbeats 2000000 in
theorem rReady (W : World) (B b : Nat) (d : Pd) (r : Rw) (h : DQ W B b d r) :
    Calls Try.prog 37 #[.pointer (some ⟨b, 0, none⟩)] W fun e W' => e = .returned (.bool d.ready) ∧ Below W.heap.size W W' := by
  obtain ⟨G, gc, hgv, hG, hGl, hGm⟩ := V.rowsV_of_own h.got
  obtain ⟨k0, hk0⟩ : ∃ k, W.heap.size = k := ⟨_, rfl⟩
  have hlt : b < k0 := by rw [← hk0]; exact h.lt
  have KQ := Lib.hid (fun u (hu : Below k0 W u) => V.quorumR d.g d.N r.A G d.M d.C r.c gc u (h.mem.below hu (Nat.le_trans h.hb (Nat.le_of_lt hlt)) (Nat.le_trans (Nat.le_trans h.hb (Nat.le_of_lt h.lt)) hu.size)) (hG.below hu (Nat.le_of_eq hk0) hu.size) h.mc h.mm hGl hGm)
  rw [h.quo] at KQ
  obtain ⟨nM, hnM⟩ : ∃ n, d.M.length = n := ⟨_, rfl⟩
  obtain ⟨nC, hnC⟩ : ∃ n, d.C.length = n := ⟨_, rfl⟩
  have c0 := cell_of h.blk 0 (.int .u8 d.g) rfl
  have c1 := cell_of h.blk 1 (.int .u32 d.N) rfl
  have c2 := cell_of h.blk 2 (.slice r.A nM r.c) (by rw [← hnM]; rfl)
  have c4 := cell_of h.blk 4 (.int .i64 d.ph) rfl
  have c5 := cell_of h.blk 5 (.slice G nC gc) (by rw [← hnC, ← hgv]; rfl)
  rw [hnM, hnC] at KQ
  have B0 : Hid (Below k0 W W) := Lib.hid (Below.refl _ _)
  have HSZ : Hid (k0 ≤ W.heap.size) := Lib.hid (Nat.le_of_eq hk0.symm)
  have KQ2 : Hid (∀ dd os, Calls Try.prog 61 #[.agg #[.int .u8 d.g, .int .u32 d.N, .slice r.A nM r.c], .slice G nC gc] (grow (redrawn W dd) os) fun e w' => e = .returned (.bool d.enough) ∧ Below (grow (redrawn W dd) os).heap.size (grow (redrawn W dd) os) w') := Lib.hid (fun dd os => KQ.out _ (B0.out.trans ((below_regrown W dd os).mono HSZ.out)))
  have HE : Hid (∀ bo : Bool, (decide (d.ph = 0) && d.enough) = bo → d.ready = bo) := Lib.hid (fun bo hbo => hbo)
  generalize d.enough = en at *
  generalize d.ph = p at *
  have kc0 := cell_regrown c0
  have kc1 := cell_regrown c1
  have kc2 := cell_regrown c2
  have kc4 := cell_regrown c4
  have kc5 := cell_regrown c5
  have HK0 := Lib.hid hk0
  clear h hG hGl hGm KQ hgv hnM hnC c0 c1 c2 c4 c5 hk0 hlt
  by_cases hp : p = 0
  · have HF := Lib.hid (HE.out en (by simp [hp]))
    subst hp
    go_enter Try.func37, Try.ntmps37
    go_wp2_with fail
    refine wp_region_quiet_below (by kernel_rfl) (by kernel_rfl) ?_
    repeat (go_big_quiet_step (first | (go_at_call 61; exact Calls.regrown_of (KQ2.out _ _)) | fail))
    refine wpQuiet_nil ?_
    rintro W9 ⟨p9, rfl⟩
    have B9 := Lib.hid (B0.out.trans ((below_regrown W p9.d p9.os).mono HSZ.out))
    generalize grow (redrawn W p9.d) p9.os = W9 at *
    go_wp2_with fail
    go_ret
    exact ⟨ret_bool HF.out.symm, by rw [HK0.out]; exact B9.out⟩
  · have HF := Lib.hid (HE.out false (by simp [hp]))
    have hpb : (p == 0) = false := by simpa using hp
    go_enter Try.func37, Try.ntmps37
    go_wp2_with fail
    refine wp_region_quiet_below (by kernel_rfl) (by kernel_rfl) ?_
    repeat (go_big_quiet_step (first | (go_at_call 61; exact Calls.regrown_of (KQ2.out _ _)) | fail))
    refine wpQuiet_nil ?_
    rintro W9 ⟨p9, rfl⟩
    have B9 := Lib.hid (B0.out.trans ((below_regrown W p9.d p9.os).mono HSZ.out))
    generalize grow (redrawn W p9.d) p9.os = W9 at *
    go_wp2_with fail
    go_ret
    exact ⟨ret_bool HF.out.symm, by rw [HK0.out]; exact B9.out⟩
/-- a proposer just begun, the document's. -/
def rw0 (A : Option Addr) (c : Nat) : Rw := ⟨A, c, .slice none 0 0, V0, V0, V0⟩
theorem V0.at_ (W : World) (B : Nat) : V0.At W B := ⟨⟨none, 0, rfl, fun h => absurd rfl h, Nat.le_refl _, by unfold maxLen; omega⟩, ⟨none, 0, rfl, fun h => absurd rfl h, Nat.le_refl _, by unfold maxLen; omega⟩, by simp [V0], by simp [V0]⟩
set_option maxRecDepth 100000 in
set_option maxHeartbeats 2000000 in
theorem rStartNo (W : World) (B : Nat) (hB : B ≤ W.heap.size) (g N : Int) (A : Option Addr) (M : List P2) (c : Nat) (hr : V.RowsV W B A M) (hc : M.length ≤ c) (hm : c ≤ maxLen) (n : Int) (h : V.vR g N M = false ∨ n = 0) :
    Calls Try.prog 25 #[.agg #[.int .u8 g, .int .u32 N, .slice A M.length c], .int .u64 n] W fun e W' => e = .returned (.pointer none) ∧ Below W.heap.size W W' := by
  obtain ⟨k0, hk0⟩ : ∃ k, W.heap.size = k := ⟨_, rfl⟩
  obtain ⟨nM, hnM⟩ : ∃ n, M.length = n := ⟨_, rfl⟩
  obtain ⟨w1, hw1⟩ : ∃ z, W.alloc (.cells #[.int .u8 g, .int .u32 N, .slice A nM c] 58) = z := ⟨_, rfl⟩
  have b1 : Below k0 W w1 := by rw [← hw1, ← hk0]; exact (Below.refl _ _).alloc (Nat.le_refl _) _
  have r1 : w1.heap[k0]? = some (.cells #[.int .u8 g, .int .u32 N, .slice A nM c] 58 (0, 0)) := by rw [← hw1, ← hk0]; exact heap_alloc_new _ _
  have K1 := Lib.hid (V.rightR g N A M c w1 (hr.below b1 (by omega) (Nat.le_trans hB (hk0 ▸ b1).size)) hc hm)
  rw [hnM] at K1 ⊢
  have HR : Hid (∀ W', Below k0 W W' → V.RowsV W' B A M) := Lib.hid fun W' h => hr.below h (by omega) (Nat.le_refl _)
  have HC : Hid (M.length ≤ c ∧ c ≤ maxLen) := Lib.hid ⟨hc, hm⟩
  have HB : Hid (B ≤ k0) := Lib.hid (by omega)
  have HS1 : Hid (k0 ≤ w1.heap.size) := Lib.hid (by rw [← hk0]; exact b1.size)
  have B1 := Lib.hid b1
  have R1 := Lib.hid r1
  have HN := Lib.hid hnM
  have HW1 := Lib.hid hw1
  have HK0 := Lib.hid hk0
  have HV := Lib.hid h
  have v0 := cell_of r1 0 (.int .u8 g) rfl
  have v1 := cell_of r1 1 (.int .u32 N) rfl
  have v2 := cell_of r1 2 (.slice A nM c) rfl
  obtain ⟨vr, hvr⟩ : ∃ z, V.vR g N M = z := ⟨_, rfl⟩
  rw [hvr] at K1 h
  clear hr hc hm b1 r1 hw1 hk0 hnM hB HV hvr
  cases vr with
  | false =>
    clear h
    go_enter Try.func25, Try.ntmps25
    go_wp2_with (first
    | (rw [HW1.out, HK0.out])
    | (go_at_call 53
       have K1x := K1.out
       refine K1x.mono ?_
       rintro e w2 ⟨rfl, b2⟩
       have B2 := Lib.hid (B1.out.trans (b2.mono HS1.out))
       have r2 := (b2.block k0 (heap_lt R1.out)).trans R1.out
       have u0 := cell_of r2 0 (.int .u8 g) rfl
       have u1 := cell_of r2 1 (.int .u32 N) rfl
       have u2 := cell_of r2 2 (.slice A nM c) rfl
       clear b2 r2)
    | fail)
    go_ret
    exact ⟨rfl, by rw [HK0.out]; exact B2.out⟩
  | true =>
    obtain rfl : n = 0 := by simpa using h
    clear h
    go_enter Try.func25, Try.ntmps25
    go_wp2_with (first
    | (rw [HW1.out, HK0.out])
    | (go_at_call 53
       have K1x := K1.out
       refine K1x.mono ?_
       rintro e w2 ⟨rfl, b2⟩
       have B2 := Lib.hid (B1.out.trans (b2.mono HS1.out))
       have r2 := (b2.block k0 (heap_lt R1.out)).trans R1.out
       have u0 := cell_of r2 0 (.int .u8 g) rfl
       have u1 := cell_of r2 1 (.int .u32 N) rfl
       have u2 := cell_of r2 2 (.slice A nM c) rfl
       clear b2 r2)
    | fail)
    go_ret
    exact ⟨rfl, by rw [HK0.out]; exact B2.out⟩
set_option maxRecDepth 100000 in
set_option maxHeartbeats 2000000 in
theorem rStartYes (W : World) (B : Nat) (hB : B ≤ W.heap.size) (g N : Int) (A : Option Addr) (M : List P2) (c : Nat) (hr : V.RowsV W B A M) (hc : M.length ≤ c) (hm : c ≤ maxLen) (n : Int) (h : V.vR g N M = true) (h0 : n ≠ 0) :
    Calls Try.prog 25 #[.agg #[.int .u8 g, .int .u32 N, .slice A M.length c], .int .u64 n] W fun e W' => ∃ b, e = .returned (.pointer (some ⟨b, 0, none⟩)) ∧ W.heap.size ≤ b ∧ DQ W' B b (Pd.init g N M n) (rw0 A c) ∧ Below W.heap.size W W' := by
  obtain ⟨k0, hk0⟩ : ∃ k, W.heap.size = k := ⟨_, rfl⟩
  obtain ⟨nM, hnM⟩ : ∃ n, M.length = n := ⟨_, rfl⟩
  obtain ⟨w1, hw1⟩ : ∃ z, W.alloc (.cells #[.int .u8 g, .int .u32 N, .slice A nM c] 58) = z := ⟨_, rfl⟩
  have b1 : Below k0 W w1 := by rw [← hw1, ← hk0]; exact (Below.refl _ _).alloc (Nat.le_refl _) _
  have r1 : w1.heap[k0]? = some (.cells #[.int .u8 g, .int .u32 N, .slice A nM c] 58 (0, 0)) := by rw [← hw1, ← hk0]; exact heap_alloc_new _ _
  have K1 := Lib.hid (V.rightR g N A M c w1 (hr.below b1 (by omega) (Nat.le_trans hB (hk0 ▸ b1).size)) hc hm)
  rw [hnM] at K1 ⊢
  have HR : Hid (∀ W', Below k0 W W' → V.RowsV W' B A M) := Lib.hid fun W' h => hr.below h (by omega) (Nat.le_refl _)
  have HC : Hid (M.length ≤ c ∧ c ≤ maxLen) := Lib.hid ⟨hc, hm⟩
  have HB : Hid (B ≤ k0) := Lib.hid (by omega)
  have HS1 : Hid (k0 ≤ w1.heap.size) := Lib.hid (by rw [← hk0]; exact b1.size)
  have B1 := Lib.hid b1
  have R1 := Lib.hid r1
  have HN := Lib.hid hnM
  have HW1 := Lib.hid hw1
  have HK0 := Lib.hid hk0
  have HV := Lib.hid h
  have v0 := cell_of r1 0 (.int .u8 g) rfl
  have v1 := cell_of r1 1 (.int .u32 N) rfl
  have v2 := cell_of r1 2 (.slice A nM c) rfl
  have hnb : (n == 0) = false := by simpa using h0
  rw [h] at K1
  clear hr hc hm b1 r1 hw1 hk0 hnM hB h h0
  go_enter Try.func25, Try.ntmps25
  go_wp2_with (first
    | (rw [HW1.out, HK0.out])
    | (go_at_call 53
       have K1x := K1.out
       refine K1x.mono ?_
       rintro e w2 ⟨rfl, b2⟩
       have B2 := Lib.hid (B1.out.trans (b2.mono HS1.out))
       have r2 := (b2.block k0 (heap_lt R1.out)).trans R1.out
       have u0 := cell_of r2 0 (.int .u8 g) rfl
       have u1 := cell_of r2 1 (.int .u32 N) rfl
       have u2 := cell_of r2 2 (.slice A nM c) rfl
       obtain ⟨k2, hk2⟩ : ∃ k, w2.heap.size = k := ⟨_, rfl⟩
       obtain ⟨w3, hw3⟩ : ∃ z, w2.alloc (.cells #[.int .u8 g, .int .u32 N, .slice A nM c, .int .u64 n, .int .i64 0, .slice none 0 0, .int .u64 0, .slice none 0 0, .slice none 0 0, .bool false, .slice none 0 0, .slice none 0 0, .slice none 0 0] 80) = z := ⟨_, rfl⟩
       have r3 := box_w0 w2 w3 k2 _ _ hw3 hk2
       have b3 : Below w2.heap.size w2 w3 := by rw [← hw3]; exact (Below.refl _ _).alloc (Nat.le_refl _) _
       have hs2 : k0 ≤ k2 := by rw [← hk2]; exact Nat.le_trans HS1.out b2.size
       have b03 : Below k0 W w3 := B2.out.trans (b3.mono (by rw [hk2]; exact hs2))
       have HDQ : Hid (DQ w3 B k2 (Pd.init g N M n) (rw0 A c)) := Lib.hid ⟨Nat.le_trans HB.out hs2, by rw [r3, ← HN.out]; rfl, HR.out _ b03, HC.out.1, HC.out.2, World.ownsRow_nil _ _ _ _, V0.at_ _ _, rfl, V0.at_ _ _, rfl, V0.at_ _ _, rfl, HV.out, List.nodup_nil, fun _ h => by cases h⟩
       have B3 := Lib.hid b03
       have HS2 := Lib.hid hs2
       have HW3 := Lib.hid hw3
       have HK2 := Lib.hid hk2
       clear b2 r2 b3 b03 hw3 hk2 r3 hs2)
    | (rw [HW3.out, HK2.out])
    | fail)
  go_ret
  exact ⟨_, rfl, by rw [HK0.out]; exact HS2.out, HDQ.out, by rw [HK0.out]; exact B3.out⟩

end Go.Proofs.Ytmhgopaekpnhoaa
