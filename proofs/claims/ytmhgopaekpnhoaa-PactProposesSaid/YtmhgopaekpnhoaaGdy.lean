/-
  The document's proposer: Accepted, Propose, Missing; the program's Missing; both side by side; a view as an argument. Condition: it lies in memory; numbers fit their kinds.
-/
import Derived.Test.YtmhgopaekpnhoaaGdq
import Derived.Deep.MidRow
import Derived.Test.YtmhgopaekpnhoaaGkw
import Derived.Test.YtmhgopaekpnhoaaGsv
import Derived.Test.YtmhgopaekpnhoaaGaa
namespace Go.Proofs.Ytmhgopaekpnhoaa
section
set_option linter.unusedSimpArgs false
set_option linter.unusedVariables false
open Go.RowKit Go.Maps Go.Sort
open V (P2)

theorem DQ.setPh {W : World} {B b : Nat} {d : Pd} {r : Rw} (h : DQ W B b d r) (n : Int) : DQ (W.setCell ⟨b, 4, none⟩ (.int .i64 n)) B b { d with ph := n } r ∧ KP (fun j => j = b) W (W.setCell ⟨b, 4, none⟩ (.int .i64 n)) := by
  have k : KP (fun j => j = b) W (W.setCell ⟨b, 4, none⟩ (.int .i64 n)) := KP.set (S := fun j => j = b) W b 4 _ rfl
  exact ⟨h.re (k.mono fun i e => .inl e) (row_set (i := 4) h.blk _) rfl rfl rfl rfl rfl (h.same_got k) h.nodup h.cin h.hx h.hd h.tx h.td h.vx h.vd, k⟩
theorem DQ.clr {W : World} {B b : Nat} {d : Pd} {r : Rw} (h : DQ W B b d r) : DQ (W.setCell ⟨b, 5, none⟩ (.slice none 0 0)) B b { d with C := [] } { r with gv := .slice none 0 0 } ∧ KP (fun j => j = b) W (W.setCell ⟨b, 5, none⟩ (.slice none 0 0)) := by
  have k : KP (fun j => j = b) W (W.setCell ⟨b, 5, none⟩ (.slice none 0 0)) := KP.set (S := fun j => j = b) W b 5 _ rfl
  exact ⟨h.re (k.mono fun i e => .inl e) (row_set (i := 5) h.blk _) rfl rfl rfl rfl rfl (World.ownsRow_nil _ _ _ _) List.nodup_nil (fun _ h => by cases h) h.hx h.hd h.tx h.td h.vx h.vd, k⟩
theorem DQ.vset {W W' : World} {B b : Nat} {d : Pd} {r : Rw} (h : DQ W B b d r) (z : Vl) (hz : z.At W B) (h1 : W.setCells b 11 [z.m, z.t] = W') : DQ W' B b { d with vd := z.d } { r with vx := z } ∧ KP (fun j => j = b) W W' := by
  have k : KP (fun j => j = b) W W' := by rw [← h1]; exact KP.setCells (S := fun j => j = b) rfl _ _ _
  have r3 := row_set (i := 11 + 1) (row_set (i := 11) h.blk z.m) z.t
  have e3 : (W.setCell ⟨b, 11, none⟩ z.m).setCell ⟨b, 11 + 1, none⟩ z.t = W' := h1
  rw [e3] at r3
  exact ⟨h.re (k.mono fun i e => .inl e) r3 rfl rfl rfl rfl rfl (h.same_got k) h.nodup h.cin h.hx h.hd h.tx h.td hz rfl, k⟩
theorem KP.ofb {W W' : World} {b : Nat} {r : Rw} (k : KP (fun j => j = b) W W') : KP (FR b r) W W' := k.mono fun i e => .inl e

set_option maxRecDepth 100000 in
set_option maxHeartbeats 2000000 in
theorem rAcceptedNo (W : World) (B b : Nat) (d : Pd) (r : Rw) (h : DQ W B b d r) (x : P2) (hc : (decide (d.ph = 1) && d.cnt x) = false) :
    Calls Try.prog 34 #[.pointer (some ⟨b, 0, none⟩), .agg #[.int .u8 x.n, .int .u16 x.l]] W fun e W' => EndQ W B b d r (.returned (.bool (decide (d.ph = 2)))) e W' := by
  obtain ⟨k0, hk0⟩ : ∃ k, W.heap.size = k := ⟨_, rfl⟩
  have hbk : b < k0 := by rw [← hk0]; exact h.lt
  obtain ⟨w0, hw0⟩ : ∃ z, W.alloc (.cells #[.int .u8 x.n, .int .u16 x.l] 38) = z := ⟨_, rfl⟩
  have b0 : Below k0 W w0 := by rw [← hw0, ← hk0]; exact (Below.refl _ _).alloc (Nat.le_refl _) _
  have rx : w0.heap[k0]? = some (.cells #[.int .u8 x.n, .int .u16 x.l] 38 (0, 0)) := by rw [← hw0, ← hk0]; exact heap_alloc_new _ _
  have hq1 := h.below (hk0.symm ▸ b0)
  have KC := Lib.hid (rCounts w0 B b d r hq1 x 1)
  have HKP : Hid (KP (FR b r) W w0) := Lib.hid (KP.of_below (hk0.symm ▸ b0))
  have HQ := Lib.hid h
  have HQ1 := Lib.hid hq1
  have x0 := cell_of rx 0 (.int .u8 x.n) rfl
  have x1 := cell_of rx 1 (.int .u16 x.l) rfl
  have RX1 := Lib.hid rx
  have HW0 := Lib.hid hw0
  have HK0 := Lib.hid hk0
  have HBK := Lib.hid hbk
  rw [hc] at KC
  clear h b0 rx hq1 hw0 hk0 hbk hc
  obtain ⟨p, hp⟩ : ∃ z, d.ph = z := ⟨_, rfl⟩
  rw [hp]
  have HP := Lib.hid hp
  clear hp
  by_cases h2 : p = 2
  · subst h2
    go_enter Try.func34, Try.ntmps34
    go_wp2_with (first
      | (rw [HW0.out, HK0.out])
      | (go_at_call 58
         have KCx := KC.out
         refine KCx.mono ?_
         rintro e w2 ⟨rfl, b2⟩
         have HQ2 := Lib.hid (HQ1.out.below b2)
         have q4 := cell_of HQ2.out.blk 4 (.int .i64 2) (by rw [← HP.out]; rfl)
         have HKP2 := Lib.hid (HKP.out.trans (KP.of_below (S := FR b r) b2) fun _ _ h => h)
         clear b2)
      | fail)
    go_ret
    refine ⟨?_, _, HQ2.out, HKP2.out⟩
    first | rfl | (refine ret_bool ?_; simp [h2])
  · have h2b : (p == 2) = false := by simpa using h2
    have h2d : decide (p = 2) = false := decide_eq_false h2
    go_enter Try.func34, Try.ntmps34
    go_wp2_with (first
      | (rw [HW0.out, HK0.out])
      | (go_at_call 58
         have KCx := KC.out
         refine KCx.mono ?_
         rintro e w2 ⟨rfl, b2⟩
         have HQ2 := Lib.hid (HQ1.out.below b2)
         have q4 := cell_of HQ2.out.blk 4 (.int .i64 p) (by rw [← HP.out]; rfl)
         have HKP2 := Lib.hid (HKP.out.trans (KP.of_below (S := FR b r) b2) fun _ _ h => h)
         clear b2)
      | fail)
    go_ret
    refine ⟨?_, _, HQ2.out, HKP2.out⟩
    first | rfl | (refine ret_bool ?_; simp [h2])
theorem Pd.acc_none {d : Pd} {x : P2} (h : (decide (d.ph = 1) && d.cnt x) = false) : d.accepted x = d := by simp [Pd.accepted, Pd.accept1, h]
set_option maxRecDepth 100000 in
set_option maxHeartbeats 2000000 in
theorem rAcceptedYes (W : World) (B b : Nat) (d : Pd) (r : Rw) (h : DQ W B b d r) (x : P2) (hc : (decide (d.ph = 1) && d.cnt x) = true) :
    Calls Try.prog 34 #[.pointer (some ⟨b, 0, none⟩), .agg #[.int .u8 x.n, .int .u16 x.l]] W fun e W' => EndQ W B b (d.accepted x) r (.returned (.bool (d.add x).enough)) e W' := by
  obtain ⟨k0, hk0⟩ : ∃ k, W.heap.size = k := ⟨_, rfl⟩
  have hbk : b < k0 := by rw [← hk0]; exact h.lt
  obtain ⟨w0, hw0⟩ : ∃ z, W.alloc (.cells #[.int .u8 x.n, .int .u16 x.l] 38) = z := ⟨_, rfl⟩
  have b0 : Below k0 W w0 := by rw [← hw0, ← hk0]; exact (Below.refl _ _).alloc (Nat.le_refl _) _
  have rx : w0.heap[k0]? = some (.cells #[.int .u8 x.n, .int .u16 x.l] 38 (0, 0)) := by rw [← hw0, ← hk0]; exact heap_alloc_new _ _
  have hq1 := h.below (hk0.symm ▸ b0)
  have KC := Lib.hid (rCounts w0 B b d r hq1 x 1)
  have HKP : Hid (KP (FR b r) W w0) := Lib.hid (KP.of_below (hk0.symm ▸ b0))
  have HQ := Lib.hid h
  have HQ1 := Lib.hid hq1
  have x0 := cell_of rx 0 (.int .u8 x.n) rfl
  have x1 := cell_of rx 1 (.int .u16 x.l) rfl
  have RX1 := Lib.hid rx
  have HW0 := Lib.hid hw0
  have HK0 := Lib.hid hk0
  have HBK := Lib.hid hbk
  rw [hc] at KC
  have HC := Lib.hid hc
  obtain ⟨hc1, hc2⟩ : d.ph = 1 ∧ d.cnt x = true := by simpa using hc
  have hc3 : x ∉ d.C ∧ x ∈ d.M := by simpa [Pd.cnt] using hc2
  have HPH := Lib.hid hc1
  have HCN := Lib.hid hc2
  have HXC := Lib.hid hc3.1
  have HXM := Lib.hid hc3.2
  have HFEW0 := h.few
  obtain ⟨G, gc, hgv, -, -, -⟩ := V.rowsV_of_own h.got
  obtain ⟨nC, hnC⟩ : ∃ n, d.C.length = n := ⟨_, rfl⟩
  obtain ⟨nM, hnM⟩ : ∃ n, d.M.length = n := ⟨_, rfl⟩
  rw [hnC] at hgv
  have HFEW : Hid (nC ≤ 8) := Lib.hid (by rw [← hnC]; omega)
  have HGV := Lib.hid hgv
  have HNC := Lib.hid hnC
  have HNM := Lib.hid hnM
  have G5 : Hid ((d.rs r)[5]? = some (.slice G nC gc)) := Lib.hid (by rw [← hgv]; rfl)
  obtain ⟨en, hen⟩ : ∃ z, (d.add x).enough = z := ⟨_, rfl⟩
  rw [hen]
  have HEN := Lib.hid hen
  clear h b0 rx hq1 hw0 hk0 hbk hc hc1 hc2 hc3 HFEW0 hgv hnC hnM hen
  cases en with
  | true =>
    go_enter Try.func34, Try.ntmps34
    go_wp2_with (first
      | (rw [HW0.out, HK0.out])
      | (go_at_call 58
         have KCx := KC.out
         refine KCx.mono ?_
         rintro e w2 ⟨rfl, b2⟩
         have HQ2 := Lib.hid (HQ1.out.below b2)
         have HKP2 := Lib.hid (HKP.out.trans (KP.of_below (S := FR b r) b2) fun _ _ h => h)
         have R2 : Hid (w2.drew.heap[b]? = some (.cells (d.rs r) 80 (0, 0)) ∧ w2.drew.heap[k0]? = some (.cells #[.int .u8 x.n, .int .u16 x.l] 38 (0, 0))) := Lib.hid ⟨HQ2.out.blk, (b2.block k0 (heap_lt RX1.out)).trans RX1.out⟩
         clear b2)
      | fail)
    refine region_heldT (S := fun u => u.heap[b]? = some (.cells (d.rs r) 80 (0, 0)) ∧ u.heap[k0]? = some (.cells #[.int .u8 x.n, .int .u16 x.l] 38 (0, 0))) 8 (by kernel_rfl) (by decide) (fun inv => ?_)
    have HS := R2.out
    change FirstH _ _ _ _ _ _ _ _ _ _ w2.drew
    have HQd := Lib.hid (HQ2.out.below (Below.refl _ _).drew)
    have HKd : Hid (KP (FR b r) W w2.drew) := Lib.hid (HKP2.out.trans (KP.of_below (S := FR b r) (Below.refl _ _).drew) fun _ _ h => h)
    generalize w2.drew = wd at *
    refine FirstH.go (i := 0) (v := .pointer (some ⟨b, 0, none⟩)) rfl rfl 8 rfl (Op.move (.tmp 0)) rfl (by kernel_rfl) (fun _ _ _ h => h) inv (fun W hS => by unfold bareO; go_simp) HS (fun inv => ?_)
    try simp only [Act.put, List.setIfInBounds_toArray, List.set_cons_zero, List.set_cons_succ]
    refine FirstH.go (i := 1) (v := .pointer (some ⟨b, 0, none⟩)) rfl rfl 9 rfl (Op.move (.tmp 0)) rfl (by kernel_rfl) (fun _ _ _ h => h) inv (fun W hS => by unfold bareO; go_simp) HS (fun inv => ?_)
    try simp only [Act.put, List.setIfInBounds_toArray, List.set_cons_zero, List.set_cons_succ]
    refine FirstH.go (i := 2) (v := .pointer (some ⟨b, 0, none⟩)) rfl rfl 10 rfl (Op.nilCheck (.tmp 9)) rfl (by kernel_rfl) (fun _ _ _ h => h) inv (fun W hS => by unfold bareO; go_simp) HS (fun inv => ?_)
    try simp only [Act.put, List.setIfInBounds_toArray, List.set_cons_zero, List.set_cons_succ]
    refine FirstH.go (i := 3) (v := .pointer (some ⟨b, 5, none⟩)) rfl rfl 11 rfl (Op.fieldAddr 80 (.tmp 10) 3) rfl (by kernel_rfl) (fun _ _ _ h => h) inv (fun W hS => by unfold bareO; go_simp) HS (fun inv => ?_)
    try simp only [Act.put, List.setIfInBounds_toArray, List.set_cons_zero, List.set_cons_succ]
    refine FirstH.go (i := 4) (v := .slice G nC gc) rfl rfl 12 rfl (Op.load 30 (.tmp 11)) rfl (by kernel_rfl) (fun _ _ _ h => h) inv (fun W hS => by have c5 := cell_of hS.1 5 (.slice G nC gc) G5.out; have x0 := cell_of hS.2 0 (.int .u8 x.n) rfl; have x1 := cell_of hS.2 1 (.int .u16 x.l) rfl; unfold bareO; go_simp) HS (fun inv => ?_)
    try simp only [Act.put, List.setIfInBounds_toArray, List.set_cons_zero, List.set_cons_succ]
    refine FirstH.go (i := 5) (v := .agg #[.int .u8 x.n, .int .u16 x.l]) rfl rfl 13 rfl (Op.load 38 (.tmp 3)) rfl (by kernel_rfl) (fun _ _ _ h => h) inv (fun W hS => by have c5 := cell_of hS.1 5 (.slice G nC gc) G5.out; have x0 := cell_of hS.2 0 (.int .u8 x.n) rfl; have x1 := cell_of hS.2 1 (.int .u16 x.l) rfl; unfold bareO; go_simp) HS (fun inv => ?_)
    try simp only [Act.put, List.setIfInBounds_toArray, List.set_cons_zero, List.set_cons_succ]
    have kb : b < wd.heap.size := heap_lt HS.1
    have kx : k0 < wd.heap.size := heap_lt HS.2
    obtain ⟨ka, hka⟩ : ∃ k, wd.heap.size = k := ⟨_, rfl⟩
    obtain ⟨wa, hwa⟩ : ∃ z, wd.alloc (.cells #[.int .u8 x.n, .int .u16 x.l] 38) = z := ⟨_, rfl⟩
    have hrv := V.rowsV_new wd x 38
    have ba : Below wd.heap.size wd wa := by rw [← hwa]; exact (Below.refl _ _).alloc (Nat.le_refl _) _
    rw [hwa, hka] at hrv
    have HQa := Lib.hid (HQd.out.below ba)
    have HKa := Lib.hid (HKd.out.trans (KP.of_below (S := FR b r) ba) fun _ _ h => h)
    have HBa := Lib.hid ba
    have HWa := Lib.hid hwa
    have HKA := Lib.hid hka
    have HSa : wa.heap[b]? = some (.cells (d.rs r) 80 (0, 0)) ∧ wa.heap[k0]? = some (.cells #[.int .u8 x.n, .int .u16 x.l] 38 (0, 0)) := ⟨HQa.out.blk, (ba.block k0 kx).trans HS.2⟩
    refine FirstH.only (i := 6) (by kernel_rfl) (by decide) inv (fun inv => wpOp_run (i := 6) (v := .slice (some ⟨ka, 0, none⟩) 1 1) (w' := wa) rfl rfl 14 rfl (Op.buildSlice 30 1 #[(0, .tmp 13)]) rfl (by unfold bareO; first | (go_simp; done) | (go_simp; rw [HWa.out, HKA.out])) ?_)
    refine ⟨HSa, ?_⟩
    try simp only [Act.put, List.setIfInBounds_toArray, List.set_cons_zero, List.set_cons_succ]
    clear HS kb kx hka hwa ba
    have hown := HQa.out.got
    rw [HGV.out, HNC.out] at hown
    refine FirstH.only (i := 7) (by kernel_rfl) (by decide) inv (fun inv => wpOp_appR (i := 7) rfl rfl 15 rfl (.tmp 12) (.tmp 14) rfl B (.slice G nC gc) nC (V.cellsV d.C) rfl hown ⟨ka, 0, none⟩ [x] 1 1 _ rfl rfl hrv (by have := HFEW.out; simp; omega) (Nat.le_trans HQa.out.hb (Nat.le_of_lt HQa.out.lt)) ?_)
    intro v9 w9 O9 g9
    rw [← HGV.out] at g9
    have HSb : w9.heap[b]? = some (.cells (d.rs r) 80 (0, 0)) ∧ w9.heap[k0]? = some (.cells #[.int .u8 x.n, .int .u16 x.l] 38 (0, 0)) := ⟨(g9.block b HQa.out.lt fun e => HQa.out.apart b e.symm rfl).trans HSa.1, (g9.block k0 (heap_lt HSa.2) fun e => by have := (HQ.out.got.lt k0 e.symm).2; rw [HK0.out] at this; omega).trans HSa.2⟩
    refine ⟨HSb, ?_⟩
    try simp only [Act.put, List.setIfInBounds_toArray, List.set_cons_zero, List.set_cons_succ]
    clear HSa HSb
    refine ⟨by kernel_rfl, ?_⟩
    simp only [List.drop_succ_cons, List.drop_zero]
    have r9 := (g9.block b HQa.out.lt fun e => HQa.out.apart b e.symm rfl).trans HQa.out.blk
    have c9 := cell_of r9 5 (.slice G nC gc) G5.out
    have f9 := frz_row 5 r9
    have oc9 : v9.oneCell' = true := by
      rcases O9.2 with ⟨rfl, _⟩ | ⟨g, cap, cur, rfl, _⟩
      · rfl
      · rfl
    obtain ⟨A9, n9, rfl, -, -⟩ : ∃ A9 n9, v9 = .slice A9 (nC + 1) n9 ∧ True ∧ True := by
      rcases O9.2 with ⟨e, e2⟩ | ⟨g, cap, cur, e, _⟩
      · simp at e2
      · exact ⟨_, cap, e, trivial, trivial⟩
    obtain ⟨w10, hw10⟩ : ∃ z, w9.setCell ⟨b, 5, none⟩ (.slice A9 (nC + 1) n9) = z := ⟨_, rfl⟩
    have happ := HQa.out.app (x := x) g9 (by rw [HNC.out]; exact O9) HXC.out HXM.out
    rw [hw10] at happ
    have HQ10 := Lib.hid happ.1
    have HK10 := Lib.hid (HKa.out.trans happ.2 fun _ _ h => h)
    have HF10 := Lib.hid happ.2
    have HW10 := Lib.hid hw10
    clear happ hw10 O9 g9 hown hrv r9 oc9
    go_wp2_with (first
      | (rw [HW10.out])
      | fail)
    have hq10 := HQ10.out
    have KQ := Lib.hid (fun u (hu : Below w10.heap.size w10 u) => by
      have hm := (hq10.below hu).mem
      have hg := V.own_kept hq10.got hu
      obtain ⟨G2, gc2, e2, r2, l2, m2⟩ := V.rowsV_of_own hg
      have hv : Value.slice A9 (nC + 1) n9 = .slice G2 (d.add x).C.length gc2 := e2
      have hB : B ≤ u.heap.size := Nat.le_trans (hq10.below hu).hb (Nat.le_of_lt (hq10.below hu).lt)
      have := V.quorumR d.g d.N r.A G2 d.M (d.add x).C r.c gc2 u (hm.below (Below.refl B u) (Nat.le_refl _) hB) r2 hq10.mc hq10.mm l2 m2
      rw [← hv] at this
      rw [show V.quo d.M (d.add x).C = (d.add x).enough from hq10.quo, HEN.out, HNM.out] at this
      exact this)
    have KQ2 : Hid (∀ dd os, Calls Try.prog 61 #[.agg #[.int .u8 d.g, .int .u32 d.N, .slice r.A nM r.c], .slice A9 (nC + 1) n9] (grow (redrawn w10 dd) os) fun e w' => e = .returned (.bool true) ∧ Below (grow (redrawn w10 dd) os).heap.size (grow (redrawn w10 dd) os) w') := Lib.hid (fun dd os => KQ.out _ (below_regrown w10 dd os))
    have kc0 := cell_regrown (cell_of hq10.blk 0 (.int .u8 d.g) rfl)
    have kc1 := cell_regrown (cell_of hq10.blk 1 (.int .u32 d.N) rfl)
    have kc2 := cell_regrown (cell_of hq10.blk 2 (.slice r.A nM r.c) (by rw [← HNM.out]; rfl))
    have kc5 := cell_regrown (cell_of hq10.blk 5 (.slice A9 (nC + 1) n9) rfl)
    clear hq10 KQ
    refine wp_region_quiet_below (by kernel_rfl) (by kernel_rfl) ?_
    repeat (go_big_quiet_step (first | (go_at_call 61; exact Calls.regrown_of (KQ2.out _ _)) | fail))
    refine wpQuiet_nil ?_
    rintro W9 ⟨p9, rfl⟩
    have HQ12 := Lib.hid (HQ10.out.below (below_regrown w10 p9.d p9.os))
    have HK12 := Lib.hid (HK10.out.trans (KP.of_below (S := FR b r) (below_regrown w10 p9.d p9.os)) fun _ _ h => h)
    generalize grow (redrawn w10 p9.d) p9.os = W9 at *
    have q4 := cell_of HQ12.out.blk 4 (.int .i64 d.ph) rfl
    have f4 := frz_row 4 HQ12.out.blk
    obtain ⟨w13, hw13⟩ : ∃ z, W9.setCell ⟨b, 4, none⟩ (.int .i64 2) = z := ⟨_, rfl⟩
    have hsp := HQ12.out.setPh 2
    rw [hw13] at hsp
    have q13 := cell_of hsp.1.blk 4 (.int .i64 2) rfl
    have HQ13 := Lib.hid hsp.1
    have HK13 := Lib.hid (HK12.out.trans (KP.ofb (r := r) hsp.2) fun _ _ h => h)
    have HW13 := Lib.hid hw13
    clear hsp hw13
    go_wp2_with (first
      | (rw [HW13.out])
      | fail)
    go_ret
    refine ⟨rfl, fin_of HQ13.out ?_ HK13.out⟩
    exact Pd.acc_yes HPH.out HCN.out HEN.out
  | false =>
    go_enter Try.func34, Try.ntmps34
    go_wp2_with (first
      | (rw [HW0.out, HK0.out])
      | (go_at_call 58
         have KCx := KC.out
         refine KCx.mono ?_
         rintro e w2 ⟨rfl, b2⟩
         have HQ2 := Lib.hid (HQ1.out.below b2)
         have HKP2 := Lib.hid (HKP.out.trans (KP.of_below (S := FR b r) b2) fun _ _ h => h)
         have R2 : Hid (w2.drew.heap[b]? = some (.cells (d.rs r) 80 (0, 0)) ∧ w2.drew.heap[k0]? = some (.cells #[.int .u8 x.n, .int .u16 x.l] 38 (0, 0))) := Lib.hid ⟨HQ2.out.blk, (b2.block k0 (heap_lt RX1.out)).trans RX1.out⟩
         clear b2)
      | fail)
    refine region_heldT (S := fun u => u.heap[b]? = some (.cells (d.rs r) 80 (0, 0)) ∧ u.heap[k0]? = some (.cells #[.int .u8 x.n, .int .u16 x.l] 38 (0, 0))) 8 (by kernel_rfl) (by decide) (fun inv => ?_)
    have HS := R2.out
    change FirstH _ _ _ _ _ _ _ _ _ _ w2.drew
    have HQd := Lib.hid (HQ2.out.below (Below.refl _ _).drew)
    have HKd : Hid (KP (FR b r) W w2.drew) := Lib.hid (HKP2.out.trans (KP.of_below (S := FR b r) (Below.refl _ _).drew) fun _ _ h => h)
    generalize w2.drew = wd at *
    refine FirstH.go (i := 0) (v := .pointer (some ⟨b, 0, none⟩)) rfl rfl 8 rfl (Op.move (.tmp 0)) rfl (by kernel_rfl) (fun _ _ _ h => h) inv (fun W hS => by unfold bareO; go_simp) HS (fun inv => ?_)
    try simp only [Act.put, List.setIfInBounds_toArray, List.set_cons_zero, List.set_cons_succ]
    refine FirstH.go (i := 1) (v := .pointer (some ⟨b, 0, none⟩)) rfl rfl 9 rfl (Op.move (.tmp 0)) rfl (by kernel_rfl) (fun _ _ _ h => h) inv (fun W hS => by unfold bareO; go_simp) HS (fun inv => ?_)
    try simp only [Act.put, List.setIfInBounds_toArray, List.set_cons_zero, List.set_cons_succ]
    refine FirstH.go (i := 2) (v := .pointer (some ⟨b, 0, none⟩)) rfl rfl 10 rfl (Op.nilCheck (.tmp 9)) rfl (by kernel_rfl) (fun _ _ _ h => h) inv (fun W hS => by unfold bareO; go_simp) HS (fun inv => ?_)
    try simp only [Act.put, List.setIfInBounds_toArray, List.set_cons_zero, List.set_cons_succ]
    refine FirstH.go (i := 3) (v := .pointer (some ⟨b, 5, none⟩)) rfl rfl 11 rfl (Op.fieldAddr 80 (.tmp 10) 3) rfl (by kernel_rfl) (fun _ _ _ h => h) inv (fun W hS => by unfold bareO; go_simp) HS (fun inv => ?_)
    try simp only [Act.put, List.setIfInBounds_toArray, List.set_cons_zero, List.set_cons_succ]
    refine FirstH.go (i := 4) (v := .slice G nC gc) rfl rfl 12 rfl (Op.load 30 (.tmp 11)) rfl (by kernel_rfl) (fun _ _ _ h => h) inv (fun W hS => by have c5 := cell_of hS.1 5 (.slice G nC gc) G5.out; have x0 := cell_of hS.2 0 (.int .u8 x.n) rfl; have x1 := cell_of hS.2 1 (.int .u16 x.l) rfl; unfold bareO; go_simp) HS (fun inv => ?_)
    try simp only [Act.put, List.setIfInBounds_toArray, List.set_cons_zero, List.set_cons_succ]
    refine FirstH.go (i := 5) (v := .agg #[.int .u8 x.n, .int .u16 x.l]) rfl rfl 13 rfl (Op.load 38 (.tmp 3)) rfl (by kernel_rfl) (fun _ _ _ h => h) inv (fun W hS => by have c5 := cell_of hS.1 5 (.slice G nC gc) G5.out; have x0 := cell_of hS.2 0 (.int .u8 x.n) rfl; have x1 := cell_of hS.2 1 (.int .u16 x.l) rfl; unfold bareO; go_simp) HS (fun inv => ?_)
    try simp only [Act.put, List.setIfInBounds_toArray, List.set_cons_zero, List.set_cons_succ]
    have kb : b < wd.heap.size := heap_lt HS.1
    have kx : k0 < wd.heap.size := heap_lt HS.2
    obtain ⟨ka, hka⟩ : ∃ k, wd.heap.size = k := ⟨_, rfl⟩
    obtain ⟨wa, hwa⟩ : ∃ z, wd.alloc (.cells #[.int .u8 x.n, .int .u16 x.l] 38) = z := ⟨_, rfl⟩
    have hrv := V.rowsV_new wd x 38
    have ba : Below wd.heap.size wd wa := by rw [← hwa]; exact (Below.refl _ _).alloc (Nat.le_refl _) _
    rw [hwa, hka] at hrv
    have HQa := Lib.hid (HQd.out.below ba)
    have HKa := Lib.hid (HKd.out.trans (KP.of_below (S := FR b r) ba) fun _ _ h => h)
    have HBa := Lib.hid ba
    have HWa := Lib.hid hwa
    have HKA := Lib.hid hka
    have HSa : wa.heap[b]? = some (.cells (d.rs r) 80 (0, 0)) ∧ wa.heap[k0]? = some (.cells #[.int .u8 x.n, .int .u16 x.l] 38 (0, 0)) := ⟨HQa.out.blk, (ba.block k0 kx).trans HS.2⟩
    refine FirstH.only (i := 6) (by kernel_rfl) (by decide) inv (fun inv => wpOp_run (i := 6) (v := .slice (some ⟨ka, 0, none⟩) 1 1) (w' := wa) rfl rfl 14 rfl (Op.buildSlice 30 1 #[(0, .tmp 13)]) rfl (by unfold bareO; first | (go_simp; done) | (go_simp; rw [HWa.out, HKA.out])) ?_)
    refine ⟨HSa, ?_⟩
    try simp only [Act.put, List.setIfInBounds_toArray, List.set_cons_zero, List.set_cons_succ]
    clear HS kb kx hka hwa ba
    have hown := HQa.out.got
    rw [HGV.out, HNC.out] at hown
    refine FirstH.only (i := 7) (by kernel_rfl) (by decide) inv (fun inv => wpOp_appR (i := 7) rfl rfl 15 rfl (.tmp 12) (.tmp 14) rfl B (.slice G nC gc) nC (V.cellsV d.C) rfl hown ⟨ka, 0, none⟩ [x] 1 1 _ rfl rfl hrv (by have := HFEW.out; simp; omega) (Nat.le_trans HQa.out.hb (Nat.le_of_lt HQa.out.lt)) ?_)
    intro v9 w9 O9 g9
    rw [← HGV.out] at g9
    have HSb : w9.heap[b]? = some (.cells (d.rs r) 80 (0, 0)) ∧ w9.heap[k0]? = some (.cells #[.int .u8 x.n, .int .u16 x.l] 38 (0, 0)) := ⟨(g9.block b HQa.out.lt fun e => HQa.out.apart b e.symm rfl).trans HSa.1, (g9.block k0 (heap_lt HSa.2) fun e => by have := (HQ.out.got.lt k0 e.symm).2; rw [HK0.out] at this; omega).trans HSa.2⟩
    refine ⟨HSb, ?_⟩
    try simp only [Act.put, List.setIfInBounds_toArray, List.set_cons_zero, List.set_cons_succ]
    clear HSa HSb
    refine ⟨by kernel_rfl, ?_⟩
    simp only [List.drop_succ_cons, List.drop_zero]
    have r9 := (g9.block b HQa.out.lt fun e => HQa.out.apart b e.symm rfl).trans HQa.out.blk
    have c9 := cell_of r9 5 (.slice G nC gc) G5.out
    have f9 := frz_row 5 r9
    have oc9 : v9.oneCell' = true := by
      rcases O9.2 with ⟨rfl, _⟩ | ⟨g, cap, cur, rfl, _⟩
      · rfl
      · rfl
    obtain ⟨A9, n9, rfl, -, -⟩ : ∃ A9 n9, v9 = .slice A9 (nC + 1) n9 ∧ True ∧ True := by
      rcases O9.2 with ⟨e, e2⟩ | ⟨g, cap, cur, e, _⟩
      · simp at e2
      · exact ⟨_, cap, e, trivial, trivial⟩
    obtain ⟨w10, hw10⟩ : ∃ z, w9.setCell ⟨b, 5, none⟩ (.slice A9 (nC + 1) n9) = z := ⟨_, rfl⟩
    have happ := HQa.out.app (x := x) g9 (by rw [HNC.out]; exact O9) HXC.out HXM.out
    rw [hw10] at happ
    have HQ10 := Lib.hid happ.1
    have HK10 := Lib.hid (HKa.out.trans happ.2 fun _ _ h => h)
    have HF10 := Lib.hid happ.2
    have HW10 := Lib.hid hw10
    clear happ hw10 O9 g9 hown hrv r9 oc9
    go_wp2_with (first
      | (rw [HW10.out])
      | fail)
    have hq10 := HQ10.out
    have KQ := Lib.hid (fun u (hu : Below w10.heap.size w10 u) => by
      have hm := (hq10.below hu).mem
      have hg := V.own_kept hq10.got hu
      obtain ⟨G2, gc2, e2, r2, l2, m2⟩ := V.rowsV_of_own hg
      have hv : Value.slice A9 (nC + 1) n9 = .slice G2 (d.add x).C.length gc2 := e2
      have hB : B ≤ u.heap.size := Nat.le_trans (hq10.below hu).hb (Nat.le_of_lt (hq10.below hu).lt)
      have := V.quorumR d.g d.N r.A G2 d.M (d.add x).C r.c gc2 u (hm.below (Below.refl B u) (Nat.le_refl _) hB) r2 hq10.mc hq10.mm l2 m2
      rw [← hv] at this
      rw [show V.quo d.M (d.add x).C = (d.add x).enough from hq10.quo, HEN.out, HNM.out] at this
      exact this)
    have KQ2 : Hid (∀ dd os, Calls Try.prog 61 #[.agg #[.int .u8 d.g, .int .u32 d.N, .slice r.A nM r.c], .slice A9 (nC + 1) n9] (grow (redrawn w10 dd) os) fun e w' => e = .returned (.bool false) ∧ Below (grow (redrawn w10 dd) os).heap.size (grow (redrawn w10 dd) os) w') := Lib.hid (fun dd os => KQ.out _ (below_regrown w10 dd os))
    have kc0 := cell_regrown (cell_of hq10.blk 0 (.int .u8 d.g) rfl)
    have kc1 := cell_regrown (cell_of hq10.blk 1 (.int .u32 d.N) rfl)
    have kc2 := cell_regrown (cell_of hq10.blk 2 (.slice r.A nM r.c) (by rw [← HNM.out]; rfl))
    have kc5 := cell_regrown (cell_of hq10.blk 5 (.slice A9 (nC + 1) n9) rfl)
    clear hq10 KQ
    refine wp_region_quiet_below (by kernel_rfl) (by kernel_rfl) ?_
    repeat (go_big_quiet_step (first | (go_at_call 61; exact Calls.regrown_of (KQ2.out _ _)) | fail))
    refine wpQuiet_nil ?_
    rintro W9 ⟨p9, rfl⟩
    have HQ12 := Lib.hid (HQ10.out.below (below_regrown w10 p9.d p9.os))
    have HK12 := Lib.hid (HK10.out.trans (KP.of_below (S := FR b r) (below_regrown w10 p9.d p9.os)) fun _ _ h => h)
    generalize grow (redrawn w10 p9.d) p9.os = W9 at *
    have q4 := cell_of HQ12.out.blk 4 (.int .i64 1) (by rw [← HPH.out]; rfl)
    go_wp2_with fail
    go_ret
    refine ⟨rfl, fin_of HQ12.out ?_ HK12.out⟩
    exact Pd.acc_few HPH.out HCN.out HEN.out
/-- what Propose makes of the document's proposer. -/
def Pd.proposeR (d : Pd) (wish : List P2) : Pd := { d with ph := 1, C := [], vd := d.choose wish }
/-- how it ends. -/
def ProQ (W : World) (B b : Nat) (d : Pd) (r : Rw) (X : List P2) (e : Ending) (W' : World) : Prop :=
  ∃ z : Vl, e = .returned (.tuple #[.agg z.cs, .bool d.ready]) ∧ z.At W' B ∧ z.d = (if d.ready then d.choose X else ([], [])) ∧ ∃ r', DQ W' B b (if d.ready then d.proposeR X else d) r' ∧ KP (FR b r) W W'
set_option maxRecDepth 100000 in
set_option maxHeartbeats 2000000 in
theorem rPropose (W : World) (B b : Nat) (d : Pd) (r : Rw) (h : DQ W B b d r) (A : Option Addr) (X : List P2) (c : Nat) (hr : V.RowsV W B A X) (hc : X.length ≤ c) (hm : c ≤ maxLen) (hx : X.length ≤ 1000) :
    Calls Try.prog 32 #[.pointer (some ⟨b, 0, none⟩), .slice A X.length c] W fun e W' => ProQ W B b d r X e W' := by
  obtain ⟨k, hk⟩ : ∃ k, W.heap.size = k := ⟨_, rfl⟩
  have hkb : b < k := by rw [← hk]; exact h.lt
  obtain ⟨w1, hw1⟩ : ∃ z, W.alloc (.cells #[.slice none 0 0, .slice none 0 0] 33) = z := ⟨_, rfl⟩
  have b1 : Below W.heap.size W w1 := by rw [← hw1]; exact (Below.refl _ _).alloc (Nat.le_refl _) _
  have r1 : w1.heap[k]? = some (.cells #[.slice none 0 0, .slice none 0 0] 33 (0, 0)) := by rw [← hw1, ← hk]; exact heap_alloc_new _ _
  have KR := Lib.hid (rReady w1 B b d r (h.below b1))
  have H0 := Lib.hid h
  have H1 := Lib.hid (h.below b1)
  have HKB := Lib.hid hkb
  have HBK : Hid (B ≤ k) := Lib.hid (by have := h.hb; omega)
  have HW1 := Lib.hid hw1
  have HK := Lib.hid hk
  have B1 := Lib.hid b1
  have R1 := Lib.hid r1
  have HR := Lib.hid hr
  have HC := Lib.hid hc
  have HM := Lib.hid hm
  have HXL := Lib.hid hx
  obtain ⟨n, hn⟩ : ∃ n, X.length = n := ⟨_, rfl⟩
  have HN := Lib.hid hn
  rw [hn]
  obtain ⟨At, ct, htx, -, -, -⟩ := h.tx.t
  obtain ⟨nL, hnL⟩ : ∃ n, r.tx.L.length = n := ⟨_, rfl⟩
  rw [hnL] at htx
  have HTX := Lib.hid htx
  have HNL := Lib.hid hnL
  obtain ⟨Ah, ch, hhm, -, -, -⟩ := h.hx.m
  obtain ⟨Ag, cg, hht, -, -, -⟩ := h.hx.t
  obtain ⟨nh, hnh⟩ : ∃ n, r.hx.X.length = n := ⟨_, rfl⟩
  obtain ⟨ng, hng⟩ : ∃ n, r.hx.L.length = n := ⟨_, rfl⟩
  rw [hnh] at hhm
  rw [hng] at hht
  have HHM := Lib.hid hhm
  have HHT := Lib.hid hht
  clear h hw1 b1 r1 hk hkb hr hc hm hx hn htx hnL hhm hht hnh hng
  obtain ⟨rd, hrd⟩ : ∃ z, d.ready = z := ⟨_, rfl⟩
  rw [hrd] at KR
  have HRD := Lib.hid hrd
  clear hrd
  cases rd with
  | false =>
    go_enter Try.func32, Try.ntmps32
    go_wp2_with (first
      | (rw [HW1.out, HK.out])
      | (go_at_call 37; refine KR.out.mono ?_; rintro e w2 ⟨rfl, b2⟩
         have r2 : w2.heap[k]? = some (.cells #[.slice none 0 0, .slice none 0 0] 33 (0, 0)) := (b2.block k (heap_lt R1.out)).trans R1.out
         have B2 := Lib.hid (B1.out.trans (b2.mono B1.out.size))
         have H2 := Lib.hid (H1.out.below b2)
         have R2 := Lib.hid r2
         obtain ⟨w3, hw3⟩ : ∃ z, w2.setRow k #[.slice none 0 0, .slice none 0 0] = z := ⟨_, rfl⟩
         have r3 : w3.heap[k]? = some (.cells #[.slice none 0 0, .slice none 0 0] 33 (0, 0)) := by rw [← hw3]; exact setRow_heapG _ _ _ _ _ _ r2
         have kp : KP (fun j => j = k) w2 w3 := by rw [← hw3]; exact KP.setRow w2 k _ rfl
         have bb3 : Below k w2 w3 := kp.below (Nat.le_of_lt (heap_lt r2)) fun j hj => Nat.le_of_eq hj.symm
         have B3 : Hid (Below W.heap.size W w3) := Lib.hid (B2.out.trans (HK.out ▸ bb3))
         have H3 : Hid (DQ w3 B b d r) := Lib.hid (H2.out.keep kp (by rintro i rfl; exact HBK.out) (by have := HKB.out; omega) (fun g e => by
           obtain ⟨cur, hc⟩ := row_block H2.out.got e
           exact apart_of hc r2 (by decide)))
         have R3 := Lib.hid r3
         have HW3 := Lib.hid hw3
         clear b2 r2 r3 hw3 bb3 kp)
      | (have R2x := R2.out
         refine wpList_store_row rfl 33 (.tmp 4) (.tmp 9) rfl k #[.slice none 0 0, .slice none 0 0] (by rfl) (by rfl) 33 _ R2x (by kernel_rfl) rfl (by simp [Value.oneCell']) ?_
         rw [HW3.out]))
    refine bodyPost_ret (v := .tuple #[.agg #[.slice none 0 0, .slice none 0 0], .bool false]) (by
      have c0 := cell_of R3.out 0 (.slice none 0 0) rfl
      have c1 := cell_of R3.out 1 (.slice none 0 0) rfl
      simp [results, Try.results32, go_sem]
      try go_simp) rfl ⟨V0, by rw [HRD.out]; rfl, V0.at_ _ _, by rw [HRD.out]; rfl, by rw [HRD.out]; exact ⟨_, H3.out, KP.of_below B3.out⟩⟩
  | true =>
    obtain ⟨hh, hhh⟩ : ∃ z, d.hh = z := ⟨_, rfl⟩
    have HHH := Lib.hid hhh
    clear hhh
    cases hh with
    | false =>
      go_enter Try.func32, Try.ntmps32
      go_wp2_with (first
        | (rw [HW1.out, HK.out])
        | (go_at_call 37; refine KR.out.mono ?_; rintro e w2 ⟨rfl, b2⟩
           have r2 := (b2.block k (heap_lt R1.out)).trans R1.out
           have B2 := B1.out.trans (b2.mono B1.out.size)
           have h2 := H1.out.below b2
           have q4 := cell_of h2.blk 4 (.int .i64 d.ph) rfl
           have f4 := frz_row 4 h2.blk
           obtain ⟨w3, hw3⟩ : ∃ z, w2.setCell ⟨b, 4, none⟩ (.int .i64 1) = z := ⟨_, rfl⟩
           have h3 := h2.setPh 1
           rw [hw3] at h3
           have q5 := cell_of h3.1.blk 5 r.gv rfl
           have f5 := frz_row 5 h3.1.blk
           obtain ⟨w4, hw4⟩ : ∃ z, w3.setCell ⟨b, 5, none⟩ (.slice none 0 0) = z := ⟨_, rfl⟩
           have h4 := h3.1.clr
           rw [hw4] at h4
           have q10 := cell_of h4.1.blk 10 (.slice At nL ct) (by rw [← HTX.out]; rfl)
           have T4 := Lib.hid (there_row (g := b) (o := 11) (n := 2) h4.1.blk (by show 11 + 2 ≤ 13; omega))
           have k24 := h3.2.trans h4.2 fun _ _ h => h
           have rr := HR.out.below ((B2.mono (by rw [HK.out]; exact HBK.out) : Below B W w2).trans (k24.below (base := B) (Nat.le_trans HBK.out (Nat.le_of_lt (heap_lt r2))) fun j hj => by rw [hj]; exact H0.out.hb)) (Nat.le_refl _) (Nat.le_refl _)
           have hz : (⟨.slice A n c, X, .slice At nL ct, r.tx.L⟩ : Vl).At w4 B := ⟨⟨A, c, by rw [← HN.out], rr, HC.out, HM.out⟩, by
             obtain ⟨A', c', e', t1, t2, t3⟩ := h4.1.tx.t
             exact ⟨A', c', by rw [← HTX.out]; exact e', t1, t2, t3⟩, HXL.out, h4.1.tx.lt⟩
           obtain ⟨w5, hw5⟩ : ∃ z, w4.setCells b 11 [.slice A n c, .slice At nL ct] = z := ⟨_, rfl⟩
           have h5 := h4.1.vset _ hz hw5
           have q9 := cell_of h5.1.blk 9 (.bool false) (by rw [← HHH.out]; rfl)
           obtain ⟨w6, hw6⟩ : ∃ z, w5 = z := ⟨_, rfl⟩
           subst hw6
           have h6 := h5
           have k26 := k24.trans h5.2 fun _ _ h => h
           have q11 := cell_of h6.1.blk 11 (.slice A n c) rfl
           have q12 := cell_of h6.1.blk 12 (.slice At nL ct) rfl
           have r6 := (k26.block k (heap_lt r2) (by have := HKB.out; omega)).trans r2
           obtain ⟨w7, hw7⟩ : ∃ z, w5.setRow k #[.slice A n c, .slice At nL ct] = z := ⟨_, rfl⟩
           have r7 : w7.heap[k]? = some (.cells #[.slice A n c, .slice At nL ct] 33 (0, 0)) := by rw [← hw7]; exact setRow_heapG _ _ _ _ _ _ r6
           have kp7 : KP (fun j => j = k) w5 w7 := by rw [← hw7]; exact KP.setRow w5 k _ rfl
           have h7 := h6.1.keep kp7 (by rintro i rfl; exact HBK.out) (by have := HKB.out; omega) (fun g e => by
             obtain ⟨cur, hc⟩ := row_block h6.1.got e
             exact apart_of hc r6 (by decide))
           have KF : Hid (KP (FR b r) W w7) := Lib.hid (((KP.of_below (S := FR b r) B2).trans (KP.ofb (r := r) k26) fun _ _ h => h).trans (kp7.mono (T := fun j => j = k) fun i e => e) fun i hi e => absurd hi (by rw [e, HK.out]; omega))
           have R6 := Lib.hid r6
           have R7 := Lib.hid r7
           have H7 := Lib.hid h7
           have HW3 := Lib.hid hw3
           have HW4 := Lib.hid hw4
           have HW5 := Lib.hid hw5
           have HW6 := Lib.hid True.intro
           have HW7 := Lib.hid hw7
           clear b2 r2 B2 h2 h3 h4 h5 h6 h7 hz rr k24 k26 kp7 r6 r7 hw3 hw4 hw5  hw7)
        | (rw [HW3.out])
        | (rw [HW4.out])
        | (have Tx := T4.out
           refine wpList_store_mid rfl 33 (.tmp 24) (.tmp 22) rfl b 11 #[.slice A n c, .slice At nL ct] (by rfl) (by rfl) Tx (by kernel_rfl) (by simp [Value.oneCell']) ?_
           rw [HW5.out])
        | (have R6x := R6.out
           refine wpList_store_row rfl 33 (.tmp 4) (.tmp 39) rfl k #[.slice A n c, .slice At nL ct] (by rfl) (by rfl) 33 _ R6x (by kernel_rfl) rfl (by simp [Value.oneCell']) ?_
           rw [HW7.out])
        | fail)
      refine bodyPost_ret (v := .tuple #[.agg #[.slice A n c, .slice At nL ct], .bool true]) (by
        have c0 := cell_of R7.out 0 (.slice A n c) rfl
        have c1 := cell_of R7.out 1 (.slice At nL ct) rfl
        simp [results, Try.results32, go_sem]
        try go_simp) rfl ?_
      have hv := H7.out.vx
      have hch : d.choose X = (X, d.Lg) := by simp [Pd.choose, HHH.out]
      have hd7 := H7.out.hd
      have htd := H7.out.td
      refine ⟨⟨.slice A n c, X, .slice At nL ct, r.tx.L⟩, by rw [HRD.out]; rfl, hv, by rw [HRD.out, if_pos rfl, hch]; simp only [Vl.d]; rw [show r.tx.L.map Le.v = d.Lg from htd], ?_⟩
      rw [HRD.out, if_pos rfl]
      refine fin_of H7.out ?_ KF.out
      unfold Pd.proposeR
      rw [hch]
      simp only [Vl.d]
      rw [show r.tx.L.map Le.v = d.Lg from htd]
    | true =>
      go_enter Try.func32, Try.ntmps32
      go_wp2_with (first
        | (rw [HW1.out, HK.out])
        | (go_at_call 37; refine KR.out.mono ?_; rintro e w2 ⟨rfl, b2⟩
           have r2 := (b2.block k (heap_lt R1.out)).trans R1.out
           have B2 := B1.out.trans (b2.mono B1.out.size)
           have h2 := H1.out.below b2
           have q4 := cell_of h2.blk 4 (.int .i64 d.ph) rfl
           have f4 := frz_row 4 h2.blk
           obtain ⟨w3, hw3⟩ : ∃ z, w2.setCell ⟨b, 4, none⟩ (.int .i64 1) = z := ⟨_, rfl⟩
           have h3 := h2.setPh 1
           rw [hw3] at h3
           have q5 := cell_of h3.1.blk 5 r.gv rfl
           have f5 := frz_row 5 h3.1.blk
           obtain ⟨w4, hw4⟩ : ∃ z, w3.setCell ⟨b, 5, none⟩ (.slice none 0 0) = z := ⟨_, rfl⟩
           have h4 := h3.1.clr
           rw [hw4] at h4
           have q10 := cell_of h4.1.blk 10 (.slice At nL ct) (by rw [← HTX.out]; rfl)
           have T4 := Lib.hid (there_row (g := b) (o := 11) (n := 2) h4.1.blk (by show 11 + 2 ≤ 13; omega))
           have k24 := h3.2.trans h4.2 fun _ _ h => h
           have rr := HR.out.below ((B2.mono (by rw [HK.out]; exact HBK.out) : Below B W w2).trans (k24.below (base := B) (Nat.le_trans HBK.out (Nat.le_of_lt (heap_lt r2))) fun j hj => by rw [hj]; exact H0.out.hb)) (Nat.le_refl _) (Nat.le_refl _)
           have hz : (⟨.slice A n c, X, .slice At nL ct, r.tx.L⟩ : Vl).At w4 B := ⟨⟨A, c, by rw [← HN.out], rr, HC.out, HM.out⟩, by
             obtain ⟨A', c', e', t1, t2, t3⟩ := h4.1.tx.t
             exact ⟨A', c', by rw [← HTX.out]; exact e', t1, t2, t3⟩, HXL.out, h4.1.tx.lt⟩
           obtain ⟨w5, hw5⟩ : ∃ z, w4.setCells b 11 [.slice A n c, .slice At nL ct] = z := ⟨_, rfl⟩
           have h5 := h4.1.vset _ hz hw5
           have q9 := cell_of h5.1.blk 9 (.bool true) (by rw [← HHH.out]; rfl)
           have q7 := cell_of h5.1.blk 7 (.slice Ah nh ch) (by rw [← HHM.out]; rfl)
           have q8 := cell_of h5.1.blk 8 (.slice Ag ng cg) (by rw [← HHT.out]; rfl)
           have T5 := Lib.hid (there_row (g := b) (o := 11) (n := 2) h5.1.blk (by show 11 + 2 ≤ 13; omega))
           obtain ⟨w6, hw6⟩ : ∃ z, w5.setCells b 11 [.slice Ah nh ch, .slice Ag ng cg] = z := ⟨_, rfl⟩
           have h6 := h5.1.vset (W' := w6) r.hx h5.1.hx (by rw [HHM.out, HHT.out]; exact hw6)
           have k26 := (k24.trans h5.2 fun _ _ h => h).trans h6.2 fun _ _ h => h
           have q11 := cell_of h6.1.blk 11 (.slice Ah nh ch) (by rw [← HHM.out]; rfl)
           have q12 := cell_of h6.1.blk 12 (.slice Ag ng cg) (by rw [← HHT.out]; rfl)
           have r6 := (k26.block k (heap_lt r2) (by have := HKB.out; omega)).trans r2
           obtain ⟨w7, hw7⟩ : ∃ z, w6.setRow k #[.slice Ah nh ch, .slice Ag ng cg] = z := ⟨_, rfl⟩
           have r7 : w7.heap[k]? = some (.cells #[.slice Ah nh ch, .slice Ag ng cg] 33 (0, 0)) := by rw [← hw7]; exact setRow_heapG _ _ _ _ _ _ r6
           have kp7 : KP (fun j => j = k) w6 w7 := by rw [← hw7]; exact KP.setRow w6 k _ rfl
           have h7 := h6.1.keep kp7 (by rintro i rfl; exact HBK.out) (by have := HKB.out; omega) (fun g e => by
             obtain ⟨cur, hc⟩ := row_block h6.1.got e
             exact apart_of hc r6 (by decide))
           have KF : Hid (KP (FR b r) W w7) := Lib.hid (((KP.of_below (S := FR b r) B2).trans (KP.ofb (r := r) k26) fun _ _ h => h).trans (kp7.mono (T := fun j => j = k) fun i e => e) fun i hi e => absurd hi (by rw [e, HK.out]; omega))
           have R6 := Lib.hid r6
           have R7 := Lib.hid r7
           have H7 := Lib.hid h7
           have HW3 := Lib.hid hw3
           have HW4 := Lib.hid hw4
           have HW5 := Lib.hid hw5
           have HW6 := Lib.hid hw6
           have HW7 := Lib.hid hw7
           clear b2 r2 B2 h2 h3 h4 h5 h6 h7 hz rr k24 k26 kp7 r6 r7 hw3 hw4 hw5 hw6 hw7)
        | (rw [HW3.out])
        | (rw [HW4.out])
        | (have Tx := T4.out
           refine wpList_store_mid rfl 33 (.tmp 24) (.tmp 22) rfl b 11 #[.slice A n c, .slice At nL ct] (by rfl) (by rfl) Tx (by kernel_rfl) (by simp [Value.oneCell']) ?_
           rw [HW5.out])
        | (have Tx := T5.out
           refine wpList_store_mid rfl 33 (.tmp 35) (.tmp 33) rfl b 11 #[.slice Ah nh ch, .slice Ag ng cg] (by rfl) (by rfl) Tx (by kernel_rfl) (by simp [Value.oneCell']) ?_
           rw [HW6.out])
        | (have R6x := R6.out
           refine wpList_store_row rfl 33 (.tmp 4) (.tmp 39) rfl k #[.slice Ah nh ch, .slice Ag ng cg] (by rfl) (by rfl) 33 _ R6x (by kernel_rfl) rfl (by simp [Value.oneCell']) ?_
           rw [HW7.out])
        | fail)
      refine bodyPost_ret (v := .tuple #[.agg #[.slice Ah nh ch, .slice Ag ng cg], .bool true]) (by
        have c0 := cell_of R7.out 0 (.slice Ah nh ch) rfl
        have c1 := cell_of R7.out 1 (.slice Ag ng cg) rfl
        simp [results, Try.results32, go_sem]
        try go_simp) rfl ?_
      have hv := H7.out.vx
      have hch : d.choose X = d.hd := by simp [Pd.choose, HHH.out]
      have hd7 := H7.out.hd
      have htd := H7.out.td
      refine ⟨r.hx, by rw [HRD.out]; simp only [Vl.cs]; rw [HHM.out, HHT.out], hv, by rw [HRD.out, if_pos rfl, hch]; exact hd7, ?_⟩
      rw [HRD.out, if_pos rfl]
      refine fin_of H7.out ?_ KF.out
      unfold Pd.proposeR
      rw [hch, show r.hx.d = d.hd from hd7]
end

section
set_option linter.unusedSimpArgs false
set_option linter.unusedVariables false
open Go.RowKit Go.Maps Go.Sort
open V (P2)

def mis (d : Pd) (k : Nat) : List P2 := (d.M.take k).filter fun x => decide (x ∉ d.C)
theorem mis_all {d : Pd} (h : ¬ d.ph = 2) : mis d d.M.length = d.missing := by simp [mis, Pd.missing, h, List.take_length]
theorem mis_in {d : Pd} {k : Nat} {x : P2} (h : d.M[k]? = some x) (hx : x ∈ d.C) : mis d (k + 1) = mis d k := by simp [mis, List.take_add_one, h, hx]
theorem mis_out {d : Pd} {k : Nat} {x : P2} (h : d.M[k]? = some x) (hx : x ∉ d.C) : mis d (k + 1) = mis d k ++ [x] := by simp [mis, List.take_add_one, h, hx]
theorem mis_le (d : Pd) (k : Nat) : (mis d k).length ≤ d.M.length := Nat.le_trans (List.length_filter_le _ _) (by rw [List.length_take]; omega)
theorem mis_0 (d : Pd) : mis d 0 = [] := by simp [mis]
/-- how Missing ends. -/
def MisR (e0 : TypeId) (L : List P2) (W : World) (e : Ending) (W' : World) : Prop := ∃ v, e = .returned v ∧ W'.ownsRow W.heap.size e0 2 v L.length (V.cellsV L) ∧ Below W.heap.size W W'
theorem own_app {w : World} {e : TypeId} {v : Value} {d : Pd} {k B : Nat} {x : P2} (h : d.M[k]? = some x) (hx : x ∉ d.C) (o : w.ownsRow B e 2 v ((mis d k).length + 1) (V.cellsV (mis d k) ++ V.cellsV [x])) : w.ownsRow B e 2 v (mis d (k + 1)).length (V.cellsV (mis d (k + 1))) := by
  rw [mis_out h hx, List.length_append, show V.cellsV (mis d k ++ [x]) = V.cellsV (mis d k) ++ V.cellsV [x] by simp [V.cellsV]]
  exact o

set_option maxRecDepth 100000 in
set_option maxHeartbeats 2000000 in
theorem rMissing (W : World) (B b : Nat) (d : Pd) (r : Rw) (h : DQ W B b d r) :
    Calls Try.prog 43 #[.pointer (some ⟨b, 0, none⟩)] W fun e W' => MisR 38 d.missing W e W' := by
  obtain ⟨i0, hi0, hz0, hz1, hz2⟩ := info_parts V.rpr_info
  obtain ⟨G, gc, hgv, -, -, -⟩ := V.rowsV_of_own h.got
  obtain ⟨k0, hk0⟩ : ∃ k, W.heap.size = k := ⟨_, rfl⟩
  obtain ⟨nC, hnC⟩ : ∃ n, d.C.length = n := ⟨_, rfl⟩
  obtain ⟨nM, hnM⟩ : ∃ n, d.M.length = n := ⟨_, rfl⟩
  rw [hnC] at hgv
  have HFEW := Lib.hid h.few
  have HGV := Lib.hid hgv
  have HNC := Lib.hid hnC
  have HNM := Lib.hid hnM
  have HK0 := Lib.hid hk0
  have HQ := Lib.hid h
  have HMC : Hid (nM ≤ r.c ∧ r.c ≤ maxLen) := Lib.hid ⟨by rw [← hnM]; exact h.mc, h.mm⟩
  obtain ⟨p, hp⟩ : ∃ z, d.ph = z := ⟨_, rfl⟩
  have HP := Lib.hid hp
  have hmcI : (nM : Int) ≤ (r.c : Int) := by have := HMC.out.1; omega
  have hk8 : nM ≤ 8 := by have := HFEW.out.1; rw [hnM] at this; exact this
  clear h hgv hnC hnM hk0 hp
  go_enter Try.func43, Try.ntmps43
  go_wp2
  go_loopw [3, 4] (fun v i wx => ∃ k : Nat, k ≤ nM ∧ i = .int .i64 k ∧ Hid (p = 2 → k = 0) ∧ Hid (wx.ownsRow k0 38 2 v (mis d k).length (V.cellsV (mis d k))) ∧ Hid (Below k0 W wx)) (fun _ i _ => nM - (intOf i).toNat)
  case atStart => exact ⟨0, by omega, rfl, Lib.hid (fun _ => rfl), Lib.hid (by rw [mis_0]; exact World.ownsRow_nil _ _ _ _), Lib.hid (Below.refl _ _)⟩
  case round =>
    obtain ⟨k, hk, rfl, P0, O, BB⟩ := hrel
    have HQr := Lib.hid (HQ.out.below (HK0.out.symm ▸ BB.out))
    have HSZ : Hid (k0 ≤ wr.heap.size) := Lib.hid (by rw [← HK0.out]; exact BB.out.size)
    have c2 := cell_of HQr.out.blk 2 (.slice r.A nM r.c) (by rw [← HNM.out]; rfl)
    have c4 := cell_of HQr.out.blk 4 (.int .i64 p) (by rw [← HP.out]; rfl)
    have c5 := cell_of HQr.out.blk 5 (.slice G nC gc) (by rw [← HGV.out]; rfl)
    by_cases hlt : k < nM
    · have hji : (k : Int) < (nM : Int) := by omega
      by_cases hp2 : p = 2
      · have HE : Hid (mis d k = d.missing) := Lib.hid (by rw [P0.out hp2, mis_0]; simp [Pd.missing, HP.out, hp2])
        subst hp2
        rw [HE.out] at O
        go_wp2
        go_ret
        exact ⟨_, rfl, by rw [HK0.out]; exact O.out, by rw [HK0.out]; exact BB.out⟩
      · have hp2b : (p == 2) = false := by simpa using hp2
        have hp2c : (p != 2) = true := by simpa using hp2
        have hMk : k < d.M.length := by rw [HNM.out]; exact hlt
        obtain ⟨ba, oa, hA, hlta, C⟩ := HQr.out.mem.at_ hMk
        have hx : d.M[k]? = some d.M[k] := List.getElem?_eq_getElem hMk
        have HX := Lib.hid hx
        rw [hA] at c2
        obtain ⟨e0, e1⟩ := C
        clear hx
        generalize d.M[k] = x at *
        clear hMk
        have KR : Hid (∀ dd os, Calls Try.prog 64 #[.slice G nC gc, .agg #[.int .u8 x.n, .int .u16 x.l]] (grow (redrawn wr dd) os) fun e w' => e = .returned (.int .i64 (V.rk d.C x)) ∧ Below (grow (redrawn wr dd) os).heap.size (grow (redrawn wr dd) os) w') := Lib.hid (fun dd os => by
          have hq := HQr.out.below (below_regrown wr dd os)
          obtain ⟨G2, gc2, e2, r2, l2, m2⟩ := V.rowsV_of_own hq.got
          have := V.rank G2 d.C x gc2 _ r2 l2 m2
          rw [← e2, HGV.out] at this
          exact this)
        have HAA := Lib.hid hA
        have HLA := Lib.hid hlta
        have kc2 := cell_regrown c2
        have kc5 := cell_regrown c5
        have ke0 := cell_regrown e0
        have ke1 := cell_regrown e1
        obtain ⟨rc, hrc⟩ : ∃ z, V.rk d.C x = z := ⟨_, rfl⟩
        rw [hrc] at KR
        by_cases hneg : rc < 0
        · have hdn : decide (rc < 0) = true := decide_eq_true hneg
          have HXO : Hid (x ∉ d.C) := Lib.hid ((V.rk_neg d.C x).1 (by rw [hrc]; exact hneg))
          clear hA hlta hrc
          go_wp2_with fail
          refine wp_region_quiet_below (by kernel_rfl) (by kernel_rfl) ?_
          repeat (go_big_quiet_step (first | (go_at_call 64; exact Calls.regrown_of (KR.out _ _)) | fail))
          refine wpQuiet_nil ?_
          rintro W9 ⟨p9, rfl⟩
          have b9 := below_regrown wr p9.d p9.os
          have B9 := Lib.hid (BB.out.trans (b9.mono HSZ.out))
          generalize grow (redrawn wr p9.d) p9.os = W9 at *
          have HO9 := Lib.hid (V.own_kept O.out b9)
          have HQ9 := Lib.hid (HQr.out.below b9)
          have e09 := (b9.cell (p := ⟨ba, oa + k * 2, none⟩) (World.block_lt_of_cell? _ _ e0)).trans e0
          have e19 := (b9.cell (p := ⟨ba, oa + k * 2 + 1, none⟩) (World.block_lt_of_cell? _ _ e1)).trans e1
          have c29 := (b9.cell (p := ⟨b, 2, none⟩) (World.block_lt_of_cell? _ _ c2)).trans c2
          obtain ⟨k9, hk9⟩ : ∃ z, W9.heap.size = z := ⟨_, rfl⟩
          obtain ⟨W10, hw10⟩ : ∃ z, W9.alloc (.cells #[.int .u8 x.n, .int .u16 x.l] 38) = z := ⟨_, rfl⟩
          have b10 : Below W9.heap.size W9 W10 := by rw [← hw10]; exact (Below.refl _ _).alloc (Nat.le_refl _) _
          have hrv := V.rowsV_new W9 x 38
          rw [hw10, hk9] at hrv
          have HO10 := Lib.hid (V.own_kept HO9.out b10)
          have HB10 := Lib.hid (B9.out.trans (b10.mono (Nat.le_trans HSZ.out b9.size)))
          have HS10 : Hid (k0 ≤ W10.heap.size) := Lib.hid (Nat.le_trans HSZ.out (Nat.le_trans b9.size b10.size))
          have HRV := Lib.hid hrv
          have HW10 := Lib.hid hw10
          have HK9 := Lib.hid hk9
          obtain ⟨nm, hnm⟩ : ∃ z, (mis d k).length = z := ⟨_, rfl⟩
          have HNm : Hid (nm ≤ 8) := Lib.hid (by have := mis_le d k; have := HFEW.out.1; omega)
          rw [hnm] at HO10
          have HNN := Lib.hid hnm
          clear b9 b10 hrv hw10 hk9 kc2 kc5 ke0 ke1 c2 c4 c5 e0 e1 KR hnm
          go_wp2_with (first
            | (rw [HW10.out, HK9.out])
            | (at_builtin
               refine wpList_append_own _ rfl (.tmp 36) (.tmp 45) 30 rfl k0 38 i0 _ 2 4 Try.underlying30 hi0 hz0 hz1 hz2 rfl (by decide) _ nm _ rfl HO10.out ⟨k9, 0, none⟩ 1 1 (V.cellsV [x]) rfl rfl (V.cells_of_rowsV HRV.out) (V.cellsV_one [x]) (by have := HNm.out; unfold maxLen; omega) (by have := HNm.out; omega) HS10.out ?_
               intro v' w' hown' hgrow' hnil'
               have BBn := Lib.hid (HB10.out.grown hgrow' HS10.out fun j hj => (HO10.out.lt j hj).1)
               rw [← HNN.out] at hown'
               have OO := Lib.hid (own_app HX.out HXO.out hown')
               clear hown' hgrow' hnil')
            | fail)
          go_roundw
          case rel => exact ⟨k + 1, by omega, by go_num, Lib.hid (fun e => absurd e hp2), OO, BBn⟩
          case measure => simp [intOf]; omega
        · have hdn : decide (rc < 0) = false := decide_eq_false hneg
          have HXI : Hid (x ∈ d.C) := Lib.hid (Classical.byContradiction fun hh => hneg (by rw [← hrc]; exact (V.rk_neg d.C x).2 hh))
          clear hA hlta hrc
          go_wp2_with fail
          refine wp_region_quiet_below (by kernel_rfl) (by kernel_rfl) ?_
          repeat (go_big_quiet_step (first | (go_at_call 64; exact Calls.regrown_of (KR.out _ _)) | fail))
          refine wpQuiet_nil ?_
          rintro W9 ⟨p9, rfl⟩
          have b9 := below_regrown wr p9.d p9.os
          have B9 := Lib.hid (BB.out.trans (b9.mono HSZ.out))
          generalize grow (redrawn wr p9.d) p9.os = W9 at *
          have OO := Lib.hid (V.own_kept O.out b9)
          rw [← mis_in HX.out HXI.out] at OO
          clear b9 kc2 kc5 ke0 ke1 c2 c4 c5 e0 e1 KR
          go_wp2_with fail
          go_roundw
          case rel => exact ⟨k + 1, by omega, by go_num, Lib.hid (fun e => absurd e hp2), OO, B9⟩
          case measure => simp [intOf]; omega
    · have hkk : k = nM := by omega
      have HE : Hid (mis d k = d.missing) := Lib.hid (by
        by_cases h2 : p = 2
        · rw [P0.out h2, mis_0]
          simp [Pd.missing, HP.out, h2]
        · rw [hkk, ← HNM.out]
          exact mis_all (by rw [HP.out]; exact h2))
      rw [HE.out] at O
      subst hkk
      go_wp2
      go_ret
      exact ⟨_, rfl, by rw [HK0.out]; exact O.out, by rw [HK0.out]; exact BB.out⟩
end

section
set_option linter.unusedSimpArgs false
set_option linter.unusedVariables false
open Go.RowKit Go.Maps Go.Sort
open V (P2)

set_option maxRecDepth 100000 in
set_option maxHeartbeats 2000000 in
theorem pMissing (base : Nat) (W : World) (b m : Nat) (d : Pd) (h : PP base W b m d) (hrg : ∀ x ∈ d.M, Rg2 x) :
    Calls Try.prog 42 #[.pointer (some ⟨b, 0, none⟩)] W fun e W' => MisR 67 d.missing W e W' := by
  obtain ⟨i0, hi0, hz0, hz1, hz2⟩ := info_parts V.pr_info
  have K1 := Lib.hid (pMade base W b m d h)
  obtain ⟨⟨mv, lv, Lg, hv, vl⟩, h⟩ := h
  obtain ⟨A, c, hmv, hr, hc, hm, _⟩ := h.mem.rows
  dsimp only at hmv
  subst hmv
  obtain ⟨es, cl, hmap⟩ := h.ct.lt
  obtain ⟨k0, hk0⟩ : ∃ k, W.heap.size = k := ⟨_, rfl⟩
  have HL : Hid (∀ x ∈ d.M, ∀ u, u.heap[m]? = some (.map es cl) → (Instr.lookup 105 (.map (some m)) (.agg #[.int .u8 x.n, .int .u16 x.l]) true).run Try.prog u = .ok (.tuple #[.agg #[], .bool (decide (x ∈ d.C))]) u) := Lib.hid (fun x hx u hu => by
    obtain ⟨es', cl', h1, h2⟩ := h.ct.look x (hrg x hx)
    rw [hmap] at h1
    cases h1
    exact h2 u hu)
  obtain ⟨nM, hnM⟩ : ∃ n, d.M.length = n := ⟨_, rfl⟩
  have HFEW := Lib.hid h.few
  have hk8 : nM ≤ 8 := by have := HFEW.out.1; rw [hnM] at this; exact this
  have HNM := Lib.hid hnM
  have HK0 := Lib.hid hk0
  have HR := Lib.hid hr
  rw [hnM] at hc
  have HCC := Lib.hid hc
  have R0 : Hid (W.heap[b]? = some (.cells (d.cs ⟨.slice A nM c, lv, Lg, hv, vl⟩ m) 107 (0, 0)) ∧ W.heap[m]? = some (.map es cl)) := Lib.hid ⟨by rw [← hnM]; exact h.blk, hmap⟩
  have hcI : (nM : Int) ≤ (c : Int) := by omega
  obtain ⟨p, hp⟩ : ∃ z, d.ph = z := ⟨_, rfl⟩
  have HP := Lib.hid hp
  have c2 := cell_of R0.out.1 2 (.slice A nM c) rfl
  have c4 := cell_of R0.out.1 4 (.int .i64 p) (by rw [← hp]; rfl)
  clear h hmap hr hc hm hnM hk0 hp hrg
  by_cases hp2 : p = 2
  · have HE : Hid (d.missing = []) := Lib.hid (by simp [Pd.missing, HP.out, hp2])
    subst hp2
    rw [HE.out]
    go_enter Try.func42, Try.ntmps42
    go_wp2_with (first
      | (go_at_call 62; refine K1.out.mono ?_; rintro e w1 ⟨rfl, rfl⟩)
      | fail)
    go_ret
    exact ⟨_, rfl, World.ownsRow_nil _ _ _ _, Below.refl _ _⟩
  · have hp2b : (p == 2) = false := by simpa using hp2
    go_enter Try.func42, Try.ntmps42
    go_wp2_with (first
      | (go_at_call 62; refine K1.out.mono ?_; rintro e w1 ⟨rfl, rfl⟩)
      | fail)
    go_loopw [3, 24] (fun v i wx => ∃ k : Nat, k ≤ nM ∧ i = .int .i64 k ∧ Hid (wx.ownsRow k0 67 2 v (mis d k).length (V.cellsV (mis d k))) ∧ Hid (Below k0 W wx)) (fun _ i _ => nM - (intOf i).toNat)
    case atStart => exact ⟨0, by omega, rfl, Lib.hid (by rw [mis_0]; exact World.ownsRow_nil _ _ _ _), Lib.hid (Below.refl _ _)⟩
    case round =>
      obtain ⟨k, hk, rfl, O, BB⟩ := hrel
      have HSZ : Hid (k0 ≤ wr.heap.size) := Lib.hid (by rw [← HK0.out]; exact BB.out.size)
      clear c2 c4
      by_cases hlt : k < nM
      · have hji : (k : Int) < (nM : Int) := by omega
        have hMk : k < d.M.length := by rw [HNM.out]; exact hlt
        obtain ⟨ba, oa, hA, hlta, C⟩ := HR.out.at_ hMk
        have hx : d.M[k]? = some d.M[k] := List.getElem?_eq_getElem hMk
        have HX := Lib.hid hx
        subst hA
        have C2 := C.below BB.out (by rw [← HK0.out]; exact hlta)
        obtain ⟨e0, e1⟩ := C2
        clear hx C
        generalize d.M[k] = x at *
        clear hMk
        have HLx := Lib.hid (HL.out x (List.mem_of_getElem? HX.out))
        obtain ⟨kx, hkx⟩ : ∃ z, wr.heap.size = z := ⟨_, rfl⟩
        obtain ⟨wa, hwa⟩ : ∃ z, wr.alloc (.cells #[.int .u8 x.n, .int .u16 x.l] 67) = z := ⟨_, rfl⟩
        have ba1 : Below k0 wr wa := by rw [← hwa]; exact (Below.refl _ _).alloc HSZ.out _
        have ba2 : Below wr.heap.size wr wa := by rw [← hwa]; exact (Below.refl _ _).alloc (Nat.le_refl _) _
        have rkx : wa.heap[kx]? = some (.cells #[.int .u8 x.n, .int .u16 x.l] 67 (0, 0)) := by rw [← hwa, ← hkx]; exact heap_alloc_new _ _
        have hkb : b < k0 := by rw [← HK0.out]; exact heap_lt R0.out.1
        have hkm : m < k0 := by rw [← HK0.out]; exact heap_lt R0.out.2
        have B1 := Lib.hid (BB.out.trans ba1)
        have RA : Hid (wa.drew.heap[b]? = some (.cells (d.cs ⟨.slice (some ⟨ba, oa, none⟩) nM c, lv, Lg, hv, vl⟩ m) 107 (0, 0)) ∧ wa.drew.heap[m]? = some (.map es cl) ∧ wa.drew.heap[kx]? = some (.cells #[.int .u8 x.n, .int .u16 x.l] 67 (0, 0))) := Lib.hid ⟨(B1.out.block b hkb).trans R0.out.1, (B1.out.block m hkm).trans R0.out.2, rkx⟩
        have O1 := Lib.hid (V.own_kept O.out (ba2.drew))
        have B1d : Hid (Below k0 W wa.drew) := Lib.hid B1.out.drew
        have HSa : Hid (k0 ≤ wa.drew.heap.size) := Lib.hid (Nat.le_trans HSZ.out ba2.size)
        have HWA := Lib.hid hwa
        have HKX := Lib.hid hkx
        clear hwa ba1 ba2 rkx hkb hkm hkx B1
        go_wp2_with (first
          | (rw [HWA.out, HKX.out])
          | fail)
        refine region_heldT (S := fun u => u.heap[b]? = some (.cells (d.cs ⟨.slice (some ⟨ba, oa, none⟩) nM c, lv, Lg, hv, vl⟩ m) 107 (0, 0)) ∧ u.heap[m]? = some (.map es cl) ∧ u.heap[kx]? = some (.cells #[.int .u8 x.n, .int .u16 x.l] 67 (0, 0))) 11 (by kernel_rfl) (by decide) (fun inv => ?_)
        have HS := RA.out
        change FirstH _ _ _ _ _ _ _ _ _ _ wa.drew
        try simp only [HKX.out]
        generalize wa.drew = wd at *
        refine FirstH.go (i := 0) (v := .pointer (some ⟨b, 0, none⟩)) rfl rfl 29 rfl (Op.move (.tmp 0)) rfl (by kernel_rfl) (fun _ _ _ h => h) inv (fun W hS => by unfold bareO; go_simp) HS (fun inv => ?_)
        try simp only [Act.put, List.setIfInBounds_toArray, List.set_cons_zero, List.set_cons_succ]
        refine FirstH.go (i := 1) (v := .pointer (some ⟨b, 0, none⟩)) rfl rfl 30 rfl (Op.nilCheck (.tmp 29)) rfl (by kernel_rfl) (fun _ _ _ h => h) inv (fun W hS => by unfold bareO; go_simp) HS (fun inv => ?_)
        try simp only [Act.put, List.setIfInBounds_toArray, List.set_cons_zero, List.set_cons_succ]
        refine FirstH.go (i := 2) (v := .pointer (some ⟨b, 5, none⟩)) rfl rfl 31 rfl (Op.fieldAddr 107 (.tmp 30) 3) rfl (by kernel_rfl) (fun _ _ _ h => h) inv (fun W hS => by unfold bareO; go_simp) HS (fun inv => ?_)
        try simp only [Act.put, List.setIfInBounds_toArray, List.set_cons_zero, List.set_cons_succ]
        refine FirstH.go (i := 3) (v := .map (some m)) rfl rfl 32 rfl (Op.load 105 (.tmp 31)) rfl (by kernel_rfl) (fun _ _ _ h => h) inv (fun W hS => by have c5 := cell_of hS.1 5 (.map (some m)) rfl; have x0 := cell_of hS.2.2 0 (.int .u8 x.n) rfl; have x1 := cell_of hS.2.2 1 (.int .u16 x.l) rfl; unfold bareO; go_simp) HS (fun inv => ?_)
        try simp only [Act.put, List.setIfInBounds_toArray, List.set_cons_zero, List.set_cons_succ]
        refine FirstH.go (i := 4) (v := .agg #[.int .u8 x.n, .int .u16 x.l]) rfl rfl 33 rfl (Op.load 67 (.tmp 5)) rfl (by kernel_rfl) (fun _ _ _ h => h) inv (fun W hS => by have c5 := cell_of hS.1 5 (.map (some m)) rfl; have x0 := cell_of hS.2.2 0 (.int .u8 x.n) rfl; have x1 := cell_of hS.2.2 1 (.int .u16 x.l) rfl; unfold bareO; go_simp) HS (fun inv => ?_)
        try simp only [Act.put, List.setIfInBounds_toArray, List.set_cons_zero, List.set_cons_succ]
        refine FirstH.go (i := 5) (v := .tuple #[.agg #[], .bool (decide (x ∈ d.C))]) rfl rfl 34 rfl (Op.lookup 105 (.tmp 32) (.tmp 33) true) rfl (by kernel_rfl) (fun _ _ _ h => h) inv (fun W hS => by have hl := HLx.out W hS.2.1; unfold bareO; go_simp) HS (fun inv => ?_)
        try simp only [Act.put, List.setIfInBounds_toArray, List.set_cons_zero, List.set_cons_succ]
        refine FirstH.go (i := 6) (v := .tuple #[.agg #[], .bool (decide (x ∈ d.C))]) rfl rfl 28 rfl (Op.move (.tmp 34)) rfl (by kernel_rfl) (fun _ _ _ h => h) inv (fun W hS => by unfold bareO; go_simp) HS (fun inv => ?_)
        try simp only [Act.put, List.setIfInBounds_toArray, List.set_cons_zero, List.set_cons_succ]
        refine FirstH.go (i := 7) (v := .agg #[]) rfl rfl 35 rfl (Op.extract (.tmp 28) 0) rfl (by kernel_rfl) (fun _ _ _ h => h) inv (fun W hS => by unfold bareO; go_simp) HS (fun inv => ?_)
        try simp only [Act.put, List.setIfInBounds_toArray, List.set_cons_zero, List.set_cons_succ]
        refine FirstH.go (i := 8) (v := .bool (decide (x ∈ d.C))) rfl rfl 36 rfl (Op.extract (.tmp 28) 1) rfl (by kernel_rfl) (fun _ _ _ h => h) inv (fun W hS => by unfold bareO; go_simp) HS (fun inv => ?_)
        try simp only [Act.put, List.setIfInBounds_toArray, List.set_cons_zero, List.set_cons_succ]
        have kd : kx < wd.heap.size := heap_lt HS.2.2
        obtain ⟨kz, hkz⟩ : ∃ z, wd.heap.size = z := ⟨_, rfl⟩
        obtain ⟨w4, hw4⟩ : ∃ z, wd.alloc (.cells #[] 143) = z := ⟨_, rfl⟩
        have b4 : Below wd.heap.size wd w4 := by rw [← hw4]; exact (Below.refl _ _).alloc (Nat.le_refl _) _
        have r4 : w4.heap[kz]? = some (.cells #[] 143 (0, 0)) := by rw [← hw4, ← hkz]; exact heap_alloc_new _ _
        have HS4 : w4.heap[b]? = some (.cells (d.cs ⟨.slice (some ⟨ba, oa, none⟩) nM c, lv, Lg, hv, vl⟩ m) 107 (0, 0)) ∧ w4.heap[m]? = some (.map es cl) ∧ w4.heap[kx]? = some (.cells #[.int .u8 x.n, .int .u16 x.l] 67 (0, 0)) := ⟨(b4.block b (heap_lt HS.1)).trans HS.1, (b4.block m (heap_lt HS.2.1)).trans HS.2.1, (b4.block kx kd).trans HS.2.2⟩
        have R4 := Lib.hid HS4
        have O4 := Lib.hid (V.own_kept O1.out b4)
        have B4 := Lib.hid (B1d.out.trans (b4.mono HSa.out))
        have HS4x : Hid (k0 ≤ w4.heap.size) := Lib.hid (Nat.le_trans HSa.out b4.size)
        have HW4 := Lib.hid hw4
        have HKZ := Lib.hid hkz
        refine FirstH.only (i := 9) (by kernel_rfl) (by decide) inv (fun inv => wpOp_vl (w' := w4) (v := .pointer (some ⟨kz, 0, none⟩)) (i := 9) rfl rfl 6 rfl (Op.alloc 143) rfl (by unfold bareO; first | (go_simp; done) | (go_simp; rw [HW4.out, HKZ.out])) ?_)
        refine ⟨HS4, ?_⟩
        try simp only [Act.put, List.setIfInBounds_toArray, List.set_cons_zero, List.set_cons_succ]
        refine FirstH.only (i := 10) (by kernel_rfl) (by decide) inv (fun inv => wpOp_st (i := 10) rfl rfl rfl (Op.store 143 (.tmp 6) (.tmp 35)) rfl (w' := w4) (by unfold bareO; go_simp) ?_)
        refine ⟨HS4, ?_⟩
        try simp only [Act.put, List.setIfInBounds_toArray, List.set_cons_zero, List.set_cons_succ]
        refine ⟨by kernel_rfl, ?_⟩
        simp only [List.drop_succ_cons, List.drop_zero]
        obtain ⟨hs, hhs⟩ : ∃ z, decide (x ∈ d.C) = z := ⟨_, rfl⟩
        simp only [hhs]
        have HHS := Lib.hid hhs
        clear HS HS4 r4 hw4 b4 hhs kd hkz RA O1 B1d HSa
        have HS4 := HS4x
        clear e0 e1
        by_cases hin : x ∈ d.C
        · have hs1 : hs = true := by rw [← HHS.out]; exact decide_eq_true hin
          subst hs1
          have OO := O4
          rw [← mis_in HX.out hin] at OO
          go_wp2_with fail
          go_roundw
          case rel => exact ⟨k + 1, by omega, by go_num, OO, B4⟩
          case measure => simp [intOf]; omega
        · have hs1 : hs = false := by rw [← HHS.out]; exact decide_eq_false hin
          subst hs1
          have HXO := Lib.hid hin
          have x04 := cell_of R4.out.2.2 0 (.int .u8 x.n) rfl
          have x14 := cell_of R4.out.2.2 1 (.int .u16 x.l) rfl
          obtain ⟨k9, hk9⟩ : ∃ z, w4.heap.size = z := ⟨_, rfl⟩
          obtain ⟨W10, hw10⟩ : ∃ z, w4.alloc (.cells #[.int .u8 x.n, .int .u16 x.l] 67) = z := ⟨_, rfl⟩
          have b10 : Below w4.heap.size w4 W10 := by rw [← hw10]; exact (Below.refl _ _).alloc (Nat.le_refl _) _
          have hrv := V.rowsV_new w4 x 67
          rw [hw10, hk9] at hrv
          have HO10 := Lib.hid (V.own_kept O4.out b10)
          have HB10 := Lib.hid (B4.out.trans (b10.mono HS4.out))
          have HS10 : Hid (k0 ≤ W10.heap.size) := Lib.hid (Nat.le_trans HS4.out b10.size)
          have HRV := Lib.hid hrv
          have HW10 := Lib.hid hw10
          have HK9 := Lib.hid hk9
          obtain ⟨nm, hnm⟩ : ∃ z, (mis d k).length = z := ⟨_, rfl⟩
          have HNm : Hid (nm ≤ 8) := Lib.hid (by have := mis_le d k; have := HFEW.out.1; omega)
          rw [hnm] at HO10
          have HNN := Lib.hid hnm
          clear b10 hrv hw10 hk9 hnm
          go_wp2_with (first
            | (rw [HW10.out, HK9.out])
            | (at_builtin
               refine wpList_append_own _ rfl (.tmp 39) (.tmp 41) 43 rfl k0 67 i0 _ 2 4 Try.underlying43 hi0 hz0 hz1 hz2 rfl (by decide) _ nm _ rfl HO10.out ⟨k9, 0, none⟩ 1 1 (V.cellsV [x]) rfl rfl (V.cells_of_rowsV HRV.out) (V.cellsV_one [x]) (by have := HNm.out; unfold maxLen; omega) (by have := HNm.out; omega) HS10.out ?_
               intro v' w' hown' hgrow' hnil'
               have BBn := Lib.hid (HB10.out.grown hgrow' HS10.out fun j hj => (HO10.out.lt j hj).1)
               rw [← HNN.out] at hown'
               have OO := Lib.hid (own_app HX.out HXO.out hown')
               clear hown' hgrow' hnil')
            | fail)
          go_roundw
          case rel => exact ⟨k + 1, by omega, by go_num, OO, BBn⟩
          case measure => simp [intOf]; omega
      · have hkk : k = nM := by omega
        have HE : Hid (mis d k = d.missing) := Lib.hid (by
          rw [hkk, ← HNM.out]
          exact mis_all (by rw [HP.out]; exact hp2))
        rw [HE.out] at O
        subst hkk
        go_wp2
        go_ret
        exact ⟨_, rfl, by rw [HK0.out]; exact O.out, by rw [HK0.out]; exact BB.out⟩
end

section
set_option linter.unusedSimpArgs false
set_option linter.unusedVariables false
open Go.RowKit Go.Maps Go.Sort Go.ChangeShapes Go.WideShapes Go.Joins Go.Deep
open V (P2)

/-- all blocks that the program's rows lie in are as they were. -/
def KeepsO (W W' : World) : Prop := ∀ (g : Nat) (cur : Array Value) (t : TypeId), W.heap[g]? = some (.cells cur t (0, 0)) → Ty t → t ≠ 38 → W'.heap[g]? = some (.cells cur t (0, 0))
theorem RowO.keepO {W W' : World} {e : TypeId} {sz : Nat} {v : Value} {n : Nat} {xs : List Value} (h : RowO W e sz v n xs) (k : KeepsO W W') (ht : Ty e) (h2 : e ≠ 38) : RowO W' e sz v n xs :=
  h.keepB fun g hg => by
    obtain ⟨cur, hc⟩ := h.block g hg
    exact (k g cur e hc ht h2).trans hc.symm
theorem PrO.keepO {W W' : World} {v : Value} {X : List V.P2} (h : PrO W v X) (k : KeepsO W W') : PrO W' v X := RowO.keepO h k (by simp [Ty]) (by decide)
theorem LeO.keepO {e : Le} {W W' : World} (h : LeO e W) (k : KeepsO W W') : LeO e W' := ⟨RowO.keepO h.p k (by simp [Ty]) (by decide), RowO.keepO h.w k (by simp [Ty]) (by decide), h.hX, h.hY⟩
theorem EnO.keepO {W W' : World} {v : Value} {L : List Le} (h : EnO W v L) (k : KeepsO W W') : EnO W' v L := ⟨RowO.keepO h.row k (by simp [Ty]) (by decide), fun e he => (h.all e he).keepO k⟩
theorem Vl.Ok.keepO {x : Vl} {W W' : World} (h : x.Ok W) (k : KeepsO W W') : x.Ok W' := ⟨h.m.keepO k, h.t.keepO k, h.lm, h.lt⟩
theorem PQ.keepO {base : Nat} {W W' : World} {b m : Nat} {d : Pd} {w : Pw} (h : PQ base W b m d w) (k1 : W'.heap[b]? = W.heap[b]?) (k2 : W'.heap[m]? = W.heap[m]?) (k : KeepsO W W') : PQ base W' b m d w :=
  ⟨h.hb, h.hm, k1.trans h.blk, h.ct.keep k2, h.mem.keepO k, h.lg.keepO k, h.lgd, h.lgl, h.hv.keepO k, h.hvd, h.vl.keepO k, h.vld, h.right, h.cin⟩
/-- the document's proposer goes on: the program's stays. -/
theorem PP.keepR {base : Nat} {W W' : World} {b m bd : Nat} {p q : Pd} {r : Rw} (h : PP base W b m p) (hq : DQ W base bd q r) (k : KP (FR bd r) W W') : PP base W' b m p := by
  obtain ⟨w, h⟩ := h
  obtain ⟨es, cl, hm⟩ := h.ct.lt
  have nb : ¬ FR bd r b := hq.free h.blk (apart_of h.blk hq.blk (by decide)) (by decide)
  have nm : ¬ FR bd r m := by
    rintro (rfl | e)
    · rw [hq.blk] at hm
      cases hm
    · obtain ⟨cur, hc⟩ := row_block hq.got e
      rw [hc] at hm
      cases hm
  exact ⟨w, h.keepO (k.block b (heap_lt h.blk) nb) (k.block m (heap_lt hm) nm) fun g cur t hg ht h38 => (k.block g (heap_lt hg) (hq.free hg (apart_of hg hq.blk fun e => by rw [e] at ht; revert ht; simp [Ty]) h38)).trans hg⟩
/-- the program's proposer goes on: the document's stays. -/
theorem DQ.keepP {base : Nat} {W W' : World} {b m bd : Nat} {p q : Pd} {r : Rw} (hq : DQ W base bd q r) (h : PP base W b m p) (k : KP (FP b m) W W') : DQ W' base bd q r := by
  obtain ⟨w, h⟩ := h
  obtain ⟨es, cl, hm⟩ := h.ct.lt
  refine hq.keep k h.foot ?_ ?_
  · rintro (e | e)
    · exact apart_of hq.blk h.blk (by decide) e
    · subst e
      rw [hq.blk] at hm
      cases hm
  · intro g e
    obtain ⟨cur, hc⟩ := row_block hq.got e
    rintro (e | e)
    · exact apart_of hc h.blk (by decide) e
    · subst e
      rw [hc] at hm
      cases hm
/-- what both states share. -/
structure Lk (p q : Pd) : Prop where
  g : p.g = q.g
  N : p.N = q.N
  M : p.M = q.M
  C : p.C = q.C
  bal : p.bal = q.bal
  ph : p.ph = q.ph
  vd : p.vd = q.vd
  z : p.ph = 0 → p = q
theorem Lk.refl (p : Pd) : Lk p p := ⟨rfl, rfl, rfl, rfl, rfl, rfl, rfl, fun _ => rfl⟩
theorem Lk.cnt {p q : Pd} (h : Lk p q) (x : P2) : p.cnt x = q.cnt x := by unfold Pd.cnt; rw [h.C, h.M]
theorem Lk.ready {p q : Pd} (h : Lk p q) : p.ready = q.ready := by unfold Pd.ready Pd.enough; rw [h.ph, h.C, h.M]
theorem Lk.missing {p q : Pd} (h : Lk p q) : p.missing = q.missing := by unfold Pd.missing; rw [h.ph, h.C, h.M]
theorem Lk.enough {p q : Pd} (h : Lk p q) (x : P2) : (p.add x).enough = (q.add x).enough := by unfold Pd.enough Pd.add; dsimp only; rw [h.C, h.M]
theorem Lk.promise {p q : Pd} (h : Lk p q) (x : P2) (L : List EV) (acc : Int) (y : VD) (has : Bool) : Lk (p.promise x L acc y has) (q.promise x L acc y has) := by
  by_cases h0 : p.ph = 0
  · rw [h.z h0]; exact Lk.refl _
  · have h1 : ¬ q.ph = 0 := by rw [← h.ph]; exact h0
    rw [show p.promise x L acc y has = p by simp [Pd.promise, h0], show q.promise x L acc y has = q by simp [Pd.promise, h1]]
    exact h
theorem Lk.propose {p q : Pd} (h : Lk p q) (hr : p.ready = true) (X : List P2) : p.choose X = q.choose X ∧ Lk (p.propose X) (q.proposeR X) := by
  have h0 : p.ph = 0 := by
    unfold Pd.ready at hr
    simp at hr
    exact hr.1
  rw [h.z h0]
  exact ⟨rfl, rfl, rfl, rfl, rfl, rfl, rfl, rfl, fun e => absurd e (by simp [Pd.propose])⟩
theorem Lk.accepted {p q : Pd} (h : Lk p q) (x : P2) : Lk (p.accepted x) (q.accepted x) := by
  by_cases h0 : p.ph = 0
  · rw [h.z h0]; exact Lk.refl _
  · have hp := h.ph
    unfold Pd.accepted Pd.accept1
    rw [h.cnt x, h.enough x, hp]
    split
    · exact ⟨h.g, h.N, h.M, by simp [Pd.add, h.C], h.bal, rfl, h.vd, fun e => absurd e (by simp)⟩
    · split
      · exact ⟨h.g, h.N, h.M, by simp [Pd.add, h.C], h.bal, hp, h.vd, fun e => absurd e h0⟩
      · exact h

/-- both proposers, at states that agree. -/
structure JP (base : Nat) (W0 W : World) (bp m bd : Nat) (p q : Pd) : Prop where
  a : PP base W bp m p
  r : ∃ r, DQ W base bd q r
  lk : Lk p q
  rg : ∀ x ∈ p.M, Rg2 x
  low : Below base W0 W
theorem JP.lt {base : Nat} {W0 W : World} {bp m bd : Nat} {p q : Pd} (h : JP base W0 W bp m bd p q) : base ≤ bd ∧ bd < W.heap.size ∧ base ≤ W.heap.size := by
  obtain ⟨r, hr⟩ := h.r
  exact ⟨hr.hb, hr.lt, Nat.le_trans hr.hb (Nat.le_of_lt hr.lt)⟩
theorem JP.below {base : Nat} {W0 W W' : World} {bp m bd : Nat} {p q : Pd} (h : JP base W0 W bp m bd p q) (hb : Below W.heap.size W W') : JP base W0 W' bp m bd p q := by
  obtain ⟨r, hr⟩ := h.r
  exact ⟨h.a.below hb, ⟨r, hr.below hb⟩, h.lk, h.rg, h.low.trans (hb.mono h.lt.2.2)⟩
/-- half a step: the program's has gone on. -/
structure JH (base : Nat) (W0 W : World) (bp m bd : Nat) (p q : Pd) : Prop where
  a : PP base W bp m p
  r : ∃ r, DQ W base bd q r
  low : Below base W0 W
theorem JP.half {base : Nat} {W0 W W' : World} {bp m bd : Nat} {p p' q : Pd} (h : JP base W0 W bp m bd p q) (a : PP base W' bp m p') (k : KP (FP bp m) W W') : JH base W0 W' bp m bd p' q := by
  obtain ⟨r, hr⟩ := h.r
  obtain ⟨w, ha⟩ := h.a
  exact ⟨a, ⟨r, hr.keepP ⟨w, ha⟩ k⟩, h.low.trans (k.below h.lt.2.2 ha.foot)⟩
theorem JH.below {base : Nat} {W0 W W' : World} {bp m bd : Nat} {p q : Pd} (h : JH base W0 W bp m bd p q) (hb : Below W.heap.size W W') : JH base W0 W' bp m bd p q := by
  obtain ⟨r, hr⟩ := h.r
  exact ⟨h.a.below hb, ⟨r, hr.below hb⟩, h.low.trans (hb.mono (Nat.le_trans hr.hb (Nat.le_of_lt hr.lt)))⟩
theorem JH.full {base : Nat} {W0 W W' : World} {bp m bd : Nat} {p q q' : Pd} {r r' : Rw} (h : JH base W0 W bp m bd p q) (hr : DQ W base bd q r) (hr' : DQ W' base bd q' r') (k : KP (FR bd r) W W') (lk : Lk p q') (rg : ∀ x ∈ p.M, Rg2 x) : JP base W0 W' bp m bd p q' :=
  ⟨h.a.keepR hr k, ⟨r', hr'⟩, lk, rg, h.low.trans (k.below (Nat.le_trans hr.hb (Nat.le_of_lt hr.lt)) hr.foot)⟩
/-- a block of the law's own: neither proposer reaches it. -/
theorem JP.other {base : Nat} {W0 W : World} {bp m bd kx : Nat} {p q : Pd} {cs : Array Value} {t : TypeId} (h : JP base W0 W bp m bd p q) (hx : W.heap[kx]? = some (.cells cs t (0, 0))) (ht : t ≠ 107) (ht2 : t ≠ 80) : kx ≠ bp ∧ kx ≠ m ∧ kx ≠ bd := by
  obtain ⟨r, hr⟩ := h.r
  obtain ⟨w, ha⟩ := h.a
  obtain ⟨es, cl, hm⟩ := ha.ct.lt
  refine ⟨apart_of hx ha.blk ht, ?_, apart_of hx hr.blk ht2⟩
  rintro rfl
  rw [hx] at hm
  cases hm
theorem promise_M (p : Pd) (x : P2) (L : List EV) (acc : Int) (y : VD) (has : Bool) : (p.promise x L acc y has).M = p.M := by
  unfold Pd.promise Pd.hold Pd.longer Pd.add
  repeat (first | rfl | split)
theorem accepted_M (p : Pd) (x : P2) : (p.accepted x).M = p.M := by
  unfold Pd.accepted Pd.accept1 Pd.add
  repeat (first | rfl | split)
theorem proc3 (x : P2) (W : World) : Calls Try.prog 27 #[.agg #[.int .u8 x.n, .int .u16 x.l]] W fun e W' => e = .returned (.agg #[.int .u8 x.n, .int .u16 x.l]) ∧ Below W.heap.size W W' :=
  (I.toProc x.n x.l W).mono fun e W' h => ⟨h.1, by
    first
      | (rw [← h.2]; exact ((Below.refl _ _).alloc (Nat.le_refl _) _).alloc (by simp) _)
      | (rw [h.2]; exact ((Below.refl _ _).alloc (Nat.le_refl _) _).alloc (by simp) _)⟩
section
variable {H : Type} {enc : TypeId × Value → H} {w : World} {base : Nat} {spare : Nat → Bool} {held : Bool}
theorem trod_threeG {P : Program} {fuel : Nat} {cs : List Value} {x : DataW H × List MemPlace} {t : TypeId} {f0 f1 f2 : Field} (hs : P.underlying t = some (.struct #[f0, f1, f2])) (h : DataW.trod enc P w base spare held fuel t cs = some x) :
    cs.length = P.cellsOf t ∧ ∃ (n : Nat) (y0 y1 y2 : DataW H × List MemPlace),
      DataW.trod enc P w base spare held n f0.type ((cs.drop f0.offset).take (P.cellsOf f0.type)) = some y0 ∧
      DataW.trod enc P w base spare held n f1.type ((cs.drop f1.offset).take (P.cellsOf f1.type)) = some y1 ∧
      DataW.trod enc P w base spare held n f2.type ((cs.drop f2.offset).take (P.cellsOf f2.type)) = some y2 ∧ x.1 = .agg [y0.1, y1.1, y2.1] := by
  obtain ⟨xs, n, _, hx, hl, hxs, hg⟩ := DataW.trod_struct hs h
  refine ⟨hl, n, ?_⟩
  match xs, hxs with
  | [y0, y1, y2], _ => exact ⟨y0, y1, y2, hg 0 f0 rfl, hg 1 f1 rfl, hg 2 f2 rfl, by rw [hx]; rfl⟩
set_option maxRecDepth 100000 in
/-- a view of the document, as an argument. -/
theorem arg_viewG {r : Reach} {b0 : Nat} {v : Value} {d : DataW H} {p : List MemPlace} (hv : Value.okWide Try.prog w r b0 58 v) (h : DataW.Trod enc Try.prog w base spare held 58 v d p) (hw : ∀ n ∈ d.weights Try.prog 58, n ≤ 140737488355328) :
    ∃ (g N : Int) (A : Option Addr) (X : List P2) (c : Nat), v = .agg #[.int .u8 g, .int .u32 N, .slice A X.length c] ∧ (0 ≤ g ∧ g ≤ 255) ∧ (0 ≤ N ∧ N ≤ 4294967295) ∧ X.length ≤ c ∧ c ≤ maxLen ∧ V.RowsV w w.heap.size A X ∧ X.length * 4 ≤ 140737488355328 ∧ ∀ x ∈ X, Rg2 x := by
  obtain ⟨cs, rfl, _⟩ := okWide_struct Try.underlying58 hv
  obtain ⟨fuel, hf⟩ := h
  obtain ⟨hl, n, y0, y1, y2, h0, h1, h2, hx⟩ := trod_threeG Try.underlying58 hf
  have hu := Try.underlying58
  have hd : d = .agg [y0.1, y1.1, y2.1] := hx
  have hw2 : ∀ n ∈ y2.1.weights Try.prog 30, n ≤ 140737488355328 := fun n hn => hw n (by rw [hd]; simp only [DataW.weights, hu]; exact DataW.weights_mem_each (j := 2) rfl rfl n hn)
  have hC : Try.prog.cellsOf 58 = 3 := by kernel_rfl
  have k0 : Try.prog.cellsOf 5 = 1 := by kernel_rfl
  have k1 : Try.prog.cellsOf 23 = 1 := by kernel_rfl
  have k2 : Try.prog.cellsOf 30 = 1 := by kernel_rfl
  obtain ⟨l⟩ := cs
  match l, hl.trans hC with
  | [x0, x1, x2], _ =>
    simp only [k0, k1, k2, Value.cells, List.drop_zero, List.take_succ_cons, List.take_zero, List.drop_succ_cons] at h0 h1 h2
    obtain ⟨g, e0, _, w0⟩ := DataW.trod_int Try.underlying5 h0
    obtain ⟨N, e1, _, w1⟩ := DataW.trod_int Try.underlying23 h1
    obtain ⟨A, X, c, e2, h9⟩ := open_procsB h2 hw2
    simp only [List.cons.injEq, and_true] at e0 e1 e2
    subst e0 e1 e2
    exact ⟨g, N, A, X, c, rfl, bounds_u8 w0, bounds_u32 w1, h9⟩
end
open V (RowsV cellsV rowsV_of_own two_below rowA rowB procs own_mono) in
set_option maxRecDepth 100000 in
set_option maxHeartbeats 1000000 in
theorem ownV (g N : Int) (A : Option Addr) (V : List P2) (c : Nat) (w : World) (hr : RowsV w w.heap.size A V) (hV : V.length * 4 ≤ 140737488355328) (hc : V.length ≤ c) (hm : c ≤ maxLen) :
    Calls Try.prog 24 #[.agg #[.int .u8 g, .int .u32 N, .slice A V.length c]] w fun x w' => ∃ A' c', x = .returned (.agg #[.int .u8 g, .int .u32 N, .slice A' V.length c']) ∧ w'.ownsRow w.heap.size 67 2 (.slice A' V.length c') V.length (cellsV V) ∧ Below w.heap.size w w' := by
  have K1 : Hid (∀ W, Below w.heap.size w W → Calls Try.prog 31 #[.slice A V.length c] W fun e w' => ∃ v, e = .returned v ∧ w'.ownsRow W.heap.size 67 2 v V.length (cellsV V) ∧ Below W.heap.size W w') := Lib.hid (fun W hw => procs A V c W (hr.below (C := w.heap.size) hw (Nat.le_refl _) hw.size) hV hc hm)
  have b0 : Hid (Below w.heap.size w ((w.alloc (.cells #[.int .u8 g, .int .u32 N, .slice A V.length c] 58)).alloc (.cells #[.int .u8 0, .int .u32 0, .slice none 0 0] 62)).drew) := Lib.hid (two_below _ _ _ _ _).drew
  have r0 : Hid (((w.alloc (.cells #[.int .u8 g, .int .u32 N, .slice A V.length c] 58)).alloc (.cells #[.int .u8 0, .int .u32 0, .slice none 0 0] 62)).drew.heap[w.heap.size]? = some (.cells #[.int .u8 g, .int .u32 N, .slice A V.length c] 58 (0, 0))) := Lib.hid (rowA _ _ _ _ _)
  have r1 : Hid (((w.alloc (.cells #[.int .u8 g, .int .u32 N, .slice A V.length c] 58)).alloc (.cells #[.int .u8 0, .int .u32 0, .slice none 0 0] 62)).drew.heap[w.heap.size + 1]? = some (.cells #[.int .u8 0, .int .u32 0, .slice none 0 0] 62 (0, 0))) := Lib.hid (rowB _ _ _ _ _)
  have l1 : Hid (w.heap.size + 1 < ((w.alloc (.cells #[.int .u8 g, .int .u32 N, .slice A V.length c] 58)).alloc (.cells #[.int .u8 0, .int .u32 0, .slice none 0 0] 62)).drew.heap.size) := Lib.hid (by simp)
  clear hr hV hc hm
  go_enter Try.func24, Try.ntmps24
  go_wp2
  refine region_heldT (S := fun W => W.heap[w.heap.size]? = some (.cells #[.int .u8 g, .int .u32 N, .slice A V.length c] 58 (0, 0))) 8 (by kernel_rfl) (by decide) (fun inv => ?_)
  change FirstH _ _ _ _ _ _ _ _ _ _ ((w.alloc (.cells #[.int .u8 g, .int .u32 N, .slice A V.length c] 58)).alloc (.cells #[.int .u8 0, .int .u32 0, .slice none 0 0] 62)).drew
  generalize ((w.alloc (.cells #[.int .u8 g, .int .u32 N, .slice A V.length c] 58)).alloc (.cells #[.int .u8 0, .int .u32 0, .slice none 0 0] 62)).drew = wd at *
  have HS := r0.out
  refine FirstH.go (i := 0) (v := .pointer (some ⟨w.heap.size, 0, none⟩)) rfl rfl 3 rfl (Op.fieldAddr 58 (.tmp 1) 0) rfl (by kernel_rfl) (fun _ _ _ h => h) inv (fun W hS => by have k0 := (cell_of_row _ _ 0 _ _ _ hS); have k1 := (cell_of_row _ _ 1 _ _ _ hS); have k2 := (cell_of_row _ _ 2 _ _ _ hS); unfold bareO; go_simp) HS (fun inv => ?_)
  try simp only [Act.put, List.setIfInBounds_toArray, List.set_cons_zero, List.set_cons_succ]
  refine FirstH.go (i := 1) (v := .int .u8 g) rfl rfl 4 rfl (Op.load 5 (.tmp 3)) rfl (by kernel_rfl) (fun _ _ _ h => h) inv (fun W hS => by have k0 := (cell_of_row _ _ 0 _ _ _ hS); have k1 := (cell_of_row _ _ 1 _ _ _ hS); have k2 := (cell_of_row _ _ 2 _ _ _ hS); unfold bareO; go_simp) HS (fun inv => ?_)
  try simp only [Act.put, List.setIfInBounds_toArray, List.set_cons_zero, List.set_cons_succ]
  refine FirstH.go (i := 2) (v := .pointer (some ⟨w.heap.size, 1, none⟩)) rfl rfl 5 rfl (Op.fieldAddr 58 (.tmp 1) 1) rfl (by kernel_rfl) (fun _ _ _ h => h) inv (fun W hS => by have k0 := (cell_of_row _ _ 0 _ _ _ hS); have k1 := (cell_of_row _ _ 1 _ _ _ hS); have k2 := (cell_of_row _ _ 2 _ _ _ hS); unfold bareO; go_simp) HS (fun inv => ?_)
  try simp only [Act.put, List.setIfInBounds_toArray, List.set_cons_zero, List.set_cons_succ]
  refine FirstH.go (i := 3) (v := .int .u32 N) rfl rfl 6 rfl (Op.load 23 (.tmp 5)) rfl (by kernel_rfl) (fun _ _ _ h => h) inv (fun W hS => by have k0 := (cell_of_row _ _ 0 _ _ _ hS); have k1 := (cell_of_row _ _ 1 _ _ _ hS); have k2 := (cell_of_row _ _ 2 _ _ _ hS); unfold bareO; go_simp) HS (fun inv => ?_)
  try simp only [Act.put, List.setIfInBounds_toArray, List.set_cons_zero, List.set_cons_succ]
  refine FirstH.go (i := 4) (v := .pointer (some ⟨w.heap.size, 2, none⟩)) rfl rfl 7 rfl (Op.fieldAddr 58 (.tmp 1) 2) rfl (by kernel_rfl) (fun _ _ _ h => h) inv (fun W hS => by have k0 := (cell_of_row _ _ 0 _ _ _ hS); have k1 := (cell_of_row _ _ 1 _ _ _ hS); have k2 := (cell_of_row _ _ 2 _ _ _ hS); unfold bareO; go_simp) HS (fun inv => ?_)
  try simp only [Act.put, List.setIfInBounds_toArray, List.set_cons_zero, List.set_cons_succ]
  refine FirstH.go (i := 5) (v := .slice A V.length c) rfl rfl 8 rfl (Op.load 30 (.tmp 7)) rfl (by kernel_rfl) (fun _ _ _ h => h) inv (fun W hS => by have k0 := (cell_of_row _ _ 0 _ _ _ hS); have k1 := (cell_of_row _ _ 1 _ _ _ hS); have k2 := (cell_of_row _ _ 2 _ _ _ hS); unfold bareO; go_simp) HS (fun inv => ?_)
  try simp only [Act.put, List.setIfInBounds_toArray, List.set_cons_zero, List.set_cons_succ]
  clear HS
  refine FirstH.only (i := 6) (by kernel_rfl) (by decide) inv (fun inv => wpOp_call (i := 6) rfl rfl 9 rfl (Op.call { callee := .value (.func 31), args := #[.tmp 8], argTypes := #[30] }) rfl 31 #[.slice A V.length c] (by unfold bareO; go_simp) (K1.out wd b0.out) ?_)
  rintro e w2 ⟨v, rfl, O, b2⟩
  obtain ⟨A', c', rfl, -, -, -⟩ := rowsV_of_own O
  have B2 := Lib.hid (b0.out.trans (b2.mono b0.out.size))
  have HS := (b2.block _ (Nat.lt_of_succ_lt l1.out)).trans r0.out
  have R1 := (b2.block _ l1.out).trans r1.out
  have O2 := Lib.hid O
  have q0 : w2.cell? ⟨w.heap.size + 1, 0, none⟩ = some (.int .u8 0) := (cell_of_row _ _ 0 _ _ _ R1).trans rfl
  have q1 : w2.cell? ⟨w.heap.size + 1, 1, none⟩ = some (.int .u32 0) := (cell_of_row _ _ 1 _ _ _ R1).trans rfl
  have q2 : w2.cell? ⟨w.heap.size + 1, 2, none⟩ = some (.slice none 0 0) := (cell_of_row _ _ 2 _ _ _ R1).trans rfl
  have p0 := frz_row 0 R1
  have p1 := frz_row 1 R1
  have p2 := frz_row 2 R1
  have l2 : w.heap.size + 1 < w2.heap.size := Nat.lt_of_lt_of_le l1.out b2.size
  have hbase : Hid (w.heap.size + 1 < wd.heap.size) := l1
  clear b2 O R1
  refine ⟨_, rfl, HS, ?_⟩
  try simp only [Act.put, List.setIfInBounds_toArray, List.set_cons_zero, List.set_cons_succ]
  refine FirstH.go (i := 7) (v := .agg #[.int .u8 g, .int .u32 N, .slice A' V.length c']) rfl rfl 10 rfl (Op.build 62 #[(0, .tmp 4), (1, .tmp 6), (2, .tmp 9)]) rfl (by kernel_rfl) (fun _ _ _ h => h) inv (fun W hS => by unfold bareO; go_simp) HS (fun inv => ?_)
  try simp only [Act.put, List.setIfInBounds_toArray, List.set_cons_zero, List.set_cons_succ]
  clear HS
  refine ⟨by kernel_rfl, ?_⟩
  simp only [List.drop_succ_cons, List.drop_zero]
  go_wp2
  refine bodyPost_ret (v := .agg #[.int .u8 g, .int .u32 N, .slice A' V.length c']) (by simp [results, Try.results24, go_sem]; try go_simp) rfl ⟨A', c', rfl, ?_, ?_⟩
  · have hb := hbase.out
    exact own_mono (ownsRow_setCell_below (ownsRow_setCell_below (ownsRow_setCell_below O2.out (by show w.heap.size + 1 < wd.heap.size; exact hb) _) (by show w.heap.size + 1 < wd.heap.size; exact hb) _) (by show w.heap.size + 1 < wd.heap.size; exact hb) _) (by omega)
  · exact ((B2.out.setCell (by simp) _).setCell (by simp) _).setCell (by simp) _
end
end Go.Proofs.Ytmhgopaekpnhoaa
