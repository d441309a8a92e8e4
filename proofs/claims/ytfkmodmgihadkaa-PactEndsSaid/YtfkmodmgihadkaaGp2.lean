/-
  The program's proposer: count, by an exact answer. Condition: it lies in memory; the process's numbers fit their kinds.
-/
import Derived.Test.YtfkmodmgihadkaaGp1
namespace Go.Proofs.Ytfkmodmgihadkaa
set_option linter.unusedSimpArgs false
set_option linter.unusedVariables false
open Go.RowKit Go.Maps Go.Sort
open V (P2)

theorem wpList_mapUp {P : Program} {ops : Array Oper} {rest : List Oper} {o : Oper} {a : Act} {w w' : World} {Q : Exit → Act → World → Prop} (hg : o.guard = none) (t : TypeId) (m x v : Operand) (ho : o.op = .mapUpdate t m x v)
    (hrun : (Instr.mapUpdate t (a.eval m) (a.eval x) (a.eval v)).run P w = .ok () w') (h : wpList P ops Q rest (a.put o.dst undef) w') : wpList P ops Q (o :: rest) a w := by
  refine wpList_plain hg fun K hK => ?_
  unfold Oper.wp
  simp [execOp, ho, hrun, Result.andThen]
  exact hK _ _ h
theorem Pd.cnt_in {d : Pd} {x : P2} (h : x ∈ d.C) : d.cnt x = false := by simp [Pd.cnt, h]
theorem Pd.cnt_out {d : Pd} {x : P2} (h : x ∉ d.M) : d.cnt x = false := by simp [Pd.cnt, h]
theorem Pd.cnt_new {d : Pd} {x : P2} (h : x ∉ d.C) (k : x ∈ d.M) : d.cnt x = true := by simp [Pd.cnt, h, k]
theorem unitI : (Try.prog.info? 76).map (fun i => (i.zero, i.size)) = some (some (.agg #[]), 0) := by kernel_rfl

set_option maxRecDepth 100000 in
set_option maxHeartbeats 2000000 in
theorem pCount (base : Nat) (W : World) (b m : Nat) (d : Pd) (h : PP base W b m d) (x : P2) (rx : Rg2 x) :
    Calls Try.prog 31 #[.pointer (some ⟨b, 0, none⟩), .agg #[.int .u8 x.n, .int .u16 x.l]] W fun e W' => e = .returned (.bool (d.cnt x)) ∧ PP base W' b m (d.counted x) ∧ KP (FP b m) W W' := by
  obtain ⟨⟨mv, lv, Lg, hv, vl⟩, h⟩ := h
  obtain ⟨A, c, hmv, hr, hc, hm, _⟩ := h.mem.rows
  dsimp only at hmv
  subst hmv
  obtain ⟨es, cl, hmap⟩ := h.ct.lt
  have few := h.few
  have HH := Lib.hid h
  have KR := Lib.hid (fun u (hu : Below W.heap.size W u) => V.rankO' d.g d.N A d.M c x u (hr.below hu (Nat.le_refl _) hu.size) hc hm)
  have HL : Hid (∀ u, u.heap[m]? = some (.map es cl) → (Instr.lookup 71 (.map (some m)) (.agg #[.int .u8 x.n, .int .u16 x.l]) true).run Try.prog u = .ok (.tuple #[.agg #[], .bool (decide (x ∈ d.C))]) u) := Lib.hid (fun u hu => by
    obtain ⟨es', cl', h1, h2⟩ := h.ct.look x rx
    rw [hmap] at h1
    cases h1
    exact h2 u hu)
  obtain ⟨k, hk⟩ : ∃ k, W.heap.size = k := ⟨_, rfl⟩
  have hkb : b < k := by rw [← hk]; exact heap_lt h.blk
  have hkm : m < k := by rw [← hk]; exact heap_lt hmap
  obtain ⟨w1, hw1⟩ : ∃ z, W.alloc (.cells #[.int .u8 x.n, .int .u16 x.l] 54) = z := ⟨_, rfl⟩
  have b1 : Below k W w1 := by rw [← hw1, ← hk]; exact (Below.refl _ _).alloc (Nat.le_refl _) _
  have R1 : Hid (w1.drew.heap[b]? = some (.cells (d.cs ⟨.slice A d.M.length c, lv, Lg, hv, vl⟩ m) 73 (0, 0)) ∧ w1.drew.heap[m]? = some (.map es cl) ∧ w1.drew.heap[k]? = some (.cells #[.int .u8 x.n, .int .u16 x.l] 54 (0, 0))) := Lib.hid ⟨(b1.block b hkb).trans h.blk, (b1.block m hkm).trans hmap, by show w1.heap[k]? = _; rw [← hw1, ← hk]; exact heap_alloc_new _ _⟩
  have B1d : Hid (Below k W w1.drew) := Lib.hid b1.drew
  obtain ⟨nM, hnM⟩ : ∃ n, d.M.length = n := ⟨_, rfl⟩
  rw [hnM] at KR R1 HH
  rw [hk] at KR
  have HW1 := Lib.hid hw1
  have HK := Lib.hid hk
  clear h hr few hmap hw1 b1 hc hm
  go_enter Try.func31, Try.ntmps31
  go_wp2_with (first
    | (rw [HW1.out])
    | fail)
  refine region_heldT (S := fun u => u.heap[b]? = some (.cells (d.cs ⟨.slice A nM c, lv, Lg, hv, vl⟩ m) 73 (0, 0)) ∧ u.heap[m]? = some (.map es cl) ∧ u.heap[k]? = some (.cells #[.int .u8 x.n, .int .u16 x.l] 54 (0, 0))) 11 (by kernel_rfl) (by decide) (fun inv => ?_)
  have HS := R1.out
  change FirstH _ _ _ _ _ _ _ _ _ _ w1.drew
  try simp only [HK.out]
  generalize w1.drew = wd at *
  refine FirstH.go (i := 0) (v := .pointer (some ⟨b, 0, none⟩)) rfl rfl 8 rfl (Op.move (.tmp 0)) rfl (by kernel_rfl) (fun _ _ _ h => h) inv (fun W hS => by unfold bareO; go_simp) HS (fun inv => ?_)
  try simp only [Act.put, List.setIfInBounds_toArray, List.set_cons_zero, List.set_cons_succ]
  refine FirstH.go (i := 1) (v := .pointer (some ⟨b, 0, none⟩)) rfl rfl 9 rfl (Op.nilCheck (.tmp 8)) rfl (by kernel_rfl) (fun _ _ _ h => h) inv (fun W hS => by unfold bareO; go_simp) HS (fun inv => ?_)
  try simp only [Act.put, List.setIfInBounds_toArray, List.set_cons_zero, List.set_cons_succ]
  refine FirstH.go (i := 2) (v := .pointer (some ⟨b, 5, none⟩)) rfl rfl 10 rfl (Op.fieldAddr 73 (.tmp 9) 3) rfl (by kernel_rfl) (fun _ _ _ h => h) inv (fun W hS => by unfold bareO; go_simp) HS (fun inv => ?_)
  try simp only [Act.put, List.setIfInBounds_toArray, List.set_cons_zero, List.set_cons_succ]
  refine FirstH.go (i := 3) (v := .map (some m)) rfl rfl 11 rfl (Op.load 71 (.tmp 10)) rfl (by kernel_rfl) (fun _ _ _ h => h) inv (fun W hS => by have c0 := cell_of hS.1 0 (.int .u8 d.g) rfl; have c1 := cell_of hS.1 1 (.int .u32 d.N) rfl; have c2 := cell_of hS.1 2 (.slice A nM c) rfl; have c5 := cell_of hS.1 5 (.map (some m)) rfl; have x0 := cell_of hS.2.2 0 (.int .u8 x.n) rfl; have x1 := cell_of hS.2.2 1 (.int .u16 x.l) rfl; unfold bareO; go_simp) HS (fun inv => ?_)
  try simp only [Act.put, List.setIfInBounds_toArray, List.set_cons_zero, List.set_cons_succ]
  refine FirstH.go (i := 4) (v := .agg #[.int .u8 x.n, .int .u16 x.l]) rfl rfl 12 rfl (Op.load 54 (.tmp 3)) rfl (by kernel_rfl) (fun _ _ _ h => h) inv (fun W hS => by have c0 := cell_of hS.1 0 (.int .u8 d.g) rfl; have c1 := cell_of hS.1 1 (.int .u32 d.N) rfl; have c2 := cell_of hS.1 2 (.slice A nM c) rfl; have c5 := cell_of hS.1 5 (.map (some m)) rfl; have x0 := cell_of hS.2.2 0 (.int .u8 x.n) rfl; have x1 := cell_of hS.2.2 1 (.int .u16 x.l) rfl; unfold bareO; go_simp) HS (fun inv => ?_)
  try simp only [Act.put, List.setIfInBounds_toArray, List.set_cons_zero, List.set_cons_succ]
  refine FirstH.go (i := 5) (v := .tuple #[.agg #[], .bool (decide (x ∈ d.C))]) rfl rfl 13 rfl (Op.lookup 71 (.tmp 11) (.tmp 12) true) rfl (by kernel_rfl) (fun _ _ _ h => h) inv (fun W hS => by have hl := HL.out W hS.2.1; unfold bareO; go_simp) HS (fun inv => ?_)
  try simp only [Act.put, List.setIfInBounds_toArray, List.set_cons_zero, List.set_cons_succ]
  refine FirstH.go (i := 6) (v := .tuple #[.agg #[], .bool (decide (x ∈ d.C))]) rfl rfl 7 rfl (Op.move (.tmp 13)) rfl (by kernel_rfl) (fun _ _ _ h => h) inv (fun W hS => by unfold bareO; go_simp) HS (fun inv => ?_)
  try simp only [Act.put, List.setIfInBounds_toArray, List.set_cons_zero, List.set_cons_succ]
  refine FirstH.go (i := 7) (v := .agg #[]) rfl rfl 14 rfl (Op.extract (.tmp 7) 0) rfl (by kernel_rfl) (fun _ _ _ h => h) inv (fun W hS => by unfold bareO; go_simp) HS (fun inv => ?_)
  try simp only [Act.put, List.setIfInBounds_toArray, List.set_cons_zero, List.set_cons_succ]
  refine FirstH.go (i := 8) (v := .bool (decide (x ∈ d.C))) rfl rfl 15 rfl (Op.extract (.tmp 7) 1) rfl (by kernel_rfl) (fun _ _ _ h => h) inv (fun W hS => by unfold bareO; go_simp) HS (fun inv => ?_)
  try simp only [Act.put, List.setIfInBounds_toArray, List.set_cons_zero, List.set_cons_succ]
  have kd : k < wd.heap.size := heap_lt HS.2.2
  obtain ⟨w3, hw3⟩ : ∃ z, wd.alloc (.cells #[] 76) = z := ⟨_, rfl⟩
  have b3 : Below wd.heap.size wd w3 := by rw [← hw3]; exact (Below.refl _ _).alloc (Nat.le_refl _) _
  have r3 : w3.heap[wd.heap.size]? = some (.cells #[] 76 (0, 0)) := by rw [← hw3]; exact heap_alloc_new _ _
  have HS3 : w3.heap[b]? = some (.cells (d.cs ⟨.slice A nM c, lv, Lg, hv, vl⟩ m) 73 (0, 0)) ∧ w3.heap[m]? = some (.map es cl) ∧ w3.heap[k]? = some (.cells #[.int .u8 x.n, .int .u16 x.l] 54 (0, 0)) := ⟨(b3.block b (heap_lt HS.1)).trans HS.1, (b3.block m (heap_lt HS.2.1)).trans HS.2.1, (b3.block k kd).trans HS.2.2⟩
  have B3 := Lib.hid (B1d.out.trans (b3.mono (Nat.le_trans (Nat.le_of_lt kd) (Nat.le_refl _))))
  refine FirstH.only (i := 9) (by kernel_rfl) (by decide) inv (fun inv => wpOp_vl (w' := w3) (v := .pointer (some ⟨wd.heap.size, 0, none⟩)) (i := 9) rfl rfl 5 rfl (Op.alloc 76) rfl (by unfold bareO; go_simp) ?_)
  refine ⟨HS3, ?_⟩
  try simp only [Act.put, List.setIfInBounds_toArray, List.set_cons_zero, List.set_cons_succ]
  refine FirstH.only (i := 10) (by kernel_rfl) (by decide) inv (fun inv => wpOp_st (i := 10) rfl rfl rfl (Op.store 76 (.tmp 5) (.tmp 14)) rfl (w' := w3) (by unfold bareO; go_simp) ?_)
  refine ⟨HS3, ?_⟩
  try simp only [Act.put, List.setIfInBounds_toArray, List.set_cons_zero, List.set_cons_succ]
  refine ⟨by kernel_rfl, ?_⟩
  simp only [List.drop_succ_cons, List.drop_zero]
  have R3 := Lib.hid HS3
  obtain ⟨hs, hhs⟩ : ∃ z, decide (x ∈ d.C) = z := ⟨_, rfl⟩
  simp only [hhs]
  have HHS := Lib.hid hhs
  clear HS HS3 r3 hw3 b3 hhs kd
  have KR3 : Hid (∀ dd os, Calls Try.prog 40 #[.agg #[.int .u8 d.g, .int .u32 d.N, .slice A nM c], .agg #[.int .u8 x.n, .int .u16 x.l]] (grow (redrawn w3 dd) os) fun e w' => e = .returned (.int .i64 (V.rk d.M x)) ∧ Below (grow (redrawn w3 dd) os).heap.size (grow (redrawn w3 dd) os) w') := Lib.hid (fun dd os => KR.out _ (B3.out.trans ((below_regrown w3 dd os).mono (HK.out ▸ B3.out.size))))
  have c0 := cell_of R3.out.1 0 (.int .u8 d.g) rfl
  have c1 := cell_of R3.out.1 1 (.int .u32 d.N) rfl
  have c2 := cell_of R3.out.1 2 (.slice A nM c) rfl
  have x0 := cell_of R3.out.2.2 0 (.int .u8 x.n) rfl
  have x1 := cell_of R3.out.2.2 1 (.int .u16 x.l) rfl
  have kc0 := cell_regrown c0
  have kc1 := cell_regrown c1
  have kc2 := cell_regrown c2
  have kx0 := cell_regrown x0
  have kx1 := cell_regrown x1
  clear c0 c1 c2 x0 x1
  cases hs with
  | true =>
    go_wp2_with fail
    refine wp_region_quiet_below (by kernel_rfl) (by kernel_rfl) ?_
    repeat (go_big_quiet_step (fail))
    refine wpQuiet_nil ?_
    rintro W9 ⟨p9, rfl⟩
    have B9 := Lib.hid (B3.out.trans ((below_regrown w3 p9.d p9.os).mono (HK.out ▸ B3.out.size)))
    generalize grow (redrawn w3 p9.d) p9.os = W9 at *
    have hin : x ∈ d.C := by simpa using HHS.out
    have hcn := Lib.hid (Pd.cnt_in hin)
    go_wp2_with fail
    go_ret
    refine ⟨ret_bool hcn.out.symm, ?_, KP.of_below (by rw [HK.out]; exact B9.out)⟩
    rw [Pd.counted_no hcn.out]
    exact ⟨_, HH.out.below (by rw [HK.out]; exact B9.out)⟩
  | false =>
    obtain ⟨r, hr⟩ : ∃ z, V.rk d.M x = z := ⟨_, rfl⟩
    rw [hr] at KR3
    by_cases hneg : r < 0
    · have HNG := Lib.hid hneg
      have hdn : decide (r < 0) = true := decide_eq_true hneg
      have HR := Lib.hid hr
      clear hr KR
      go_wp2_with fail
      refine wp_region_quiet_below (by kernel_rfl) (by kernel_rfl) ?_
      repeat (go_big_quiet_step (first | (go_at_call 40; exact Calls.regrown_of (KR3.out _ _)) | fail))
      refine wpQuiet_nil ?_
      rintro W9 ⟨p9, rfl⟩
      have B9 := Lib.hid (B3.out.trans ((below_regrown w3 p9.d p9.os).mono (HK.out ▸ B3.out.size)))
      generalize grow (redrawn w3 p9.d) p9.os = W9 at *
      have hcn : Hid (d.cnt x = false) := Lib.hid (Pd.cnt_out ((V.rk_neg d.M x).1 (by rw [HR.out]; exact HNG.out)))
      go_wp2_with fail
      go_ret
      refine ⟨ret_bool hcn.out.symm, ?_, KP.of_below (by rw [HK.out]; exact B9.out)⟩
      rw [Pd.counted_no hcn.out]
      exact ⟨_, HH.out.below (by rw [HK.out]; exact B9.out)⟩
    · have HNG := Lib.hid hneg
      have hdn : decide (r < 0) = false := decide_eq_false hneg
      have HR := Lib.hid hr
      clear hr KR
      go_wp2_with fail
      refine wp_region_quiet_below (by kernel_rfl) (by kernel_rfl) ?_
      repeat (go_big_quiet_step (first | (go_at_call 40; exact Calls.regrown_of (KR3.out _ _)) | fail))
      refine wpQuiet_nil ?_
      rintro W9 ⟨p9, rfl⟩
      have b39 := below_regrown w3 p9.d p9.os
      have B9 := Lib.hid (B3.out.trans (b39.mono (HK.out ▸ B3.out.size)))
      generalize grow (redrawn w3 p9.d) p9.os = W9 at *
      have hM : x ∈ d.M := (V.rk_mem d.M x).1 (by rw [HR.out]; have := HNG.out; omega)
      have hC : x ∉ d.C := by simpa using HHS.out
      have hcn := Lib.hid (Pd.cnt_new hC hM)
      have R9 : Hid (W9.drew.heap[b]? = some (.cells (d.cs ⟨.slice A nM c, lv, Lg, hv, vl⟩ m) 73 (0, 0)) ∧ W9.drew.heap[m]? = some (.map es cl) ∧ W9.drew.heap[k]? = some (.cells #[.int .u8 x.n, .int .u16 x.l] 54 (0, 0))) := Lib.hid ⟨(b39.block b (heap_lt R3.out.1)).trans R3.out.1, (b39.block m (heap_lt R3.out.2.1)).trans R3.out.2.1, (b39.block k (heap_lt R3.out.2.2)).trans R3.out.2.2⟩
      have B9d : Hid (Below k W W9.drew) := Lib.hid B9.out.drew
      clear KR3 kc0 kc1 kc2 kx0 kx1 b39
      go_wp2_with fail
      refine region_heldT (S := fun u => u.heap[b]? = some (.cells (d.cs ⟨.slice A nM c, lv, Lg, hv, vl⟩ m) 73 (0, 0)) ∧ u.heap[m]? = some (.map es cl) ∧ u.heap[k]? = some (.cells #[.int .u8 x.n, .int .u16 x.l] 54 (0, 0))) 6 (by kernel_rfl) (by decide) (fun inv => ?_)
      have HS := R9.out
      change FirstH _ _ _ _ _ _ _ _ _ _ W9.drew
      generalize W9.drew = wd9 at *
      refine FirstH.go (i := 0) (v := .pointer (some ⟨b, 0, none⟩)) rfl rfl 26 rfl (Op.move (.tmp 0)) rfl (by kernel_rfl) (fun _ _ _ h => h) inv (fun W hS => by unfold bareO; go_simp) HS (fun inv => ?_)
      try simp only [Act.put, List.setIfInBounds_toArray, List.set_cons_zero, List.set_cons_succ]
      refine FirstH.go (i := 1) (v := .pointer (some ⟨b, 0, none⟩)) rfl rfl 27 rfl (Op.nilCheck (.tmp 26)) rfl (by kernel_rfl) (fun _ _ _ h => h) inv (fun W hS => by unfold bareO; go_simp) HS (fun inv => ?_)
      try simp only [Act.put, List.setIfInBounds_toArray, List.set_cons_zero, List.set_cons_succ]
      refine FirstH.go (i := 2) (v := .pointer (some ⟨b, 5, none⟩)) rfl rfl 28 rfl (Op.fieldAddr 73 (.tmp 27) 3) rfl (by kernel_rfl) (fun _ _ _ h => h) inv (fun W hS => by unfold bareO; go_simp) HS (fun inv => ?_)
      try simp only [Act.put, List.setIfInBounds_toArray, List.set_cons_zero, List.set_cons_succ]
      refine FirstH.go (i := 3) (v := .map (some m)) rfl rfl 29 rfl (Op.load 71 (.tmp 28)) rfl (by kernel_rfl) (fun _ _ _ h => h) inv (fun W hS => by have c0 := cell_of hS.1 0 (.int .u8 d.g) rfl; have c1 := cell_of hS.1 1 (.int .u32 d.N) rfl; have c2 := cell_of hS.1 2 (.slice A nM c) rfl; have c5 := cell_of hS.1 5 (.map (some m)) rfl; have x0 := cell_of hS.2.2 0 (.int .u8 x.n) rfl; have x1 := cell_of hS.2.2 1 (.int .u16 x.l) rfl; unfold bareO; go_simp) HS (fun inv => ?_)
      try simp only [Act.put, List.setIfInBounds_toArray, List.set_cons_zero, List.set_cons_succ]
      refine FirstH.go (i := 4) (v := .agg #[.int .u8 x.n, .int .u16 x.l]) rfl rfl 30 rfl (Op.load 54 (.tmp 3)) rfl (by kernel_rfl) (fun _ _ _ h => h) inv (fun W hS => by have c0 := cell_of hS.1 0 (.int .u8 d.g) rfl; have c1 := cell_of hS.1 1 (.int .u32 d.N) rfl; have c2 := cell_of hS.1 2 (.slice A nM c) rfl; have c5 := cell_of hS.1 5 (.map (some m)) rfl; have x0 := cell_of hS.2.2 0 (.int .u8 x.n) rfl; have x1 := cell_of hS.2.2 1 (.int .u16 x.l) rfl; unfold bareO; go_simp) HS (fun inv => ?_)
      try simp only [Act.put, List.setIfInBounds_toArray, List.set_cons_zero, List.set_cons_succ]
      refine FirstH.go (i := 5) (v := .agg #[]) rfl rfl 31 rfl (Op.build 76 #[]) rfl (by kernel_rfl) (fun _ _ _ h => h) inv (fun W hS => by unfold bareO; go_simp) HS (fun inv => ?_)
      try simp only [Act.put, List.setIfInBounds_toArray, List.set_cons_zero, List.set_cons_succ]
      refine ⟨by kernel_rfl, ?_⟩
      simp only [List.drop_succ_cons, List.drop_zero]
      have hp9 := HH.out.below (by rw [HK.out]; exact B9d.out)
      obtain ⟨W10, hrun, hct, hkp⟩ := hp9.ct.put x rx hC (by have := hp9.few; omega)
      have hend : PP base W10 b m (d.add x) ∧ KP (FP b m) W W10 := by
        have hk2 : KP (FP b m) wd9 W10 := hkp.mono fun i e => .inr e
        have hks := hp9.keeps hk2
        refine ⟨⟨_, ⟨hp9.hb, hp9.hm, (hkp.block b (heap_lt hp9.blk) hp9.ne).trans hp9.blk, hct, hp9.mem.keep hks, hp9.lg.keep hks, hp9.lgd, hp9.lgl, hp9.hv.keep hks, hp9.hvd, hp9.vl.keep hks, hp9.vld, hp9.right, fun y hy => ?_⟩⟩, (KP.of_below (S := FP b m) (by rw [HK.out]; exact B9d.out)).trans hk2 fun _ _ h => h⟩
        rcases List.mem_append.1 hy with hy | hy
        · exact hp9.cin y hy
        · obtain rfl : y = x := by simpa using hy
          exact hM
      have HEND := Lib.hid hend
      clear hp9 hct hkp hend HS
      refine wpList_mapUp rfl 71 (.tmp 29) (.tmp 30) (.tmp 31) rfl (w' := W10) hrun ?_
      clear hrun
      go_wp2_with fail
      go_ret
      refine ⟨ret_bool hcn.out.symm, ?_⟩
      rw [Pd.counted_yes hcn.out]
      exact HEND.out

end Go.Proofs.Ytfkmodmgihadkaa
