/-
  The program's order: Acked, by an exact answer. Condition: it lies in memory; the process's numbers fit their kinds.
-/
import Derived.Test.YtjdmjiikpnlkjaaRof
namespace Go.Proofs.Ytjdmjiikpnlkjaa
set_option linter.unusedSimpArgs false
set_option linter.unusedVariables false
open Go.RowKit Go.Maps Go.Sort
open V (P2)

theorem wpList_mapUp {P : Program} {ops : Array Oper} {rest : List Oper} {o : Oper} {a : Act} {w w' : World} {Q : Exit → Act → World → Prop} (hg : o.guard = none) (t : TypeId) (m x v : Operand) (ho : o.op = .mapUpdate t m x v)
    (hrun : (Instr.mapUpdate t (a.eval m) (a.eval x) (a.eval v)).run P w = .ok () w') (h : wpList P ops Q rest (a.put o.dst undef) w') : wpList P ops Q (o :: rest) a w := by
  refine wpList_plain hg fun K hK => ?_
  unfold Oper.wp
  simp [execOp, ho, hrun, Result.andThen]
  exact hK _ _ h
def Rd.ackOk (d : Rd) (p : P2) (u : Int) : Bool := d.lead && !decide (p = d.me) && !decide (V.rk d.M p < 0) && !decide (u ≤ d.has p) && !decide ((d.L.length : Int) < u)
def Rd.told (d : Rd) (p : P2) (u : Int) : Rd := { d with T := setT d.T p u.toNat, k := d.k + 1 }
def Rd.acked (d : Rd) (p : P2) (u : Int) : Rd := if d.ackOk p u = true then (d.told p u).counted else d
set_option maxRecDepth 100000 in
set_option maxHeartbeats 2000000 in
theorem rAcked (W : World) (b m : Nat) (lb : Option Nat) (d : Rd) (h : RP W b m lb d) (p : P2) (rp : Rg2 p) (u : Int) (hk : d.k ≤ 100000) :
    Calls Try.prog 23 #[.pointer (some ⟨b, 0, none⟩), .agg #[.int .u8 p.n, .int .u16 p.l], .int .i64 u] W fun e W' => e = .returned (.tuple #[]) ∧ RP W' b m lb (d.acked p u) ∧ KP (fun j => j = b ∨ j = m) W W' := by
  have HRP := Lib.hid h
  obtain ⟨⟨mv, lv, Lg⟩, hlb, h⟩ := h
  obtain ⟨A, c, hmv, hr, hc, hm⟩ := h.rows
  dsimp only at hmv hlb
  subst hmv
  obtain ⟨A5, c5, hlv, -, -, -⟩ := RowO.slice h.row
  have hl := h.len
  dsimp only at hlv hl
  rw [hl] at hlv
  subst hlv
  have HQ := Lib.hid h
  have HQL := Lib.hid hlb
  obtain ⟨k, hk0⟩ : ∃ k, W.heap.size = k := ⟨_, rfl⟩
  obtain ⟨w1, hw1⟩ : ∃ z, W.alloc (.cells #[.int .u8 p.n, .int .u16 p.l] 49) = z := ⟨_, rfl⟩
  have b1 : Below k W w1 := by rw [← hw1, ← hk0]; exact (Below.refl _ _).alloc (Nat.le_refl _) _
  have r1 : w1.heap[k]? = some (.cells #[.int .u8 p.n, .int .u16 p.l] 49 (0, 0)) := by rw [← hw1, ← hk0]; exact heap_alloc_new _ _
  have hp1 := HRP.out.below (hk0.symm ▸ b1)
  have hr1 := hr.below (hk0.symm ▸ b1) (Nat.le_refl _) (hk0.symm ▸ b1 : Below W.heap.size W w1).size
  obtain ⟨nM, hnM⟩ : ∃ n, d.M.length = n := ⟨_, rfl⟩
  obtain ⟨n, hn⟩ : ∃ n, d.L.length = n := ⟨_, rfl⟩
  have KL : Hid (∀ dd os, Calls Try.prog 38 #[.pointer (some ⟨b, 0, none⟩)] (grow (redrawn w1 dd) os) fun e w' => e = .returned (.bool d.lead) ∧ Below (grow (redrawn w1 dd) os).heap.size (grow (redrawn w1 dd) os) w') := Lib.hid fun dd os => rLeads _ b m lb d (hp1.below (below_regrown w1 dd os))
  have KR : Hid (∀ dd os, Calls Try.prog 35 #[.agg #[.int .u8 d.g, .int .u32 d.N, .slice A nM c], .agg #[.int .u8 p.n, .int .u16 p.l]] (grow (redrawn w1 dd) os) fun e w' => e = .returned (.int .i64 (V.rk d.M p)) ∧ Below (grow (redrawn w1 dd) os).heap.size (grow (redrawn w1 dd) os) w') := Lib.hid fun dd os => hnM ▸ V.rankO' d.g d.N A d.M c p _ (hr1.below (below_regrown w1 dd os) (Nat.le_refl _) (below_regrown w1 dd os).size) hc hm
  have KH : Hid (∀ dd os, Calls Try.prog 43 #[.pointer (some ⟨b, 0, none⟩), .agg #[.int .u8 p.n, .int .u16 p.l]] (grow (redrawn w1 dd) os) fun e w' => e = .returned (.int .i64 (d.has p)) ∧ Below (grow (redrawn w1 dd) os).heap.size (grow (redrawn w1 dd) os) w') := Lib.hid fun dd os => rHas _ b m lb d (hp1.below (below_regrown w1 dd os)) p rp
  have q1 : w1.heap[b]? = some (.cells #[.int .u8 d.g, .int .u32 d.N, .slice A nM c, .int .u8 d.me.n, .int .u16 d.me.l, .slice A5 n c5, .int .i64 d.base, .int .i64 d.commit, .bool d.shut, .map (some m)] 81 (0, 0)) := by
    rw [← hnM, ← hn]
    exact (b1.block b (hk0 ▸ h.ltb)).trans h.blk
  have k0 := cell_regrown (cell_of q1 0 (.int .u8 d.g) rfl)
  have k1 := cell_regrown (cell_of q1 1 (.int .u32 d.N) rfl)
  have k2 := cell_regrown (cell_of q1 2 (.slice A nM c) rfl)
  have k3 := cell_regrown (cell_of q1 3 (.int .u8 d.me.n) rfl)
  have k4 := cell_regrown (cell_of q1 4 (.int .u16 d.me.l) rfl)
  have k5 := cell_regrown (cell_of q1 5 (.slice A5 n c5) rfl)
  have p0 := cell_regrown (cell_of r1 0 (.int .u8 p.n) rfl)
  have p1 := cell_regrown (cell_of r1 1 (.int .u16 p.l) rfl)
  have R1 : Hid (w1.heap[b]? = some (.cells #[.int .u8 d.g, .int .u32 d.N, .slice A nM c, .int .u8 d.me.n, .int .u16 d.me.l, .slice A5 n c5, .int .i64 d.base, .int .i64 d.commit, .bool d.shut, .map (some m)] 81 (0, 0)) ∧ w1.heap[k]? = some (.cells #[.int .u8 p.n, .int .u16 p.l] 49 (0, 0)) ∧ ∃ es cl, w1.heap[m]? = some (.map es cl)) := Lib.hid ⟨q1, r1, by
    obtain ⟨es, cl, hm⟩ := h.tl.lt
    exact ⟨es, cl, (b1.block m (heap_lt hm |> fun x => hk0 ▸ x)).trans hm⟩⟩
  have heq := V.eqOP p d.me
  have qlen : ∀ (W : World) (ty : TypeId), (Builtin.len_ #[37] ty #[.slice A5 n c5]).run Try.prog W = .ok (.int .i64 n) W := fun W ty => by first | rfl | go_simp
  have HW1 := Lib.hid hw1
  have HKK := Lib.hid hk
  have HK := Lib.hid hk0
  have B1 := Lib.hid b1
  have HN := Lib.hid hn
  have HNM := Lib.hid hnM
  have few : n ≤ 400 := hn ▸ h.few
  have HOK : Hid (d.ackOk p u = (d.lead && !decide (p = d.me) && !decide (V.rk d.M p < 0) && !decide (u ≤ d.has p) && !decide ((n : Int) < u))) := Lib.hid (by rw [← hn]; rfl)
  have HBK : Hid (b < k) := Lib.hid (hk0 ▸ h.ltb)
  have HMK : Hid (m < k) := Lib.hid (hk0 ▸ h.ltm)
  clear h hlb hl hr hc hm hr1 hp1 b1 r1 q1 hw1 hk hk0 hn hnM
  generalize d.lead = ld at *
  obtain ⟨r, hr⟩ : ∃ z, V.rk d.M p = z := ⟨_, rfl⟩
  rw [hr] at KR HOK
  obtain ⟨hs, hhs⟩ : ∃ z, d.has p = z := ⟨_, rfl⟩
  rw [hhs] at KH HOK
  have HHS := Lib.hid hhs
  obtain ⟨t, ht⟩ : ∃ t, decide (p = d.me) = t := ⟨_, rfl⟩
  simp only [ht] at heq
  rw [ht] at HOK
  have HT := Lib.hid ht
  have HR := Lib.hid hr
  clear hr hhs ht
  cases ld with
  | false =>
    have HF : Hid (d.acked p u = d) := Lib.hid (by
      unfold Rd.acked
      rw [HOK.out]
      simp)
    go_enter Try.func23, Try.ntmps23
    go_wp2_with (first
      | (rw [HW1.out, HK.out])
      | fail)
    refine wp_region_quiet_below (by kernel_rfl) (by kernel_rfl) ?_
    repeat (go_big_quiet_step (first | (go_at_call 38; exact Calls.regrown_of (KL.out _ _)) | (go_at_call 35; exact Calls.regrown_of (KR.out _ _)) | (go_at_call 43; exact Calls.regrown_of (KH.out _ _)) | fail))
    refine wpQuiet_nil ?_
    rintro W9 ⟨p9, rfl⟩
    have B9 := Lib.hid (B1.out.trans ((below_regrown w1 p9.d p9.os).mono (HK.out ▸ B1.out.size)))
    generalize grow (redrawn w1 p9.d) p9.os = W9 at *
    go_wp2_with fail
    refine bodyPost_ret (results_none rfl _ _ _) rfl ⟨rfl, ?_, KP.of_below (by rw [HK.out]; exact B9.out)⟩
    rw [HF.out]
    exact HRP.out.below (by rw [HK.out]; exact B9.out)
  | true =>
    cases t with
    | true =>
      have HF : Hid (d.acked p u = d) := Lib.hid (by
        unfold Rd.acked
        rw [HOK.out]
        simp)
      go_enter Try.func23, Try.ntmps23
      go_wp2_with (first
        | (rw [HW1.out, HK.out])
        | fail)
      refine wp_region_quiet_below (by kernel_rfl) (by kernel_rfl) ?_
      repeat (go_big_quiet_step (first | (go_at_call 38; exact Calls.regrown_of (KL.out _ _)) | (go_at_call 35; exact Calls.regrown_of (KR.out _ _)) | (go_at_call 43; exact Calls.regrown_of (KH.out _ _)) | fail))
      refine wpQuiet_nil ?_
      rintro W9 ⟨p9, rfl⟩
      have B9 := Lib.hid (B1.out.trans ((below_regrown w1 p9.d p9.os).mono (HK.out ▸ B1.out.size)))
      generalize grow (redrawn w1 p9.d) p9.os = W9 at *
      go_wp2_with fail
      refine bodyPost_ret (results_none rfl _ _ _) rfl ⟨rfl, ?_, KP.of_below (by rw [HK.out]; exact B9.out)⟩
      rw [HF.out]
      exact HRP.out.below (by rw [HK.out]; exact B9.out)
    | false =>
      by_cases hneg : r < 0
      · have hdn : decide (r < 0) = true := decide_eq_true hneg
        have HF : Hid (d.acked p u = d) := Lib.hid (by
          unfold Rd.acked
          rw [HOK.out]
          simp [hneg])
        go_enter Try.func23, Try.ntmps23
        go_wp2_with (first
          | (rw [HW1.out, HK.out])
          | fail)
        refine wp_region_quiet_below (by kernel_rfl) (by kernel_rfl) ?_
        repeat (go_big_quiet_step (first | (go_at_call 38; exact Calls.regrown_of (KL.out _ _)) | (go_at_call 35; exact Calls.regrown_of (KR.out _ _)) | (go_at_call 43; exact Calls.regrown_of (KH.out _ _)) | fail))
        refine wpQuiet_nil ?_
        rintro W9 ⟨p9, rfl⟩
        have B9 := Lib.hid (B1.out.trans ((below_regrown w1 p9.d p9.os).mono (HK.out ▸ B1.out.size)))
        generalize grow (redrawn w1 p9.d) p9.os = W9 at *
        go_wp2_with fail
        refine bodyPost_ret (results_none rfl _ _ _) rfl ⟨rfl, ?_, KP.of_below (by rw [HK.out]; exact B9.out)⟩
        rw [HF.out]
        exact HRP.out.below (by rw [HK.out]; exact B9.out)
      · have hdn : decide (r < 0) = false := decide_eq_false hneg
        have HNEG := Lib.hid hneg
        by_cases hu : u ≤ (hs : Int)
        · have hdu : decide (u ≤ (hs : Int)) = true := decide_eq_true hu
          have HF : Hid (d.acked p u = d) := Lib.hid (by
            unfold Rd.acked
            rw [HOK.out]
            simp [hu])
          go_enter Try.func23, Try.ntmps23
          go_wp2_with (first
            | (rw [HW1.out, HK.out])
            | fail)
          refine wp_region_quiet_below (by kernel_rfl) (by kernel_rfl) ?_
          repeat (go_big_quiet_step (first | (go_at_call 38; exact Calls.regrown_of (KL.out _ _)) | (go_at_call 35; exact Calls.regrown_of (KR.out _ _)) | (go_at_call 43; exact Calls.regrown_of (KH.out _ _)) | fail))
          refine wpQuiet_nil ?_
          rintro W9 ⟨p9, rfl⟩
          have B9 := Lib.hid (B1.out.trans ((below_regrown w1 p9.d p9.os).mono (HK.out ▸ B1.out.size)))
          generalize grow (redrawn w1 p9.d) p9.os = W9 at *
          go_wp2_with fail
          refine bodyPost_ret (results_none rfl _ _ _) rfl ⟨rfl, ?_, KP.of_below (by rw [HK.out]; exact B9.out)⟩
          rw [HF.out]
          exact HRP.out.below (by rw [HK.out]; exact B9.out)
        · have hdu : decide (u ≤ (hs : Int)) = false := decide_eq_false hu
          have HU := Lib.hid hu
          by_cases hg : (n : Int) < u
          · have hdg : decide ((n : Int) < u) = true := decide_eq_true hg
            have HF : Hid (d.acked p u = d) := Lib.hid (by
              unfold Rd.acked
              rw [HOK.out]
              simp [hg])
            go_enter Try.func23, Try.ntmps23
            go_wp2_with (first
              | (rw [HW1.out, HK.out])
              | fail)
            refine wp_region_quiet_below (by kernel_rfl) (by kernel_rfl) ?_
            repeat (go_big_quiet_step (first | (go_at_call 38; exact Calls.regrown_of (KL.out _ _)) | (go_at_call 35; exact Calls.regrown_of (KR.out _ _)) | (go_at_call 43; exact Calls.regrown_of (KH.out _ _)) | fail))
            refine wpQuiet_nil ?_
            rintro W9 ⟨p9, rfl⟩
            have B9 := Lib.hid (B1.out.trans ((below_regrown w1 p9.d p9.os).mono (HK.out ▸ B1.out.size)))
            generalize grow (redrawn w1 p9.d) p9.os = W9 at *
            go_wp2_with fail
            refine bodyPost_ret (results_none rfl _ _ _) rfl ⟨rfl, ?_, KP.of_below (by rw [HK.out]; exact B9.out)⟩
            rw [HF.out]
            exact HRP.out.below (by rw [HK.out]; exact B9.out)
          · have HG := Lib.hid hg
            have hdg : decide ((n : Int) < u) = false := decide_eq_false hg
            have HF : Hid (d.acked p u = (d.told p u).counted) := Lib.hid (by
              unfold Rd.acked
              rw [HOK.out]
              simp [hneg, hu, hg])
            go_enter Try.func23, Try.ntmps23
            go_wp2_with (first
              | (rw [HW1.out, HK.out])
              | fail)
            refine wp_region_quiet_below (by kernel_rfl) (by kernel_rfl) ?_
            repeat (go_big_quiet_step (first | (go_at_call 38; exact Calls.regrown_of (KL.out _ _)) | (go_at_call 35; exact Calls.regrown_of (KR.out _ _)) | (go_at_call 43; exact Calls.regrown_of (KH.out _ _)) | fail))
            refine wpQuiet_nil ?_
            rintro W9 ⟨p9, rfl⟩
            have b9 := below_regrown w1 p9.d p9.os
            have B9 := Lib.hid (B1.out.trans (b9.mono (HK.out ▸ B1.out.size)))
            generalize grow (redrawn w1 p9.d) p9.os = W9 at *
            have R9 : Hid (W9.drew.heap[b]? = some (.cells #[.int .u8 d.g, .int .u32 d.N, .slice A nM c, .int .u8 d.me.n, .int .u16 d.me.l, .slice A5 n c5, .int .i64 d.base, .int .i64 d.commit, .bool d.shut, .map (some m)] 81 (0, 0)) ∧ W9.drew.heap[k]? = some (.cells #[.int .u8 p.n, .int .u16 p.l] 49 (0, 0)) ∧ ∃ es cl, W9.drew.heap[m]? = some (.map es cl)) := Lib.hid ⟨(b9.block b (heap_lt R1.out.1)).trans R1.out.1, (b9.block k (heap_lt R1.out.2.1)).trans R1.out.2.1, by
              obtain ⟨es, cl, hm⟩ := R1.out.2.2
              exact ⟨es, cl, (b9.block m (heap_lt hm)).trans hm⟩⟩
            have B9d : Hid (Below k W W9.drew) := Lib.hid B9.out.drew
            clear b9 k0 k1 k2 k3 k4 k5 p0 p1 hneg hu hg hdn hdu hdg
            go_wp2_with fail
            refine region_heldT (S := fun u => u.heap[b]? = some (.cells #[.int .u8 d.g, .int .u32 d.N, .slice A nM c, .int .u8 d.me.n, .int .u16 d.me.l, .slice A5 n c5, .int .i64 d.base, .int .i64 d.commit, .bool d.shut, .map (some m)] 81 (0, 0)) ∧ u.heap[k]? = some (.cells #[.int .u8 p.n, .int .u16 p.l] 49 (0, 0)) ∧ ∃ es cl, u.heap[m]? = some (.map es cl)) 6 (by kernel_rfl) (by decide) (fun inv => ?_)
            have HS := R9.out
            change FirstH _ _ _ _ _ _ _ _ _ _ W9.drew
            generalize W9.drew = wd at *
            refine FirstH.go (i := 0) (v := .pointer (some ⟨b, 0, none⟩)) rfl rfl 42 rfl (Op.move (Operand.tmp 0)) rfl (by kernel_rfl) (fun _ _ _ h => h) inv (fun W hS => by unfold bareO; go_simp) HS (fun inv => ?_)
            try simp only [Act.put, List.setIfInBounds_toArray, List.set_cons_zero, List.set_cons_succ]
            refine FirstH.go (i := 1) (v := .pointer (some ⟨b, 0, none⟩)) rfl rfl 43 rfl (Op.nilCheck (Operand.tmp 42)) rfl (by kernel_rfl) (fun _ _ _ h => h) inv (fun W hS => by unfold bareO; go_simp) HS (fun inv => ?_)
            try simp only [Act.put, List.setIfInBounds_toArray, List.set_cons_zero, List.set_cons_succ]
            refine FirstH.go (i := 2) (v := .pointer (some ⟨b, 9, none⟩)) rfl rfl 44 rfl (Op.fieldAddr 81 (Operand.tmp 43) 6) rfl (by kernel_rfl) (fun _ _ _ h => h) inv (fun W hS => by unfold bareO; go_simp) HS (fun inv => ?_)
            try simp only [Act.put, List.setIfInBounds_toArray, List.set_cons_zero, List.set_cons_succ]
            refine FirstH.go (i := 3) (v := .map (some m)) rfl rfl 45 rfl (Op.load 79 (Operand.tmp 44)) rfl (by kernel_rfl) (fun _ _ _ h => h) inv (fun W hS => by have k9 := cell_of hS.1 9 (.map (some m)) rfl; have p0 := cell_of hS.2.1 0 (.int .u8 p.n) rfl; have p1 := cell_of hS.2.1 1 (.int .u16 p.l) rfl; unfold bareO; go_simp) HS (fun inv => ?_)
            try simp only [Act.put, List.setIfInBounds_toArray, List.set_cons_zero, List.set_cons_succ]
            refine FirstH.go (i := 4) (v := .agg #[.int .u8 p.n, .int .u16 p.l]) rfl rfl 46 rfl (Op.load 49 (Operand.tmp 4)) rfl (by kernel_rfl) (fun _ _ _ h => h) inv (fun W hS => by have k9 := cell_of hS.1 9 (.map (some m)) rfl; have p0 := cell_of hS.2.1 0 (.int .u8 p.n) rfl; have p1 := cell_of hS.2.1 1 (.int .u16 p.l) rfl; unfold bareO; go_simp) HS (fun inv => ?_)
            try simp only [Act.put, List.setIfInBounds_toArray, List.set_cons_zero, List.set_cons_succ]
            refine FirstH.go (i := 5) (v := .int .i64 u) rfl rfl 47 rfl (Op.move (Operand.tmp 2)) rfl (by kernel_rfl) (fun _ _ _ h => h) inv (fun W hS => by unfold bareO; go_simp) HS (fun inv => ?_)
            try simp only [Act.put, List.setIfInBounds_toArray, List.set_cons_zero, List.set_cons_succ]
            refine ⟨by kernel_rfl, ?_⟩
            simp only [List.drop_succ_cons, List.drop_zero]
            clear HS
            have hq9 := HQ.out.below (HK.out.symm ▸ B9d.out)
            have hun : u = ((u.toNat : Nat) : Int) := by
              have := HU.out
              omega
            obtain ⟨W10, hrun, htl, hkp⟩ := hq9.tl.put p rp u.toNat HKK.out
            rw [← hun] at hrun
            have hrp10 : RP W10 b m lb (d.told p u) ∧ KP (fun j => j = b ∨ j = m) W W10 := by
              have kp : KP (FR b m (Value.slice A5 d.L.length c5).ownBlock) wd W10 := hkp.mono fun j hj => .inr (.inl hj)
              have k3 := hq9.keep3 kp
              refine ⟨⟨_, HQL.out, (hkp.block b (heap_lt hq9.blk) hq9.ne).trans hq9.blk, htl, RowO.keepB hq9.mem fun g hg => by
                obtain ⟨cur, hc⟩ := RowO.block hq9.mem g hg
                exact (k3 g cur _ hc (.inl rfl)).trans hc.symm, RowO.keepB hq9.row fun j hj => hkp.block j (RowO.lt hq9.row j hj) fun e => hq9.nel.2 (e ▸ hj), fun e he => (hq9.all e he).keepL k3.l, hq9.lgd, hq9.right, hq9.few, hq9.hb, hq9.hc, fun y => ?_, hq9.rm, hq9.rM⟩, (KP.of_below (HK.out.symm ▸ B9d.out)).trans (hkp.mono fun j hj => .inr hj) fun _ _ h => h⟩
              show setT d.T p u.toNat y ≤ d.L.length
              unfold setT
              split
              · have := HG.out
                have := HN.out
                have := HU.out
                omega
              · exact hq9.ht y
            have HP10 := Lib.hid hrp10
            have KC := Lib.hid (rCount W10 b m lb _ hrp10.1)
            clear hq9 htl hkp hrp10 hun
            go_wp2_with (first
              | (refine wpList_mapUp rfl 79 (.tmp 45) (.tmp 46) (.tmp 47) rfl hrun ?_)
              | (go_at_call 41; refine KC.out.mono ?_; rintro r w9 ⟨rfl, hp9, kp9⟩; have HP9 := Lib.hid hp9; have KP9 := Lib.hid kp9; clear hp9 kp9)
              | fail)
            refine bodyPost_end (results_none rfl _ _ _) rfl ⟨rfl, ?_, HP10.out.2.trans (KP9.out.mono fun j hj => .inl hj) fun _ _ h => h⟩
            rw [HF.out]
            exact HP9.out

end Go.Proofs.Ytjdmjiikpnlkjaa
