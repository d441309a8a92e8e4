/-
  The document's Out, walked: by an exact answer. Condition: the link lies in memory.
-/
import Derived.Test.YtgnfclikdfllnaaJdo
namespace Go.Proofs.Ytgnfclikdfllnaa
set_option linter.unusedSimpArgs false
set_option linter.unusedVariables false
open Go.RowKit Go.Maps Go.Sort

/-- what Out leaves behind. -/
def OutDR (base : Nat) (W : World) (b : Nat) (v w : Value) (s : Sc) (L : List Ls) (K : List Kr) (now : Int) (e : Ending) (W' : World) : Prop := ∃ (pv : Value) (P : List Pk), e = .returned pv ∧ W'.ownsRow W.heap.size 37 8 pv P.length (flat Pk.cs P) ∧ (∀ x ∈ P, x.b.Ok W') ∧ P.map Pk.pu = fOut s now L ∧ DL base W' b v w { s with owed := false } (outL now s.again L 8) K ∧ KP (FD b v w) W W'
theorem OutD.below {base : Nat} {W : World} {b : Nat} {v w : Value} {s : Sc} {L : List Ls} {K : List Kr} {now : Int} {k : Nat} {pv : Value} {P : List Pk} {wr wz : World} (h : OutD base W b v w s L K now k pv P wr) (hb : Below wr.heap.size wr wz) : OutD base W b v w s L K now k pv P wz :=
  ⟨h.dl.below hb, owns_keepB h.row fun g hg => hb.block g (h.row.lt g hg).2, h.eq, fun x hx => (h.ok x hx).below hb, h.kp.trans (KP.of_below hb) fun _ _ h => h⟩
set_option maxRecDepth 100000 in
set_option maxHeartbeats 4000000 in
theorem outDW (base : Nat) (W : World) (b : Nat) (v w : Value) (s : Sc) (L : List Ls) (K : List Kr) (h : DL base W b v w s L K) (now : Int) (hnow : -9223372036854775808 ≤ now ∧ now ≤ 9223372036854775807) :
    Calls Try.prog 17 #[.pointer (some ⟨b, 0, none⟩), .int .i64 now] W fun e W' => OutDR base W b v w s L K now e W' := by
  obtain ⟨A, cp, rfl, hn1, hn2, hA⟩ := h.row.slice
  obtain ⟨n, hn⟩ : ∃ n, L.length = n := ⟨_, rfl⟩
  obtain ⟨q, hq⟩ : ∃ q, min n 8 = q := ⟨_, rfl⟩
  simp only [hn] at h hn1 ⊢
  have J0 : Hid (OutD base W b (.slice A n cp) w s L K now 0 (.slice none 0 0) [] W) := Lib.hid ⟨by rw [outL_zero]; exact h, World.ownsRow_nil _ _ _ _, rfl, fun _ hx => (by cases hx), KP.refl _ _⟩
  obtain ⟨mn, ml, pn, pl, ag, nx, wt, ow⟩ := s
  have HN := Lib.hid hn
  have HQ := Lib.hid hq
  have HA := Lib.hid hA
  have HNW := Lib.hid hnow
  have AG := Lib.hid h.agn
  have HBW := Lib.hid (blt h.lnk)
  have hq8 : q ≤ 8 := by omega
  clear h hn hq hA hn1 hn2 hnow
  go_enter Try.func17, Try.ntmps17
  go_wp2
  go_loopw [5, 6] (fun pv iv wr => ∃ (k : Nat) (P : List Pk), k ≤ q ∧ iv = .int .i64 k ∧ Hid (OutD base W b (.slice A n cp) w ⟨mn, ml, pn, pl, ag, nx, wt, ow⟩ L K now k pv P wr)) (fun _ iv _ => q - (intOf iv).toNat)
  case atStart => exact ⟨0, [], Nat.zero_le _, rfl, J0⟩
  case round =>
    obtain ⟨k, P, hk, rfl, J⟩ := hrel
    clear J0
    have c7 := cell_of J.out.dl.lnk 7 (.slice A n cp) rfl
    by_cases hkq : k < q
    · have hki : (k : Int) < (n : Int) := by have := HQ.out; omega
      have hk8 : (k : Int) < 8 := by omega
      have c4 := cell_of J.out.dl.lnk 4 (.int .i64 ag) rfl
      have hkL : k < L.length := by have := HN.out; have := HQ.out; omega
      obtain ⟨x, hxk⟩ : ∃ x, L[k]? = some x := ⟨L[k], by simp [hkL]⟩
      obtain ⟨xq, ⟨xB, xa, xc⟩, xt, xw⟩ := x
      have hg : ∃ g o, A = some ⟨g, o, none⟩ := by
        rcases HA.out with ⟨h0, h1⟩ | h0
        · exfalso
          obtain ⟨A', c', e, h3, _⟩ := J.out.dl.row.slice
          rw [outL_len, HN.out] at e h3
          injection e with _ _ e
          have := HQ.out
          omega
        · exact h0
      obtain ⟨g, o, rfl⟩ := hg
      have hol : (outL now ag L k).length = n := by rw [outL_len, HN.out]
      have hat : (outL now ag L k)[k]? = some ⟨xq, ⟨xB, xa, xc⟩, xt, xw⟩ := by rw [outL_at now ag L k hkL, ← hxk]; simp [hkL]
      have row := J.out.dl.row
      simp only [] at row
      rw [hol] at row
      have e0 := RowO.elem Ls.sz row hat (j := 0) (by decide)
      have e1 := RowO.elem Ls.sz row hat (j := 1) (by decide)
      have e2 := RowO.elem Ls.sz row hat (j := 2) (by decide)
      have e3 := RowO.elem Ls.sz row hat (j := 3) (by decide)
      simp only [Ls.cs, List.getElem?_toArray, List.getElem?_cons_zero, List.getElem?_cons_succ, Nat.add_zero] at e0 e1 e2 e3
      have okx := J.out.dl.okL _ (List.mem_of_getElem? hat)
      have atx := J.out.dl.ats _ (List.mem_of_getElem? hat)
      obtain ⟨cur, hcur⟩ := J.out.dl.row.block g rfl
      have GL := Lib.hid (blt hcur)
      obtain ⟨xl, hxl⟩ : ∃ xl, xB.length = xl := ⟨_, rfl⟩
      have HXL := Lib.hid hxl
      simp only [hxl] at e1
      obtain ⟨W1, hW1⟩ : ∃ Y, wr.alloc (.cells #[.int .u64 0, .slice none 0 0, .bool false, .int .i64 0] 88) = Y := ⟨_, rfl⟩
      have r1 : W1.heap[wr.heap.size]? = some (.cells #[.int .u64 0, .slice none 0 0, .bool false, .int .i64 0] 88 (0, 0)) := by rw [← hW1]; exact heap_alloc_new _ _
      obtain ⟨W2, hW2⟩ : ∃ Y, W1.setRow wr.heap.size #[.int .u64 xq, .slice xa xl xc, .bool xt, .int .i64 xw] = Y := ⟨_, rfl⟩
      have r2 : W2.heap[wr.heap.size]? = some (.cells #[.int .u64 xq, .slice xa xl xc, .bool xt, .int .i64 xw] 88 (0, 0)) := by rw [← hW2]; exact setRow_heap _ _ _ _ _ _ r1
      have b2 : Below wr.heap.size wr W2 := by rw [← hW2, ← hW1]; exact below_row ((Below.refl _ _).alloc (Nat.le_refl _) _) (Nat.le_refl _) _
      have l2 := (b2.block b (blt J.out.dl.lnk)).trans J.out.dl.lnk
      have KD := Lib.hid (fun X => lateD xw now ag X atx HNW.out.2 AG.out)
      have HXK := Lib.hid hxk
      have OKX := Lib.hid okx
      have HW1 := Lib.hid hW1
      have HW2 := Lib.hid hW2
      have R1 := Lib.hid r1
      have R2 := Lib.hid r2
      have B2 := Lib.hid b2
      have HOL := Lib.hid hol
      have HAT := Lib.hid hat
      have D1 := Lib.hid J.out.dl
      have J1 := Lib.hid J.out
      have L2 := Lib.hid l2
      clear hkL hxk hol hat row okx atx hcur hxl hW1 r1 hW2 r2 b2 l2
      have z2 : True := trivial
      have z3 : True := trivial
      go_wp2_with (first
        | (rw [HW1.out])
        | (refine wpList_store_row rfl 88 (.tmp 7) (.tmp 27) rfl wr.heap.size #[.int .u64 xq, .slice xa xl xc, .bool xt, .int .i64 xw] (by rfl) (by rfl) 88 #[.int .u64 0, .slice none 0 0, .bool false, .int .i64 0] R1.out (by kernel_rfl) rfl (by simp [Value.oneCell']) ?_; rw [HW2.out]))
      have d2 := cell_of R2.out 2 (.bool xt) rfl
      have d3 := cell_of R2.out 3 (.int .i64 xw) rfl
      have c4 := cell_of L2.out 4 (.int .i64 ag) rfl
      have t2 := cell_regrown d2
      have t3 := cell_regrown d3
      have t4 := cell_regrown c4
      clear d2 d3 c4 c7
      have E2 := Lib.hid e2
      have E3 := Lib.hid e3
      clear e0 e1 e2 e3 z2 z3
      cases xt with
      | false =>
        have HD : Hid (dueB false xw now ag = true) := Lib.hid rfl
        refine wp_region_quiet_below (by kernel_rfl) (by kernel_rfl) ?_
        repeat (go_big_quiet_step (fail))
        refine wpQuiet_nil ?_
        rintro W3 ⟨p3, rfl⟩
        have b3 := below_regrown W2 p3.d p3.os
        generalize grow (redrawn W2 p3.d) p3.os = W3 at b3 ⊢
        have B3 := Lib.hid (B2.out.trans (b3.mono B2.out.size))
        have R3 := Lib.hid ((b3.block _ (blt R2.out)).trans R2.out)
        have l3 := (b3.block _ (blt L2.out)).trans L2.out
        simp only [Sc.ds, HOL.out] at l3
        have c7 := cell_of l3 7 (.slice (some ⟨g, o, none⟩) n cp) rfl
        have e2 := (B3.out.cell (p := ⟨g, o + k * 4 + 2, none⟩) GL.out).trans E2.out
        have e3 := (B3.out.cell (p := ⟨g, o + k * 4 + 3, none⟩) GL.out).trans E3.out
        obtain ⟨cu3, hcu3⟩ := (D1.out.below B3.out).row.block g rfl
        have z2 := frz_row (o + k * 4 + 2) hcu3
        have z3 := frz_row (o + k * 4 + 3) hcu3
        clear b3 l3 hcu3 t2 t3 t4
        have hgb : ¬ g = b := D1.out.ne_bv g rfl
        have hbg : ¬ b = g := fun e => hgb e.symm
        go_wp2
        obtain ⟨w3, hw3⟩ : ∃ Y, (W3.setCell ⟨g, o + k * 4 + 2, none⟩ (.bool true)).setCell ⟨g, o + k * 4 + 3, none⟩ (.int .i64 now) = Y := ⟨_, rfl⟩
        rw [hw3]
        have D3 := D1.out.below B3.out
        obtain ⟨D3', k3⟩ := D3.tell HOL.out HAT.out now HNW.out
        rw [hw3] at D3' k3
        have K3 := Lib.hid k3
        have r3' := (k3.block _ (blt R3.out) (fun e => by have := GL.out; omega)).trans R3.out
        have l3' := D3'.lnk
        simp only [Sc.ds] at l3'
        obtain ⟨w4, hw4⟩ : ∃ Y, w3.drew = Y := ⟨_, rfl⟩
        have b4 : Below w3.heap.size w3 w4 := by rw [← hw4]; exact (Below.refl _ _).drew
        have HS : w4.heap[b]? = some (.cells #[.int .u8 mn, .int .u16 ml, .int .u8 pn, .int .u16 pl, .int .i64 ag, .int .u64 nx, .int .u64 wt, .slice (some ⟨g, o, none⟩) n cp, w, .bool ow] 60 (0, 0)) ∧ w4.heap[wr.heap.size]? = some (.cells #[.int .u64 xq, .slice xa xl xc, .bool false, .int .i64 xw] 88 (0, 0)) := ⟨(b4.block _ (blt l3')).trans l3', (b4.block _ (blt r3')).trans r3'⟩
        obtain ⟨w5, hw5⟩ : ∃ Y, w4.alloc (.cells #[.int .u8 mn, .int .u16 ml, .int .u8 pn, .int .u16 pl, .int .u64 xq, .int .u64 wt, .bool true, .slice xa xl xc] 37) = Y := ⟨_, rfl⟩
        have b5 : Below w3.heap.size w3 w5 := by rw [← hw5]; exact b4.alloc b4.size _
        have r5 : w5.heap[w4.heap.size]? = some (.cells #[.int .u8 mn, .int .u16 ml, .int .u8 pn, .int .u16 pl, .int .u64 xq, .int .u64 wt, .bool true, .slice xa xl xc] 37 (0, 0)) := by rw [← hw5]; exact heap_alloc_new _ _
        have O5 := Lib.hid (by
          have e1 : ∀ g', u5.ownBlock = some g' → w5.heap[g']? = wr.heap[g']? := fun g' hg' => by
            obtain ⟨cu, hcu⟩ := row_block J.out.row hg'
            obtain ⟨c2, h2⟩ := J.out.dl.row.block g rfl
            have hne : g' ≠ g := apart_of hcu h2 (by decide)
            have q1 := (B3.out.block g' (blt hcu)).trans hcu
            have q2 := (k3.block g' (blt q1) hne).trans q1
            exact ((b5.block g' (blt q2)).trans q2).trans hcu.symm
          exact owns_keepB J.out.row e1 : w5.ownsRow W.heap.size 37 8 u5 P.length (flat Pk.cs P))
        have PLN := Lib.hid (Nat.le_trans J.out.len (Nat.le_trans hk hq8))
        have WS5 := Lib.hid (Nat.le_trans J.out.kp.size (Nat.le_trans B3.out.size (Nat.le_trans k3.size b5.size)))
        have HSS : Hid (w5.heap[b]? = some (.cells #[.int .u8 mn, .int .u16 ml, .int .u8 pn, .int .u16 pl, .int .i64 ag, .int .u64 nx, .int .u64 wt, .slice (some ⟨g, o, none⟩) n cp, w, .bool ow] 60 (0, 0)) ∧ w5.heap[wr.heap.size]? = some (.cells #[.int .u64 xq, .slice xa xl xc, .bool false, .int .i64 xw] 88 (0, 0))) := Lib.hid ⟨(b5.block _ (blt l3')).trans l3', (b5.block _ (blt r3')).trans r3'⟩
        have HW3 := Lib.hid hw3
        have HW4 := Lib.hid hw4
        have HW5 := Lib.hid hw5
        have R5 := Lib.hid r5
        have B5 := Lib.hid b5
        have H4 := Lib.hid HS
        clear hw3 D3 D3' k3 r3' l3' hw4 b4 HS hw5 b5 r5 e2 e3 z2 z3 c7
        refine region_heldT (S := fun X => X.heap[b]? = some (.cells #[.int .u8 mn, .int .u16 ml, .int .u8 pn, .int .u16 pl, .int .i64 ag, .int .u64 nx, .int .u64 wt, .slice (some ⟨g, o, none⟩) n cp, w, .bool ow] 60 (0, 0)) ∧ X.heap[wr.heap.size]? = some (.cells #[.int .u64 xq, .slice xa xl xc, .bool false, .int .i64 xw] 88 (0, 0))) 20 (by kernel_rfl) (by decide) (fun inv => ?_)
        change FirstH _ _ _ _ _ _ _ _ _ _ w3.drew
        rw [HW4.out]
        have HS := H4.out
        refine FirstH.go (i := 0) (v := u5) rfl rfl _ rfl _ rfl (by kernel_rfl) (fun _ _ _ h => h) inv (fun X _ => by unfold bareO; go_simp) HS (fun inv => ?_)
        try simp only [Act.put, List.setIfInBounds_toArray, List.set_cons_zero, List.set_cons_succ]
        refine FirstH.go (i := 1) (v := .pointer (some ⟨b, 0, none⟩)) rfl rfl _ rfl _ rfl (by kernel_rfl) (fun _ _ _ h => h) inv (fun X _ => by unfold bareO; go_simp) HS (fun inv => ?_)
        try simp only [Act.put, List.setIfInBounds_toArray, List.set_cons_zero, List.set_cons_succ]
        refine FirstH.go (i := 2) (v := .pointer (some ⟨b, 0, none⟩)) rfl rfl _ rfl _ rfl (by kernel_rfl) (fun _ _ _ h => h) inv (fun X _ => by unfold bareO; go_simp) HS (fun inv => ?_)
        try simp only [Act.put, List.setIfInBounds_toArray, List.set_cons_zero, List.set_cons_succ]
        refine FirstH.go (i := 3) (v := .pointer (some ⟨b, 0, none⟩)) rfl rfl _ rfl _ rfl (by kernel_rfl) (fun _ _ _ h => h) inv (fun X _ => by unfold bareO; go_simp) HS (fun inv => ?_)
        try simp only [Act.put, List.setIfInBounds_toArray, List.set_cons_zero, List.set_cons_succ]
        refine FirstH.go (i := 4) (v := .agg #[.int .u8 mn, .int .u16 ml]) rfl rfl _ rfl _ rfl (by kernel_rfl) (fun _ _ _ h => h) inv (fun X hS => by have c1 := cell_of hS.1 0 (.int .u8 mn) rfl; have c2 := cell_of hS.1 1 (.int .u16 ml) rfl; unfold bareO; go_simp) HS (fun inv => ?_)
        try simp only [Act.put, List.setIfInBounds_toArray, List.set_cons_zero, List.set_cons_succ]
        refine FirstH.go (i := 5) (v := .pointer (some ⟨b, 0, none⟩)) rfl rfl _ rfl _ rfl (by kernel_rfl) (fun _ _ _ h => h) inv (fun X _ => by unfold bareO; go_simp) HS (fun inv => ?_)
        try simp only [Act.put, List.setIfInBounds_toArray, List.set_cons_zero, List.set_cons_succ]
        refine FirstH.go (i := 6) (v := .pointer (some ⟨b, 0, none⟩)) rfl rfl _ rfl _ rfl (by kernel_rfl) (fun _ _ _ h => h) inv (fun X _ => by unfold bareO; go_simp) HS (fun inv => ?_)
        try simp only [Act.put, List.setIfInBounds_toArray, List.set_cons_zero, List.set_cons_succ]
        refine FirstH.go (i := 7) (v := .pointer (some ⟨b, 2, none⟩)) rfl rfl _ rfl _ rfl (by kernel_rfl) (fun _ _ _ h => h) inv (fun X _ => by unfold bareO; go_simp) HS (fun inv => ?_)
        try simp only [Act.put, List.setIfInBounds_toArray, List.set_cons_zero, List.set_cons_succ]
        refine FirstH.go (i := 8) (v := .agg #[.int .u8 pn, .int .u16 pl]) rfl rfl _ rfl _ rfl (by kernel_rfl) (fun _ _ _ h => h) inv (fun X hS => by have c1 := cell_of hS.1 2 (.int .u8 pn) rfl; have c2 := cell_of hS.1 3 (.int .u16 pl) rfl; unfold bareO; go_simp) HS (fun inv => ?_)
        try simp only [Act.put, List.setIfInBounds_toArray, List.set_cons_zero, List.set_cons_succ]
        refine FirstH.go (i := 9) (v := .pointer (some ⟨wr.heap.size, 0, none⟩)) rfl rfl _ rfl _ rfl (by kernel_rfl) (fun _ _ _ h => h) inv (fun X _ => by unfold bareO; go_simp) HS (fun inv => ?_)
        try simp only [Act.put, List.setIfInBounds_toArray, List.set_cons_zero, List.set_cons_succ]
        refine FirstH.go (i := 10) (v := .int .u64 xq) rfl rfl _ rfl _ rfl (by kernel_rfl) (fun _ _ _ h => h) inv (fun X hS => by have c1 := cell_of hS.2 0 (.int .u64 xq) rfl; unfold bareO; go_simp) HS (fun inv => ?_)
        try simp only [Act.put, List.setIfInBounds_toArray, List.set_cons_zero, List.set_cons_succ]
        refine FirstH.go (i := 11) (v := .pointer (some ⟨b, 0, none⟩)) rfl rfl _ rfl _ rfl (by kernel_rfl) (fun _ _ _ h => h) inv (fun X _ => by unfold bareO; go_simp) HS (fun inv => ?_)
        try simp only [Act.put, List.setIfInBounds_toArray, List.set_cons_zero, List.set_cons_succ]
        refine FirstH.go (i := 12) (v := .pointer (some ⟨b, 0, none⟩)) rfl rfl _ rfl _ rfl (by kernel_rfl) (fun _ _ _ h => h) inv (fun X _ => by unfold bareO; go_simp) HS (fun inv => ?_)
        try simp only [Act.put, List.setIfInBounds_toArray, List.set_cons_zero, List.set_cons_succ]
        refine FirstH.go (i := 13) (v := .pointer (some ⟨b, 6, none⟩)) rfl rfl _ rfl _ rfl (by kernel_rfl) (fun _ _ _ h => h) inv (fun X _ => by unfold bareO; go_simp) HS (fun inv => ?_)
        try simp only [Act.put, List.setIfInBounds_toArray, List.set_cons_zero, List.set_cons_succ]
        refine FirstH.go (i := 14) (v := .int .u64 wt) rfl rfl _ rfl _ rfl (by kernel_rfl) (fun _ _ _ h => h) inv (fun X hS => by have c1 := cell_of hS.1 6 (.int .u64 wt) rfl; unfold bareO; go_simp) HS (fun inv => ?_)
        try simp only [Act.put, List.setIfInBounds_toArray, List.set_cons_zero, List.set_cons_succ]
        refine FirstH.go (i := 15) (v := .pointer (some ⟨wr.heap.size, 1, none⟩)) rfl rfl _ rfl _ rfl (by kernel_rfl) (fun _ _ _ h => h) inv (fun X _ => by unfold bareO; go_simp) HS (fun inv => ?_)
        try simp only [Act.put, List.setIfInBounds_toArray, List.set_cons_zero, List.set_cons_succ]
        refine FirstH.go (i := 16) (v := .slice xa xl xc) rfl rfl _ rfl _ rfl (by kernel_rfl) (fun _ _ _ h => h) inv (fun X hS => by have c1 := cell_of hS.2 1 (.slice xa xl xc) rfl; unfold bareO; go_simp) HS (fun inv => ?_)
        try simp only [Act.put, List.setIfInBounds_toArray, List.set_cons_zero, List.set_cons_succ]
        refine FirstH.go (i := 17) (v := .agg #[.int .u8 mn, .int .u16 ml, .int .u8 pn, .int .u16 pl, .int .u64 xq, .int .u64 wt, .bool true, .slice xa xl xc]) rfl rfl _ rfl _ rfl (by kernel_rfl) (fun _ _ _ h => h) inv (fun X _ => by unfold bareO; go_simp) HS (fun inv => ?_)
        try simp only [Act.put, List.setIfInBounds_toArray, List.set_cons_zero, List.set_cons_succ]
        clear HS
        refine FirstH.only (i := 18) (by kernel_rfl) (by decide) inv (fun inv => wpOp_vl (i := 18) (v := .slice (some ⟨w4.heap.size, 0, none⟩) 1 1) (w' := w4.alloc (.cells #[.int .u8 mn, .int .u16 ml, .int .u8 pn, .int .u16 pl, .int .u64 xq, .int .u64 wt, .bool true, .slice xa xl xc] 37)) rfl rfl 74 rfl _ rfl (by unfold bareO; go_simp) ?_)
        rw [HW5.out]
        refine ⟨HSS.out, ?_⟩
        try simp only [Act.put, List.setIfInBounds_toArray, List.set_cons_zero, List.set_cons_succ]
        refine FirstH.only (i := 19) (by kernel_rfl) (by decide) inv (fun inv => wpOp_appRp rfl rfl 75 rfl (.tmp 56) (.tmp 74) rfl W.heap.size u5 P.length _ rfl O5.out w4.heap.size #[.int .u8 mn, .int .u16 ml, .int .u8 pn, .int .u16 pl, .int .u64 xq, .int .u64 wt, .bool true, .slice xa xl xc] 1 rfl (by simp [Value.oneCell']) rfl R5.out (by have := PLN.out; omega) WS5.out ?_)
        intro v' w9 O9 g9
        have k9 : KP (fun k => u5.ownBlock = some k) w5 w9 := KP.grown g9 fun k hk => hk
        have hn9 : ∀ (k : Nat) (cu : Array Value) (t : TypeId), w5.heap[k]? = some (.cells cu t (0, 0)) → t ≠ 37 → ¬ (u5.ownBlock = some k) := fun k cu t hk ht e => by
          obtain ⟨c2, h2⟩ := row_block O5.out e
          exact apart_of hk h2 ht rfl
        refine ⟨⟨(k9.block _ (blt HSS.out.1) (hn9 _ _ _ HSS.out.1 (by decide))).trans HSS.out.1, (k9.block _ (blt HSS.out.2) (hn9 _ _ _ HSS.out.2 (by decide))).trans HSS.out.2⟩, ?_⟩
        have O9' := Lib.hid O9
        have G9 := Lib.hid g9
        clear O9 g9 k9 hn9
        try simp only [Act.put, List.setIfInBounds_toArray, List.set_cons_zero, List.set_cons_succ]
        refine ⟨by kernel_rfl, ?_⟩
        simp only [List.drop_succ_cons, List.drop_zero]
        go_wp2
        go_roundw
        case rel =>
          have hxl := HXL.out
          subst hxl
          refine ⟨k + 1, _, by omega, by go_num, Lib.hid ((J1.out.below B3.out).yes (pv' := v') (x := ⟨xq, ⟨xB, xa, xc⟩, false, xw⟩) (bd := ⟨xB, xa, xc⟩) HN.out HXK.out HD.out HNW.out HW3.out B5.out ?_ rfl O9'.out G9.out)⟩
          have q0 := (OKX.out.below B3.out)
          obtain ⟨c2, h2⟩ := (D1.out.below B3.out).row.block g rfl
          exact (q0.keepK K3.out fun g' cur hc e => apart_of hc h2 (by decide) e).below B5.out
        case measure => simp [intOf]; omega
      | true =>
        cases hd : dueB true xw now ag with
        | false =>
          have HD := Lib.hid hd
          have LH : Hid (∀ d os, Calls Try.prog 34 #[.int .i64 xw, .int .i64 now, .int .i64 ag] (grow (redrawn W2 d) os) fun e w' => e = .returned (.bool false) ∧ Below (grow (redrawn W2 d) os).heap.size (grow (redrawn W2 d) os) w') := Lib.hid fun d os => (KD.out _).mono fun _ _ ⟨he, hw⟩ => ⟨he.trans (by rw [HD.out]), hw ▸ Below.refl _ _⟩
          clear hd
          refine wp_region_quiet_below (by kernel_rfl) (by kernel_rfl) ?_
          repeat (go_big_quiet_step (first | (go_at_call 34; exact Calls.regrown_of (LH.out _ _)) | fail))
          refine wpQuiet_nil ?_
          rintro W3 ⟨p3, rfl⟩
          have b3 := below_regrown W2 p3.d p3.os
          generalize grow (redrawn W2 p3.d) p3.os = W3 at b3 ⊢
          clear LH
          have B3' := Lib.hid (B2.out.trans (b3.mono B2.out.size))
          clear b3 t2 t3 t4
          go_wp2
          go_roundw
          case rel => exact ⟨k + 1, P, by omega, by go_num, Lib.hid ((J1.out.no HXK.out HD.out).below B3'.out)⟩
          case measure => simp [intOf]; omega
        | true =>
          have HD := Lib.hid hd
          have LH : Hid (∀ d os, Calls Try.prog 34 #[.int .i64 xw, .int .i64 now, .int .i64 ag] (grow (redrawn W2 d) os) fun e w' => e = .returned (.bool true) ∧ Below (grow (redrawn W2 d) os).heap.size (grow (redrawn W2 d) os) w') := Lib.hid fun d os => (KD.out _).mono fun _ _ ⟨he, hw⟩ => ⟨he.trans (by rw [HD.out]), hw ▸ Below.refl _ _⟩
          clear hd
          refine wp_region_quiet_below (by kernel_rfl) (by kernel_rfl) ?_
          repeat (go_big_quiet_step (first | (go_at_call 34; exact Calls.regrown_of (LH.out _ _)) | fail))
          refine wpQuiet_nil ?_
          rintro W3 ⟨p3, rfl⟩
          have b3 := below_regrown W2 p3.d p3.os
          generalize grow (redrawn W2 p3.d) p3.os = W3 at b3 ⊢
          clear LH
          have B3 := Lib.hid (B2.out.trans (b3.mono B2.out.size))
          have R3 := Lib.hid ((b3.block _ (blt R2.out)).trans R2.out)
          have l3 := (b3.block _ (blt L2.out)).trans L2.out
          simp only [Sc.ds, HOL.out] at l3
          have c7 := cell_of l3 7 (.slice (some ⟨g, o, none⟩) n cp) rfl
          have e2 := (B3.out.cell (p := ⟨g, o + k * 4 + 2, none⟩) GL.out).trans E2.out
          have e3 := (B3.out.cell (p := ⟨g, o + k * 4 + 3, none⟩) GL.out).trans E3.out
          obtain ⟨cu3, hcu3⟩ := (D1.out.below B3.out).row.block g rfl
          have z2 := frz_row (o + k * 4 + 2) hcu3
          have z3 := frz_row (o + k * 4 + 3) hcu3
          clear b3 l3 hcu3 t2 t3 t4
          have hgb : ¬ g = b := D1.out.ne_bv g rfl
          have hbg : ¬ b = g := fun e => hgb e.symm
          go_wp2
          obtain ⟨w3, hw3⟩ : ∃ Y, (W3.setCell ⟨g, o + k * 4 + 2, none⟩ (.bool true)).setCell ⟨g, o + k * 4 + 3, none⟩ (.int .i64 now) = Y := ⟨_, rfl⟩
          rw [hw3]
          have D3 := D1.out.below B3.out
          obtain ⟨D3', k3⟩ := D3.tell HOL.out HAT.out now HNW.out
          rw [hw3] at D3' k3
          have K3 := Lib.hid k3
          have r3' := (k3.block _ (blt R3.out) (fun e => by have := GL.out; omega)).trans R3.out
          have l3' := D3'.lnk
          simp only [Sc.ds] at l3'
          obtain ⟨w4, hw4⟩ : ∃ Y, w3.drew = Y := ⟨_, rfl⟩
          have b4 : Below w3.heap.size w3 w4 := by rw [← hw4]; exact (Below.refl _ _).drew
          have HS : w4.heap[b]? = some (.cells #[.int .u8 mn, .int .u16 ml, .int .u8 pn, .int .u16 pl, .int .i64 ag, .int .u64 nx, .int .u64 wt, .slice (some ⟨g, o, none⟩) n cp, w, .bool ow] 60 (0, 0)) ∧ w4.heap[wr.heap.size]? = some (.cells #[.int .u64 xq, .slice xa xl xc, .bool true, .int .i64 xw] 88 (0, 0)) := ⟨(b4.block _ (blt l3')).trans l3', (b4.block _ (blt r3')).trans r3'⟩
          obtain ⟨w5, hw5⟩ : ∃ Y, w4.alloc (.cells #[.int .u8 mn, .int .u16 ml, .int .u8 pn, .int .u16 pl, .int .u64 xq, .int .u64 wt, .bool true, .slice xa xl xc] 37) = Y := ⟨_, rfl⟩
          have b5 : Below w3.heap.size w3 w5 := by rw [← hw5]; exact b4.alloc b4.size _
          have r5 : w5.heap[w4.heap.size]? = some (.cells #[.int .u8 mn, .int .u16 ml, .int .u8 pn, .int .u16 pl, .int .u64 xq, .int .u64 wt, .bool true, .slice xa xl xc] 37 (0, 0)) := by rw [← hw5]; exact heap_alloc_new _ _
          have O5 := Lib.hid (by
            have e1 : ∀ g', u5.ownBlock = some g' → w5.heap[g']? = wr.heap[g']? := fun g' hg' => by
              obtain ⟨cu, hcu⟩ := row_block J.out.row hg'
              obtain ⟨c2, h2⟩ := J.out.dl.row.block g rfl
              have hne : g' ≠ g := apart_of hcu h2 (by decide)
              have q1 := (B3.out.block g' (blt hcu)).trans hcu
              have q2 := (k3.block g' (blt q1) hne).trans q1
              exact ((b5.block g' (blt q2)).trans q2).trans hcu.symm
            exact owns_keepB J.out.row e1 : w5.ownsRow W.heap.size 37 8 u5 P.length (flat Pk.cs P))
          have PLN := Lib.hid (Nat.le_trans J.out.len (Nat.le_trans hk hq8))
          have WS5 := Lib.hid (Nat.le_trans J.out.kp.size (Nat.le_trans B3.out.size (Nat.le_trans k3.size b5.size)))
          have HSS : Hid (w5.heap[b]? = some (.cells #[.int .u8 mn, .int .u16 ml, .int .u8 pn, .int .u16 pl, .int .i64 ag, .int .u64 nx, .int .u64 wt, .slice (some ⟨g, o, none⟩) n cp, w, .bool ow] 60 (0, 0)) ∧ w5.heap[wr.heap.size]? = some (.cells #[.int .u64 xq, .slice xa xl xc, .bool true, .int .i64 xw] 88 (0, 0))) := Lib.hid ⟨(b5.block _ (blt l3')).trans l3', (b5.block _ (blt r3')).trans r3'⟩
          have HW3 := Lib.hid hw3
          have HW4 := Lib.hid hw4
          have HW5 := Lib.hid hw5
          have R5 := Lib.hid r5
          have B5 := Lib.hid b5
          have H4 := Lib.hid HS
          clear hw3 D3 D3' k3 r3' l3' hw4 b4 HS hw5 b5 r5 e2 e3 z2 z3 c7
          refine region_heldT (S := fun X => X.heap[b]? = some (.cells #[.int .u8 mn, .int .u16 ml, .int .u8 pn, .int .u16 pl, .int .i64 ag, .int .u64 nx, .int .u64 wt, .slice (some ⟨g, o, none⟩) n cp, w, .bool ow] 60 (0, 0)) ∧ X.heap[wr.heap.size]? = some (.cells #[.int .u64 xq, .slice xa xl xc, .bool true, .int .i64 xw] 88 (0, 0))) 20 (by kernel_rfl) (by decide) (fun inv => ?_)
          change FirstH _ _ _ _ _ _ _ _ _ _ w3.drew
          rw [HW4.out]
          have HS := H4.out
          refine FirstH.go (i := 0) (v := u5) rfl rfl _ rfl _ rfl (by kernel_rfl) (fun _ _ _ h => h) inv (fun X _ => by unfold bareO; go_simp) HS (fun inv => ?_)
          try simp only [Act.put, List.setIfInBounds_toArray, List.set_cons_zero, List.set_cons_succ]
          refine FirstH.go (i := 1) (v := .pointer (some ⟨b, 0, none⟩)) rfl rfl _ rfl _ rfl (by kernel_rfl) (fun _ _ _ h => h) inv (fun X _ => by unfold bareO; go_simp) HS (fun inv => ?_)
          try simp only [Act.put, List.setIfInBounds_toArray, List.set_cons_zero, List.set_cons_succ]
          refine FirstH.go (i := 2) (v := .pointer (some ⟨b, 0, none⟩)) rfl rfl _ rfl _ rfl (by kernel_rfl) (fun _ _ _ h => h) inv (fun X _ => by unfold bareO; go_simp) HS (fun inv => ?_)
          try simp only [Act.put, List.setIfInBounds_toArray, List.set_cons_zero, List.set_cons_succ]
          refine FirstH.go (i := 3) (v := .pointer (some ⟨b, 0, none⟩)) rfl rfl _ rfl _ rfl (by kernel_rfl) (fun _ _ _ h => h) inv (fun X _ => by unfold bareO; go_simp) HS (fun inv => ?_)
          try simp only [Act.put, List.setIfInBounds_toArray, List.set_cons_zero, List.set_cons_succ]
          refine FirstH.go (i := 4) (v := .agg #[.int .u8 mn, .int .u16 ml]) rfl rfl _ rfl _ rfl (by kernel_rfl) (fun _ _ _ h => h) inv (fun X hS => by have c1 := cell_of hS.1 0 (.int .u8 mn) rfl; have c2 := cell_of hS.1 1 (.int .u16 ml) rfl; unfold bareO; go_simp) HS (fun inv => ?_)
          try simp only [Act.put, List.setIfInBounds_toArray, List.set_cons_zero, List.set_cons_succ]
          refine FirstH.go (i := 5) (v := .pointer (some ⟨b, 0, none⟩)) rfl rfl _ rfl _ rfl (by kernel_rfl) (fun _ _ _ h => h) inv (fun X _ => by unfold bareO; go_simp) HS (fun inv => ?_)
          try simp only [Act.put, List.setIfInBounds_toArray, List.set_cons_zero, List.set_cons_succ]
          refine FirstH.go (i := 6) (v := .pointer (some ⟨b, 0, none⟩)) rfl rfl _ rfl _ rfl (by kernel_rfl) (fun _ _ _ h => h) inv (fun X _ => by unfold bareO; go_simp) HS (fun inv => ?_)
          try simp only [Act.put, List.setIfInBounds_toArray, List.set_cons_zero, List.set_cons_succ]
          refine FirstH.go (i := 7) (v := .pointer (some ⟨b, 2, none⟩)) rfl rfl _ rfl _ rfl (by kernel_rfl) (fun _ _ _ h => h) inv (fun X _ => by unfold bareO; go_simp) HS (fun inv => ?_)
          try simp only [Act.put, List.setIfInBounds_toArray, List.set_cons_zero, List.set_cons_succ]
          refine FirstH.go (i := 8) (v := .agg #[.int .u8 pn, .int .u16 pl]) rfl rfl _ rfl _ rfl (by kernel_rfl) (fun _ _ _ h => h) inv (fun X hS => by have c1 := cell_of hS.1 2 (.int .u8 pn) rfl; have c2 := cell_of hS.1 3 (.int .u16 pl) rfl; unfold bareO; go_simp) HS (fun inv => ?_)
          try simp only [Act.put, List.setIfInBounds_toArray, List.set_cons_zero, List.set_cons_succ]
          refine FirstH.go (i := 9) (v := .pointer (some ⟨wr.heap.size, 0, none⟩)) rfl rfl _ rfl _ rfl (by kernel_rfl) (fun _ _ _ h => h) inv (fun X _ => by unfold bareO; go_simp) HS (fun inv => ?_)
          try simp only [Act.put, List.setIfInBounds_toArray, List.set_cons_zero, List.set_cons_succ]
          refine FirstH.go (i := 10) (v := .int .u64 xq) rfl rfl _ rfl _ rfl (by kernel_rfl) (fun _ _ _ h => h) inv (fun X hS => by have c1 := cell_of hS.2 0 (.int .u64 xq) rfl; unfold bareO; go_simp) HS (fun inv => ?_)
          try simp only [Act.put, List.setIfInBounds_toArray, List.set_cons_zero, List.set_cons_succ]
          refine FirstH.go (i := 11) (v := .pointer (some ⟨b, 0, none⟩)) rfl rfl _ rfl _ rfl (by kernel_rfl) (fun _ _ _ h => h) inv (fun X _ => by unfold bareO; go_simp) HS (fun inv => ?_)
          try simp only [Act.put, List.setIfInBounds_toArray, List.set_cons_zero, List.set_cons_succ]
          refine FirstH.go (i := 12) (v := .pointer (some ⟨b, 0, none⟩)) rfl rfl _ rfl _ rfl (by kernel_rfl) (fun _ _ _ h => h) inv (fun X _ => by unfold bareO; go_simp) HS (fun inv => ?_)
          try simp only [Act.put, List.setIfInBounds_toArray, List.set_cons_zero, List.set_cons_succ]
          refine FirstH.go (i := 13) (v := .pointer (some ⟨b, 6, none⟩)) rfl rfl _ rfl _ rfl (by kernel_rfl) (fun _ _ _ h => h) inv (fun X _ => by unfold bareO; go_simp) HS (fun inv => ?_)
          try simp only [Act.put, List.setIfInBounds_toArray, List.set_cons_zero, List.set_cons_succ]
          refine FirstH.go (i := 14) (v := .int .u64 wt) rfl rfl _ rfl _ rfl (by kernel_rfl) (fun _ _ _ h => h) inv (fun X hS => by have c1 := cell_of hS.1 6 (.int .u64 wt) rfl; unfold bareO; go_simp) HS (fun inv => ?_)
          try simp only [Act.put, List.setIfInBounds_toArray, List.set_cons_zero, List.set_cons_succ]
          refine FirstH.go (i := 15) (v := .pointer (some ⟨wr.heap.size, 1, none⟩)) rfl rfl _ rfl _ rfl (by kernel_rfl) (fun _ _ _ h => h) inv (fun X _ => by unfold bareO; go_simp) HS (fun inv => ?_)
          try simp only [Act.put, List.setIfInBounds_toArray, List.set_cons_zero, List.set_cons_succ]
          refine FirstH.go (i := 16) (v := .slice xa xl xc) rfl rfl _ rfl _ rfl (by kernel_rfl) (fun _ _ _ h => h) inv (fun X hS => by have c1 := cell_of hS.2 1 (.slice xa xl xc) rfl; unfold bareO; go_simp) HS (fun inv => ?_)
          try simp only [Act.put, List.setIfInBounds_toArray, List.set_cons_zero, List.set_cons_succ]
          refine FirstH.go (i := 17) (v := .agg #[.int .u8 mn, .int .u16 ml, .int .u8 pn, .int .u16 pl, .int .u64 xq, .int .u64 wt, .bool true, .slice xa xl xc]) rfl rfl _ rfl _ rfl (by kernel_rfl) (fun _ _ _ h => h) inv (fun X _ => by unfold bareO; go_simp) HS (fun inv => ?_)
          try simp only [Act.put, List.setIfInBounds_toArray, List.set_cons_zero, List.set_cons_succ]
          clear HS
          refine FirstH.only (i := 18) (by kernel_rfl) (by decide) inv (fun inv => wpOp_vl (i := 18) (v := .slice (some ⟨w4.heap.size, 0, none⟩) 1 1) (w' := w4.alloc (.cells #[.int .u8 mn, .int .u16 ml, .int .u8 pn, .int .u16 pl, .int .u64 xq, .int .u64 wt, .bool true, .slice xa xl xc] 37)) rfl rfl 74 rfl _ rfl (by unfold bareO; go_simp) ?_)
          rw [HW5.out]
          refine ⟨HSS.out, ?_⟩
          try simp only [Act.put, List.setIfInBounds_toArray, List.set_cons_zero, List.set_cons_succ]
          refine FirstH.only (i := 19) (by kernel_rfl) (by decide) inv (fun inv => wpOp_appRp rfl rfl 75 rfl (.tmp 56) (.tmp 74) rfl W.heap.size u5 P.length _ rfl O5.out w4.heap.size #[.int .u8 mn, .int .u16 ml, .int .u8 pn, .int .u16 pl, .int .u64 xq, .int .u64 wt, .bool true, .slice xa xl xc] 1 rfl (by simp [Value.oneCell']) rfl R5.out (by have := PLN.out; omega) WS5.out ?_)
          intro v' w9 O9 g9
          have k9 : KP (fun k => u5.ownBlock = some k) w5 w9 := KP.grown g9 fun k hk => hk
          have hn9 : ∀ (k : Nat) (cu : Array Value) (t : TypeId), w5.heap[k]? = some (.cells cu t (0, 0)) → t ≠ 37 → ¬ (u5.ownBlock = some k) := fun k cu t hk ht e => by
            obtain ⟨c2, h2⟩ := row_block O5.out e
            exact apart_of hk h2 ht rfl
          refine ⟨⟨(k9.block _ (blt HSS.out.1) (hn9 _ _ _ HSS.out.1 (by decide))).trans HSS.out.1, (k9.block _ (blt HSS.out.2) (hn9 _ _ _ HSS.out.2 (by decide))).trans HSS.out.2⟩, ?_⟩
          have O9' := Lib.hid O9
          have G9 := Lib.hid g9
          clear O9 g9 k9 hn9
          try simp only [Act.put, List.setIfInBounds_toArray, List.set_cons_zero, List.set_cons_succ]
          refine ⟨by kernel_rfl, ?_⟩
          simp only [List.drop_succ_cons, List.drop_zero]
          go_wp2
          go_roundw
          case rel =>
            have hxl := HXL.out
            subst hxl
            refine ⟨k + 1, _, by omega, by go_num, Lib.hid ((J1.out.below B3.out).yes (pv' := v') (x := ⟨xq, ⟨xB, xa, xc⟩, true, xw⟩) (bd := ⟨xB, xa, xc⟩) HN.out HXK.out HD.out HNW.out HW3.out B5.out ?_ rfl O9'.out G9.out)⟩
            have q0 := (OKX.out.below B3.out)
            obtain ⟨c2, h2⟩ := (D1.out.below B3.out).row.block g rfl
            exact (q0.keepK K3.out fun g' cur hc e => apart_of hc h2 (by decide) e).below B5.out
          case measure => simp [intOf]; omega
    · have hkq' : k = q := by omega
      subst hkq'
      obtain ⟨Ap, pc, hpv, _, _, _⟩ := (RowO.of_owns J.out.row).slice
      subst hpv
      have E1 := Lib.hid (by rw [← HQ.out, ← HN.out]; exact outL_min now ag L : outL now ag L k = outL now ag L 8)
      have E2 := Lib.hid (by rw [← HQ.out, ← HN.out]; exact dueL_min now ag L : dueL' now ag L k = dueL' now ag L 8)
      have EP := Lib.hid (by have := congrArg List.length J.out.eq; simp only [List.length_map] at this; rw [E2.out] at this; exact this : P.length = (dueL' now ag L 8).length)
      have c8 := cell_of J.out.dl.lnk 9 (.bool ow) rfl
      have z8 := frz_row 9 J.out.dl.lnk
      have HOLL : Hid ((outL now ag L k).length = n) := Lib.hid (by rw [outL_len, HN.out])
      have FIN : Hid (∀ (hno : ¬ ((dueL' now ag L 8).length = 0 ∧ ow = true)), (wr.setCell ⟨b, 9, none⟩ (.bool false)).ownsRow W.heap.size 37 8 (.slice Ap P.length pc) P.length (flat Pk.cs P) ∧ (∀ x ∈ P, x.b.Ok (wr.setCell ⟨b, 9, none⟩ (.bool false))) ∧ P.map Pk.pu = fOut ⟨mn, ml, pn, pl, ag, nx, wt, ow⟩ now L ∧ DL base (wr.setCell ⟨b, 9, none⟩ (.bool false)) b (.slice A n cp) w ⟨mn, ml, pn, pl, ag, nx, wt, false⟩ (outL now ag L 8) K ∧ KP (FD b (.slice A n cp) w) W (wr.setCell ⟨b, 9, none⟩ (.bool false))) := Lib.hid (fun hno => by
        refine ⟨owns_keepB J.out.row fun g' hg => ?_, fun x hx => ?_, ?_, ?_, ?_⟩
        · obtain ⟨cu, hcu⟩ := row_block J.out.row hg
          exact Below.heap_setCell _ _ _ _ (apart_of hcu J.out.dl.lnk (by decide))
        · exact (J.out.ok x hx).keepK (KP.set (S := fun k => k = b) wr b 9 _ rfl) fun g' cur hc e => apart_of hc J.out.dl.lnk (by decide) e
        · rw [J.out.eq]
          unfold fOut
          rw [if_neg hno]
          show (dueL' now ag L k).map _ = _
          rw [E2.out]
        · have := J.out.dl.owe false
          rw [← E1.out]
          exact this
        · exact J.out.kp.trans (KP.set (S := fun k => k = b) wr b 9 _ rfl) fun _ _ e => Or.inl e)
      obtain ⟨pq, hpq⟩ : ∃ pq, P.length = pq := ⟨_, rfl⟩
      have HPQ := Lib.hid hpq
      simp only [hpq]
      clear hpq
      have hend : ¬ (k : Int) < (n : Int) ∨ ((k : Int) < (n : Int) ∧ ¬ (k : Int) < 8) := by have := HQ.out; omega
      rcases hend with hend | ⟨hend, hend2⟩
      all_goals
        by_cases h0 : pq = 0
        · subst h0
          cases ow with
          | false =>
            go_wp2
            go_ret
            unfold OutDR
            exact ⟨_, P, rfl, by have f := FIN.out (by simp); rw [HPQ.out] at f; rw [HPQ.out]; exact f⟩
          | true =>
            have hP : P = [] := List.eq_nil_of_length_eq_zero HPQ.out
            subst hP
            obtain ⟨w2, hw2⟩ : ∃ Y, wr.drew = Y := ⟨_, rfl⟩
            have b2 : Below wr.heap.size wr w2 := by rw [← hw2]; exact (Below.refl _ _).drew
            have lnk := J.out.dl.lnk
            simp only [Sc.ds] at lnk
            have h2 := (b2.block b (blt lnk)).trans lnk
            obtain ⟨w3, hw3⟩ : ∃ Y, w2.alloc (.cells #[.int .u8 mn, .int .u16 ml, .int .u8 pn, .int .u16 pl, .int .u64 0, .int .u64 wt, .bool false, .slice none 0 0] 37) = Y := ⟨_, rfl⟩
            have r3 : w3.heap[w2.heap.size]? = some (.cells #[.int .u8 mn, .int .u16 ml, .int .u8 pn, .int .u16 pl, .int .u64 0, .int .u64 wt, .bool false, .slice none 0 0] 37 (0, 0)) := by rw [← hw3]; exact heap_alloc_new _ _
            have b3 : Below wr.heap.size wr w3 := by rw [← hw3]; exact b2.alloc b2.size _
            have h3 := (b3.block b (blt lnk)).trans lnk
            have O3 := Lib.hid (owns_keepB J.out.row (fun g' hg => b3.block g' (J.out.row.lt g' hg).2) : w3.ownsRow W.heap.size 37 8 (.slice Ap 0 pc) 0 [])
            have D3 := Lib.hid (J.out.dl.below b3)
            have WS3 := Lib.hid (Nat.le_trans J.out.kp.size b3.size)
            have HW2 := Lib.hid hw2
            have HW3 := Lib.hid hw3
            have R3 := Lib.hid r3
            have B3 := Lib.hid b3
            have H2 := Lib.hid h2
            have H3 := Lib.hid h3
            clear hw2 b2 lnk h2 hw3 r3 b3 h3 FIN
            go_wp2_with fail
            refine region_heldT (S := fun X => X.heap[b]? = some (.cells #[.int .u8 mn, .int .u16 ml, .int .u8 pn, .int .u16 pl, .int .i64 ag, .int .u64 nx, .int .u64 wt, .slice A n cp, w, .bool true] 60 (0, 0))) 16 (by kernel_rfl) (by decide) (fun inv => ?_)
            change FirstH _ _ _ _ _ _ _ _ _ _ wr.drew
            rw [HW2.out]
            have HS := H2.out
            refine FirstH.go (i := 0) (v := .slice Ap 0 pc) rfl rfl _ rfl _ rfl (by kernel_rfl) (fun _ _ _ h => h) inv (fun X _ => by unfold bareO; go_simp) HS (fun inv => ?_)
            try simp only [Act.put, List.setIfInBounds_toArray, List.set_cons_zero, List.set_cons_succ]
            refine FirstH.go (i := 1) (v := .pointer (some ⟨b, 0, none⟩)) rfl rfl _ rfl _ rfl (by kernel_rfl) (fun _ _ _ h => h) inv (fun X _ => by unfold bareO; go_simp) HS (fun inv => ?_)
            try simp only [Act.put, List.setIfInBounds_toArray, List.set_cons_zero, List.set_cons_succ]
            refine FirstH.go (i := 2) (v := .pointer (some ⟨b, 0, none⟩)) rfl rfl _ rfl _ rfl (by kernel_rfl) (fun _ _ _ h => h) inv (fun X _ => by unfold bareO; go_simp) HS (fun inv => ?_)
            try simp only [Act.put, List.setIfInBounds_toArray, List.set_cons_zero, List.set_cons_succ]
            refine FirstH.go (i := 3) (v := .pointer (some ⟨b, 0, none⟩)) rfl rfl _ rfl _ rfl (by kernel_rfl) (fun _ _ _ h => h) inv (fun X _ => by unfold bareO; go_simp) HS (fun inv => ?_)
            try simp only [Act.put, List.setIfInBounds_toArray, List.set_cons_zero, List.set_cons_succ]
            refine FirstH.go (i := 4) (v := .agg #[.int .u8 mn, .int .u16 ml]) rfl rfl _ rfl _ rfl (by kernel_rfl) (fun _ _ _ h => h) inv (fun X hS => by have c1 := cell_of hS 0 (.int .u8 mn) rfl; have c2 := cell_of hS 1 (.int .u16 ml) rfl; unfold bareO; go_simp) HS (fun inv => ?_)
            try simp only [Act.put, List.setIfInBounds_toArray, List.set_cons_zero, List.set_cons_succ]
            refine FirstH.go (i := 5) (v := .pointer (some ⟨b, 0, none⟩)) rfl rfl _ rfl _ rfl (by kernel_rfl) (fun _ _ _ h => h) inv (fun X _ => by unfold bareO; go_simp) HS (fun inv => ?_)
            try simp only [Act.put, List.setIfInBounds_toArray, List.set_cons_zero, List.set_cons_succ]
            refine FirstH.go (i := 6) (v := .pointer (some ⟨b, 0, none⟩)) rfl rfl _ rfl _ rfl (by kernel_rfl) (fun _ _ _ h => h) inv (fun X _ => by unfold bareO; go_simp) HS (fun inv => ?_)
            try simp only [Act.put, List.setIfInBounds_toArray, List.set_cons_zero, List.set_cons_succ]
            refine FirstH.go (i := 7) (v := .pointer (some ⟨b, 2, none⟩)) rfl rfl _ rfl _ rfl (by kernel_rfl) (fun _ _ _ h => h) inv (fun X _ => by unfold bareO; go_simp) HS (fun inv => ?_)
            try simp only [Act.put, List.setIfInBounds_toArray, List.set_cons_zero, List.set_cons_succ]
            refine FirstH.go (i := 8) (v := .agg #[.int .u8 pn, .int .u16 pl]) rfl rfl _ rfl _ rfl (by kernel_rfl) (fun _ _ _ h => h) inv (fun X hS => by have c1 := cell_of hS 2 (.int .u8 pn) rfl; have c2 := cell_of hS 3 (.int .u16 pl) rfl; unfold bareO; go_simp) HS (fun inv => ?_)
            try simp only [Act.put, List.setIfInBounds_toArray, List.set_cons_zero, List.set_cons_succ]
            refine FirstH.go (i := 9) (v := .pointer (some ⟨b, 0, none⟩)) rfl rfl _ rfl _ rfl (by kernel_rfl) (fun _ _ _ h => h) inv (fun X _ => by unfold bareO; go_simp) HS (fun inv => ?_)
            try simp only [Act.put, List.setIfInBounds_toArray, List.set_cons_zero, List.set_cons_succ]
            refine FirstH.go (i := 10) (v := .pointer (some ⟨b, 0, none⟩)) rfl rfl _ rfl _ rfl (by kernel_rfl) (fun _ _ _ h => h) inv (fun X _ => by unfold bareO; go_simp) HS (fun inv => ?_)
            try simp only [Act.put, List.setIfInBounds_toArray, List.set_cons_zero, List.set_cons_succ]
            refine FirstH.go (i := 11) (v := .pointer (some ⟨b, 6, none⟩)) rfl rfl _ rfl _ rfl (by kernel_rfl) (fun _ _ _ h => h) inv (fun X _ => by unfold bareO; go_simp) HS (fun inv => ?_)
            try simp only [Act.put, List.setIfInBounds_toArray, List.set_cons_zero, List.set_cons_succ]
            refine FirstH.go (i := 12) (v := .int .u64 wt) rfl rfl _ rfl _ rfl (by kernel_rfl) (fun _ _ _ h => h) inv (fun X hS => by have c1 := cell_of hS 6 (.int .u64 wt) rfl; unfold bareO; go_simp) HS (fun inv => ?_)
            try simp only [Act.put, List.setIfInBounds_toArray, List.set_cons_zero, List.set_cons_succ]
            refine FirstH.go (i := 13) (v := .agg #[.int .u8 mn, .int .u16 ml, .int .u8 pn, .int .u16 pl, .int .u64 0, .int .u64 wt, .bool false, .slice none 0 0]) rfl rfl _ rfl _ rfl (by kernel_rfl) (fun _ _ _ h => h) inv (fun X _ => by unfold bareO; go_simp) HS (fun inv => ?_)
            try simp only [Act.put, List.setIfInBounds_toArray, List.set_cons_zero, List.set_cons_succ]
            clear HS
            refine FirstH.only (i := 14) (by kernel_rfl) (by decide) inv (fun inv => wpOp_vl (i := 14) (v := .slice (some ⟨w2.heap.size, 0, none⟩) 1 1) (w' := w2.alloc (.cells #[.int .u8 mn, .int .u16 ml, .int .u8 pn, .int .u16 pl, .int .u64 0, .int .u64 wt, .bool false, .slice none 0 0] 37)) rfl rfl 99 rfl _ rfl (by unfold bareO; go_simp) ?_)
            rw [HW3.out]
            refine ⟨H3.out, ?_⟩
            try simp only [Act.put, List.setIfInBounds_toArray, List.set_cons_zero, List.set_cons_succ]
            refine FirstH.only (i := 15) (by kernel_rfl) (by decide) inv (fun inv => wpOp_appRp rfl rfl 100 rfl (.tmp 85) (.tmp 99) rfl W.heap.size (.slice Ap 0 pc) 0 _ rfl O3.out w2.heap.size #[.int .u8 mn, .int .u16 ml, .int .u8 pn, .int .u16 pl, .int .u64 0, .int .u64 wt, .bool false, .slice none 0 0] 1 rfl (by simp [Value.oneCell']) rfl R3.out (by omega) WS3.out ?_)
            intro v' w9 O9 g9
            have k9 : KP (fun k => (Value.slice Ap 0 pc).ownBlock = some k) w3 w9 := KP.grown g9 fun k hk => hk
            have hn9 : ∀ (k : Nat) (cu : Array Value) (t : TypeId), w3.heap[k]? = some (.cells cu t (0, 0)) → t ≠ 37 → ¬ ((Value.slice Ap 0 pc).ownBlock = some k) := fun k cu t hk ht e => by
              obtain ⟨c2, h2⟩ := row_block O3.out e
              exact apart_of hk h2 ht rfl
            have D9 := D3.out.keepK k9 (hn9 b _ _ D3.out.lnk (by decide)) (fun g' hg => by
              obtain ⟨c2, h2⟩ := D3.out.row.block g' hg
              exact hn9 g' _ _ h2 (by decide)) (fun g' hg => by
              obtain ⟨c2, h2⟩ := D3.out.krow.block g' hg
              exact hn9 g' _ _ h2 (by decide)) (fun g' cu hc => hn9 g' _ _ hc (by decide))
            have h9 : w9.heap[b]? = some (.cells #[.int .u8 mn, .int .u16 ml, .int .u8 pn, .int .u16 pl, .int .i64 ag, .int .u64 nx, .int .u64 wt, .slice A n cp, w, .bool true] 60 (0, 0)) := (k9.block _ (blt H3.out) (hn9 _ _ _ H3.out (by decide))).trans H3.out
            refine ⟨h9, ?_⟩
            have c9 := cell_of h9 9 (.bool true) rfl
            have z9 := frz_row 9 h9
            have O9' := Lib.hid O9
            have K9 := Lib.hid k9
            have D9' := Lib.hid D9
            clear O9 g9 k9 hn9 D9 h9 c8 z8
            try simp only [Act.put, List.setIfInBounds_toArray, List.set_cons_zero, List.set_cons_succ]
            refine ⟨by kernel_rfl, ?_⟩
            simp only [List.drop_succ_cons, List.drop_zero]
            go_wp2
            go_ret
            unfold OutDR
            have hb9 : ∀ g', v'.ownBlock = some g' → g' ≠ b := fun g' hg => by
              obtain ⟨c2, h2⟩ := row_block O9'.out hg
              exact apart_of h2 D9'.out.lnk (by decide)
            refine ⟨v', [⟨mn, ml, pn, pl, 0, wt, false, ⟨[], none, 0⟩⟩], rfl, owns_keepB O9'.out fun g' hg => Below.heap_setCell _ _ _ _ (hb9 g' hg), fun x hx => ?_, ?_, ?_, ?_⟩
            · obtain rfl : x = ⟨mn, ml, pn, pl, 0, wt, false, ⟨[], none, 0⟩⟩ := by simpa using hx
              exact ⟨World.ownsRow_nil _ _ _ _, by simp⟩
            · have e0 := EP.out
              unfold fOut
              rw [if_pos ⟨e0.symm, rfl⟩]
              rfl
            · have := D9'.out.owe false
              rw [← E1.out]
              exact this
            · refine (J.out.kp.trans ((KP.of_below B3.out).trans K9.out fun _ _ h => h) fun k hkw hk => ?_).trans (KP.set (S := fun k => k = b) _ b 9 _ rfl) fun _ _ e => Or.inl e
              have h1 := (J.out.row.lt k hk).1
              exact absurd hkw (by omega)
        · have h0' : ¬ (pq : Int) = 0 := by omega
          have h0'' : ((pq : Int) == 0) = false := by simp [h0]
          go_wp2
          go_ret
          unfold OutDR
          exact ⟨_, P, rfl, by have f := FIN.out (by rw [← EP.out, HPQ.out]; omega); rw [HPQ.out] at f; rw [HPQ.out]; exact f⟩

end Go.Proofs.Ytgnfclikdfllnaa
