/-
  The program's Out: by an exact answer. Condition: the link lies in memory.
-/
import Derived.Test.YtnagbiicpecamaaJow
namespace Go.Proofs.Ytnagbiicpecamaa
set_option linter.unusedSimpArgs false
set_option linter.unusedVariables false
open Go.RowKit Go.Maps Go.Sort

/-- what Out leaves behind. -/
def OutR (base : Nat) (W : World) (b m : Nat) (v : Value) (c : Nat) (s : Sc) (L : List Ls) (K : List Kr) (now : Int) (e : Ending) (W' : World) : Prop := ∃ (pv : Value) (P : List Pk), e = .returned pv ∧ W'.ownsRow W.heap.size 46 8 pv P.length (flat Pk.cs P) ∧ (∀ x ∈ P, x.b.Ok W') ∧ P.map Pk.pu = fOut s now L ∧ PL base W' b m v c { s with owed := false } (outL now s.again L 8) K ∧ KP (FP b m v) W W'
set_option maxRecDepth 100000 in
set_option maxHeartbeats 4000000 in
theorem outW (base : Nat) (W : World) (b m : Nat) (v : Value) (c : Nat) (s : Sc) (L : List Ls) (K : List Kr) (h : PL base W b m v c s L K) (now : Int) (hnow : -9223372036854775808 ≤ now ∧ now ≤ 9223372036854775807) :
    Calls Try.prog 8 #[.pointer (some ⟨b, 0, none⟩), .int .i64 now] W fun e W' => OutR base W b m v c s L K now e W' := by
  have K1 := made_yes base W b m v c s L K h
  obtain ⟨A, cp, rfl, hn1, hn2, hA⟩ := h.row.slice
  have K2 := windowL base W b m A cp c s L K h
  obtain ⟨n, hn⟩ : ∃ n, L.length = n := ⟨_, rfl⟩
  obtain ⟨q, hq⟩ : ∃ q, min n 8 = q := ⟨_, rfl⟩
  simp only [hn, hq] at K2 h hn1 ⊢
  have J0 : Hid (OutJ base W b m (.slice A n cp) c s L K now 0 (.slice none 0 0) [] W) := Lib.hid ⟨by rw [outL_zero]; exact h, World.ownsRow_nil _ _ _ _, rfl, fun _ hx => (by cases hx), KP.refl _ _⟩
  obtain ⟨mn, ml, pn, pl, ag, nx, wt, ow⟩ := s
  have HN := Lib.hid hn
  have HQ := Lib.hid hq
  have HA := Lib.hid hA
  have HNW := Lib.hid hnow
  have AG := Lib.hid h.agn
  have FEW := Lib.hid h.few
  have HBW := Lib.hid (blt h.lnk)
  have HFT := Lib.hid h.foot
  have hq8 : q ≤ 8 := by omega
  clear h hn hq hA hn1 hn2 hnow
  go_enter Try.func8, Try.ntmps8
  go_wp2_with fail
  refine K1.mono ?_
  rintro e w ⟨rfl, rfl⟩
  go_wp2_with fail
  refine K2.mono ?_
  rintro e w ⟨rfl, rfl⟩
  clear K1 K2
  go_wp2
  go_loopw [5, 17] (fun pv iv wr => ∃ (k : Nat) (P : List Pk), k ≤ q ∧ iv = .int .i64 k ∧ Hid (OutJ base W b m (.slice A n cp) c ⟨mn, ml, pn, pl, ag, nx, wt, ow⟩ L K now k pv P wr)) (fun _ iv _ => q - (intOf iv).toNat)
  case atStart => exact ⟨0, [], Nat.zero_le _, rfl, J0⟩
  case round =>
    obtain ⟨k, P, hk, rfl, J⟩ := hrel
    clear J0
    by_cases hkq : k < q
    · have hki : (k : Int) < (q : Int) := by omega
      have c4 := cell_of J.out.pl.lnk 4 (.int .i64 ag) rfl
      have hkL : k < L.length := by have := HN.out; have := HQ.out; omega
      obtain ⟨x, hxk⟩ : ∃ x, L[k]? = some x := ⟨L[k], by simp [hkL]⟩
      obtain ⟨xq, ⟨xB, xa, xc⟩, xt, xw⟩ := x
      have hg : ∃ g o, A = some ⟨g, o, none⟩ := by
        rcases HA.out with ⟨h0, h1⟩ | h0
        · exfalso
          have h2 := (J.out.pl.row.slice)
          obtain ⟨A', c', e, h3, _⟩ := h2
          rw [outL_len, HN.out] at e h3
          injection e with _ _ e
          have := HQ.out
          omega
        · exact h0
      obtain ⟨g, o, rfl⟩ := hg
      have hol : (outL now ag L k).length = n := by rw [outL_len, HN.out]
      have hat : (outL now ag L k)[k]? = some ⟨xq, ⟨xB, xa, xc⟩, xt, xw⟩ := by rw [outL_at now ag L k hkL, ← hxk]; simp [hkL]
      have row := J.out.pl.row
      simp only [] at row
      rw [hol] at row
      have e0 := RowO.elem Ls.sz row hat (j := 0) (by decide)
      have e1 := RowO.elem Ls.sz row hat (j := 1) (by decide)
      have e2 := RowO.elem Ls.sz row hat (j := 2) (by decide)
      have e3 := RowO.elem Ls.sz row hat (j := 3) (by decide)
      simp only [Ls.cs, List.getElem?_toArray, List.getElem?_cons_zero, List.getElem?_cons_succ, Nat.add_zero] at e0 e1 e2 e3
      have okx := J.out.pl.okL _ (List.mem_of_getElem? hat)
      have atx := J.out.pl.ats _ (List.mem_of_getElem? hat)
      obtain ⟨cur, hcur⟩ := J.out.pl.row.block g rfl
      have z2 := frz_row (o + k * 4 + 2) hcur
      have z3 := frz_row (o + k * 4 + 3) hcur
      have KD := dueL g (o + k * 4) wr xt xw now ag e2 e3 atx HNW.out.2 AG.out
      have HXK := Lib.hid hxk
      have OKX := Lib.hid okx
      clear hkL hxk hol hat row okx atx hcur
      cases hd : dueB xt xw now ag with
      | false =>
        rw [hd] at KD
        have HD := Lib.hid hd
        clear hd
        go_wp2_with fail
        refine KD.mono ?_
        rintro e w ⟨rfl, rfl⟩
        go_wp2
        go_roundw
        case rel => exact ⟨k + 1, P, by omega, by go_num, Lib.hid (J.out.no HXK.out HD.out)⟩
        case measure => simp [intOf]; omega
      | true =>
        rw [hd] at KD
        have HD := Lib.hid hd
        obtain ⟨xl, hxl⟩ : ∃ xl, xB.length = xl := ⟨_, rfl⟩
        have HXL := Lib.hid hxl
        simp only [hxl] at e1
        clear hd hxl
        go_wp2_with fail
        refine KD.mono ?_
        rintro e w ⟨rfl, rfl⟩
        clear KD
        go_wp2_with fail
        obtain ⟨w1, hw1⟩ : ∃ Y, (wr.setCell ⟨g, o + k * 4 + 2, none⟩ (.bool true)).setCell ⟨g, o + k * 4 + 3, none⟩ (.int .i64 now) = Y := ⟨_, rfl⟩
        rw [hw1]
        have k1 : KP (fun k => k = g) wr w1 := by
          rw [← hw1]
          exact (KP.set (S := fun k => k = g) wr g _ _ rfl).trans (KP.set (S := fun k => k = g) _ g _ _ rfl) fun _ _ h => h
        have l0 := J.out.pl.lnk
        simp only [Sc.cs] at l0
        have l1 := (k1.block b (blt l0) (fun e => J.out.pl.ne_bv g rfl e.symm)).trans l0
        have e0 : w1.cell? ⟨g, o + k * 4, none⟩ = some (.int .u64 xq) := by
          rw [← hw1, World.cell?_setCell_other _ _ _ _ (by simp), World.cell?_setCell_other _ _ _ _ (by simp)]
          exact e0
        have e1 : w1.cell? ⟨g, o + k * 4 + 1, none⟩ = some (.slice xa xl xc) := by
          rw [← hw1, World.cell?_setCell_other _ _ _ _ (by simp), World.cell?_setCell_other _ _ _ _ (by simp)]
          exact e1
        have OK1 := Lib.hid (OKX.out.keepK k1 fun g' cur hc e => by
          obtain ⟨c2, h2⟩ := J.out.pl.row.block g rfl
          exact apart_of hc h2 (by decide) e)
        have GL : Hid (g < w1.heap.size) := Lib.hid (by obtain ⟨c2, h2⟩ := J.out.pl.row.block g rfl; exact Nat.lt_of_lt_of_le (blt h2) k1.size)
        have HW1 := Lib.hid hw1
        have E0 := Lib.hid e0
        have E1 := Lib.hid e1
        have WS := Lib.hid (Nat.le_trans J.out.kp.size k1.size)
        have L1 := Lib.hid l1
        clear hw1 e2 e3 z2 z3 c4 k1 l0 e0 e1
        refine (packetR w1 b m (.slice (some ⟨g, o, none⟩) n cp) mn ml pn pl ag nx wt ow l1).mono ?_
        rintro e w2 ⟨rfl, b2⟩
        obtain ⟨w3, hw3⟩ : ∃ Y, w2.alloc (.cells #[.int .u8 0, .int .u16 0, .int .u8 0, .int .u16 0, .int .u64 0, .int .u64 0, .bool false, .slice none 0 0] 46) = Y := ⟨_, rfl⟩
        have r3 : w3.heap[w2.heap.size]? = some (.cells #[.int .u8 0, .int .u16 0, .int .u8 0, .int .u16 0, .int .u64 0, .int .u64 0, .bool false, .slice none 0 0] 46 (0, 0)) := by rw [← hw3]; exact heap_alloc_new _ _
        obtain ⟨w4, hw4⟩ : ∃ Y, w3.setRow w2.heap.size #[.int .u8 mn, .int .u16 ml, .int .u8 pn, .int .u16 pl, .int .u64 0, .int .u64 wt, .bool false, .slice none 0 0] = Y := ⟨_, rfl⟩
        have r4 : w4.heap[w2.heap.size]? = some (.cells #[.int .u8 mn, .int .u16 ml, .int .u8 pn, .int .u16 pl, .int .u64 0, .int .u64 wt, .bool false, .slice none 0 0] 46 (0, 0)) := by rw [← hw4]; exact setRow_heap _ _ _ _ _ _ r3
        have s2 := b2.size
        have b4 : Below w1.heap.size w1 w4 := by rw [← hw4, ← hw3]; exact below_row (b2.alloc s2 _) s2 _
        have HW3 := Lib.hid hw3
        have HW4 := Lib.hid hw4
        have R3 := Lib.hid r3
        have R4 := Lib.hid r4
        have B4 := Lib.hid b4
        have S2 := Lib.hid s2
        clear hw3 r3 hw4 r4 b4 s2 b2 l1
        go_wp2_with (first
          | (rw [HW3.out])
          | (refine wpList_store_row rfl 46 (.tmp 9) (.tmp 39) rfl w2.heap.size #[.int .u8 mn, .int .u16 ml, .int .u8 pn, .int .u16 pl, .int .u64 0, .int .u64 wt, .bool false, .slice none 0 0] (by rfl) (by rfl) 46 #[.int .u8 0, .int .u16 0, .int .u8 0, .int .u16 0, .int .u64 0, .int .u64 0, .bool false, .slice none 0 0] R3.out (by kernel_rfl) rfl (by simp [Value.oneCell']) ?_; rw [HW4.out]))
        refine region_heldT (S := fun X => X.cell? ⟨g, o + k * 4, none⟩ = some (.int .u64 xq) ∧ X.cell? ⟨g, o + k * 4 + 1, none⟩ = some (.slice xa xl xc)) 13 (by kernel_rfl) (by decide) (fun inv => ?_)
        change FirstH _ _ _ _ _ _ _ _ _ _ w4.drew
        obtain ⟨w5, hw5⟩ : ∃ Y, w4.drew = Y := ⟨_, rfl⟩
        have b5 : Below w1.heap.size w1 w5 := by rw [← hw5]; exact B4.out.drew
        have r5 : w5.heap[w2.heap.size]? = some (.cells #[.int .u8 mn, .int .u16 ml, .int .u8 pn, .int .u16 pl, .int .u64 0, .int .u64 wt, .bool false, .slice none 0 0] 46 (0, 0)) := by rw [← hw5]; exact R4.out
        rw [hw5]
        have HS : w5.cell? ⟨g, o + k * 4, none⟩ = some (.int .u64 xq) ∧ w5.cell? ⟨g, o + k * 4 + 1, none⟩ = some (.slice xa xl xc) := ⟨(b5.cell (p := ⟨g, o + k * 4, none⟩) GL.out).trans E0.out, (b5.cell (p := ⟨g, o + k * 4 + 1, none⟩) GL.out).trans E1.out⟩
        have K5 := Lib.hid (cloneB xa xB xc w5 (OK1.out.below b5).at_.1 (by have := OK1.out.len; simp only at this; omega) OK1.out.at_.2.1 OK1.out.at_.2.2.1)
        have hxl := HXL.out
        rw [hxl] at K5
        clear hxl
        have B5 := Lib.hid b5
        have R5 := Lib.hid r5
        have H5 := Lib.hid HS
        clear hw5 b5 r5
        refine FirstH.go (i := 0) (v := .pointer (some ⟨g, o + k * 4, none⟩)) rfl rfl _ rfl _ rfl (by kernel_rfl) (fun _ _ _ h => h) inv (fun X _ => by unfold bareO; go_simp) HS (fun inv => ?_)
        try simp only [Act.put, List.setIfInBounds_toArray, List.set_cons_zero, List.set_cons_succ]
        refine FirstH.go (i := 1) (v := .pointer (some ⟨g, o + k * 4, none⟩)) rfl rfl _ rfl _ rfl (by kernel_rfl) (fun _ _ _ h => h) inv (fun X _ => by unfold bareO; go_simp) HS (fun inv => ?_)
        try simp only [Act.put, List.setIfInBounds_toArray, List.set_cons_zero, List.set_cons_succ]
        refine FirstH.go (i := 2) (v := .pointer (some ⟨g, o + k * 4, none⟩)) rfl rfl _ rfl _ rfl (by kernel_rfl) (fun _ _ _ h => h) inv (fun X _ => by unfold bareO; go_simp) HS (fun inv => ?_)
        try simp only [Act.put, List.setIfInBounds_toArray, List.set_cons_zero, List.set_cons_succ]
        refine FirstH.go (i := 3) (v := .int .u64 xq) rfl rfl _ rfl _ rfl (by kernel_rfl) (fun _ _ _ h => h) inv (fun X hS => by have c1 := hS.1; unfold bareO; go_simp) HS (fun inv => ?_)
        try simp only [Act.put, List.setIfInBounds_toArray, List.set_cons_zero, List.set_cons_succ]
        refine FirstH.go (i := 4) (v := .pointer (some ⟨g, o + k * 4, none⟩)) rfl rfl _ rfl _ rfl (by kernel_rfl) (fun _ _ _ h => h) inv (fun X _ => by unfold bareO; go_simp) HS (fun inv => ?_)
        try simp only [Act.put, List.setIfInBounds_toArray, List.set_cons_zero, List.set_cons_succ]
        refine FirstH.go (i := 5) (v := .pointer (some ⟨g, o + k * 4, none⟩)) rfl rfl _ rfl _ rfl (by kernel_rfl) (fun _ _ _ h => h) inv (fun X _ => by unfold bareO; go_simp) HS (fun inv => ?_)
        try simp only [Act.put, List.setIfInBounds_toArray, List.set_cons_zero, List.set_cons_succ]
        refine FirstH.go (i := 6) (v := .pointer (some ⟨g, o + k * 4 + 1, none⟩)) rfl rfl _ rfl _ rfl (by kernel_rfl) (fun _ _ _ h => h) inv (fun X _ => by unfold bareO; go_simp) HS (fun inv => ?_)
        try simp only [Act.put, List.setIfInBounds_toArray, List.set_cons_zero, List.set_cons_succ]
        refine FirstH.go (i := 7) (v := .slice xa xl xc) rfl rfl _ rfl _ rfl (by kernel_rfl) (fun _ _ _ h => h) inv (fun X hS => by have c1 := hS.2; unfold bareO; go_simp) HS (fun inv => ?_)
        try simp only [Act.put, List.setIfInBounds_toArray, List.set_cons_zero, List.set_cons_succ]
        refine FirstH.go (i := 9) (v := .pointer (some ⟨w2.heap.size, 6, none⟩)) rfl rfl _ rfl _ rfl (by kernel_rfl) (fun _ _ _ h => h) inv (fun X _ => by unfold bareO; go_simp) HS (fun inv => ?_)
        try simp only [Act.put, List.setIfInBounds_toArray, List.set_cons_zero, List.set_cons_succ]
        clear HS
        refine FirstH.only (i := 8) (by kernel_rfl) (by decide) inv (fun inv => wpOp_call (i := 8) rfl rfl 48 rfl _ rfl 21 #[.slice xa xl xc] (by unfold bareO; go_simp) K5.out ?_)
        rintro e w6 ⟨bv, rfl, bo, b6⟩
        have hxl := HXL.out
        subst hxl
        obtain ⟨bd, rfl, hbB, bok⟩ := Bd.of_own bo (by have := OK1.out.len; simpa using this)
        have c6 : ∀ a : Addr, a.block = g → w6.cell? a = w5.cell? a := fun a ha => b6.cell (by rw [ha]; exact Nat.lt_of_lt_of_le GL.out B5.out.size)
        have H6 : Hid (w6.cell? ⟨g, o + k * 4, none⟩ = some (.int .u64 xq) ∧ w6.cell? ⟨g, o + k * 4 + 1, none⟩ = some (.slice xa xB.length xc)) := Lib.hid ⟨(c6 _ rfl).trans H5.out.1, (c6 _ rfl).trans H5.out.2⟩
        refine ⟨_, rfl, H6.out, ?_⟩
        have r6 := (b6.block _ (blt R5.out)).trans R5.out
        have B6 := Lib.hid (B5.out.trans (b6.mono B5.out.size))
        have R6 := Lib.hid r6
        have OKB := Lib.hid bok
        have HBB := Lib.hid hbB
        unfold Bd.v
        have p4 := cell_of r6 4 (.int .u64 0) rfl
        have p6 := cell_of r6 6 (.bool false) rfl
        have p7 := cell_of r6 7 (.slice none 0 0) rfl
        have y4 := frz_row 4 r6
        have y6 := frz_row 6 r6
        have y7 := frz_row 7 r6
        clear b6 bo bok hbB c6 r6
        obtain ⟨w7, hw7⟩ : ∃ Y, ((w6.setCell ⟨w2.heap.size, 6, none⟩ (.bool true)).setCell ⟨w2.heap.size, 4, none⟩ (.int .u64 xq)).setCell ⟨w2.heap.size, 7, none⟩ (.slice bd.A bd.B.length bd.c) = Y := ⟨_, rfl⟩
        have r7 : w7.heap[w2.heap.size]? = some (.cells #[.int .u8 mn, .int .u16 ml, .int .u8 pn, .int .u16 pl, .int .u64 xq, .int .u64 wt, .bool true, .slice bd.A bd.B.length bd.c] 46 (0, 0)) := by
          rw [← hw7]
          exact (row_set (row_set (row_set R6.out _) _) _).trans rfl
        have b7 : Below w1.heap.size w1 w7 := by
          rw [← hw7]
          exact ((B6.out.setCell (p := ⟨w2.heap.size, 6, none⟩) S2.out _).setCell (p := ⟨w2.heap.size, 4, none⟩) S2.out _).setCell (p := ⟨w2.heap.size, 7, none⟩) S2.out _
        obtain ⟨w8, hw8⟩ : ∃ Y, w7.alloc (.cells #[.int .u8 mn, .int .u16 ml, .int .u8 pn, .int .u16 pl, .int .u64 xq, .int .u64 wt, .bool true, .slice bd.A bd.B.length bd.c] 46) = Y := ⟨_, rfl⟩
        have r8 : w8.heap[w7.heap.size]? = some (.cells #[.int .u8 mn, .int .u16 ml, .int .u8 pn, .int .u16 pl, .int .u64 xq, .int .u64 wt, .bool true, .slice bd.A bd.B.length bd.c] 46 (0, 0)) := by rw [← hw8]; exact heap_alloc_new _ _
        have b8 : Below w1.heap.size w1 w8 := by rw [← hw8]; exact b7.alloc b7.size _
        have k8 : KP (fun k => k = w2.heap.size) w6 w8 := by
          rw [← hw8, ← hw7]
          exact ((((KP.set (S := fun k => k = w2.heap.size) _ _ 6 _ rfl).trans (KP.set (S := fun k => k = w2.heap.size) _ _ 4 _ rfl) fun _ _ h => h).trans (KP.set (S := fun k => k = w2.heap.size) _ _ 7 _ rfl) fun _ _ h => h).trans (KP.of_below ((Below.refl _ _).alloc (Nat.le_refl _) _)) fun _ _ h => h)
        have OK8 := Lib.hid (OKB.out.keepK k8 fun g' cur hc e => apart_of hc R6.out (by decide) e)
        have HW7 := Lib.hid hw7
        have HW8 := Lib.hid hw8
        have R7 := Lib.hid r7
        have R8 := Lib.hid r8
        have B8 := Lib.hid b8
        have hsz8 := Lib.hid (by kernel_rfl : (Try.prog.info? 46).map (·.size) = some (#[.int .u8 mn, .int .u16 ml, .int .u8 pn, .int .u16 pl, .int .u64 xq, .int .u64 wt, .bool true, .slice bd.A bd.B.length bd.c] : Array Value).size)
        clear hw7 r7 b7 hw8 r8 b8 k8 K5
        have O8 := Lib.hid (by
          have e1 : ∀ g', u5.ownBlock = some g' → w8.heap[g']? = wr.heap[g']? := fun g' hg' => by
            obtain ⟨cu, hcu⟩ := row_block J.out.row hg'
            obtain ⟨c2, h2⟩ := J.out.pl.row.block g rfl
            have hne : g' ≠ g := apart_of hcu h2 (by decide)
            have h3 : w1.heap[g']? = wr.heap[g']? := by
              rw [← HW1.out]
              exact (Below.heap_setCell _ _ _ _ hne).trans (Below.heap_setCell _ _ _ _ hne)
            exact (B8.out.block g' (by rw [← HW1.out]; simpa [World.setCell] using blt hcu)).trans h3
          exact owns_keepB J.out.row e1 : w8.ownsRow W.heap.size 46 8 u5 P.length (flat Pk.cs P))
        have PLN := Lib.hid (Nat.le_trans J.out.len (Nat.le_trans hk hq8))
        have WS8 := Lib.hid (Nat.le_trans WS.out B8.out.size)
        try simp only [Act.put, List.setIfInBounds_toArray, List.set_cons_zero, List.set_cons_succ]
        refine FirstH.only (i := 10) (by kernel_rfl) (by decide) inv (fun inv => wpOp_st (i := 10) (w' := w6.setCell ⟨w2.heap.size, 6, none⟩ (.bool true)) rfl rfl rfl _ rfl (by unfold bareO; go_simp) ?_)
        have q6 : ∀ (i : Nat) (u : Value) (Y : World), (Y.cell? ⟨g, o + k * 4, none⟩ = some (.int .u64 xq) ∧ Y.cell? ⟨g, o + k * 4 + 1, none⟩ = some (.slice xa xB.length xc)) → ((Y.setCell ⟨w2.heap.size, i, none⟩ u).cell? ⟨g, o + k * 4, none⟩ = some (.int .u64 xq) ∧ (Y.setCell ⟨w2.heap.size, i, none⟩ u).cell? ⟨g, o + k * 4 + 1, none⟩ = some (.slice xa xB.length xc)) := fun i u Y hY => by
          have h1 := GL.out
          have h2 := S2.out
          exact ⟨(World.cell?_setCell_far _ _ _ _ (show w2.heap.size ≠ g by omega)).trans hY.1, (World.cell?_setCell_far _ _ _ _ (show w2.heap.size ≠ g by omega)).trans hY.2⟩
        have Q6 := Lib.hid q6
        clear q6
        refine ⟨Q6.out _ _ _ H6.out, ?_⟩
        refine FirstH.go (i := 11) (v := .pointer (some ⟨w2.heap.size, 4, none⟩)) rfl rfl _ rfl _ rfl (by kernel_rfl) (fun _ _ _ h => h) inv (fun X _ => by unfold bareO; go_simp) (Q6.out _ _ _ H6.out) (fun inv => ?_)
        try simp only [Act.put, List.setIfInBounds_toArray, List.set_cons_zero, List.set_cons_succ]
        refine FirstH.only (i := 12) (by kernel_rfl) (by decide) inv (fun inv => wpOp_st (i := 12) (w' := (w6.setCell ⟨w2.heap.size, 6, none⟩ (.bool true)).setCell ⟨w2.heap.size, 4, none⟩ (.int .u64 xq)) rfl rfl rfl _ rfl (by unfold bareO; go_simp) ?_)
        refine ⟨Q6.out _ _ _ (Q6.out _ _ _ H6.out), ?_⟩
        refine ⟨by kernel_rfl, ?_⟩
        simp only [List.drop_succ_cons, List.drop_zero]
        go_wp2_with (first
          | (rw [HW7.out])
          | (refine wpList_load_row rfl 46 (.tmp 9) rfl w2.heap.size (by rfl) 46 #[.int .u8 mn, .int .u16 ml, .int .u8 pn, .int .u16 pl, .int .u64 xq, .int .u64 wt, .bool true, .slice bd.A bd.B.length bd.c] (0, 0) _ R7.out Try.underlying46 rfl hsz8.out ?_)
          | (rw [HW8.out])
          | (refine wpList_appPk rfl 55 rfl (.tmp 52) (.tmp 54) rfl W.heap.size u5 P.length _ rfl O8.out w7.heap.size #[.int .u8 mn, .int .u16 ml, .int .u8 pn, .int .u16 pl, .int .u64 xq, .int .u64 wt, .bool true, .slice bd.A bd.B.length bd.c] 1 rfl (by simp [Value.oneCell']) rfl R8.out (by have := PLN.out; omega) WS8.out ?_
             intro v' w9 O9 g9
             have O9' := Lib.hid O9
             have G9 := Lib.hid g9
             clear O9 g9))
        go_roundw
        case rel =>
          exact ⟨k + 1, _, by omega, by go_num, Lib.hid (J.out.yes (pv' := v') (x := ⟨xq, ⟨xB, xa, xc⟩, xt, xw⟩) (bd := bd) HN.out HXK.out HD.out HNW.out HW1.out B8.out OK8.out HBB.out O9'.out G9.out)⟩
        case measure => simp [intOf]; omega
    · have hkq' : k = q := by omega
      subst hkq'
      have hki : ¬ (k : Int) < (k : Int) := by omega
      obtain ⟨Ap, pc, hpv, _, _, _⟩ := (RowO.of_owns J.out.row).slice
      subst hpv
      have E1 := Lib.hid (by rw [← HQ.out, ← HN.out]; exact outL_min now ag L : outL now ag L k = outL now ag L 8)
      have E2 := Lib.hid (by rw [← HQ.out, ← HN.out]; exact dueL_min now ag L : dueL' now ag L k = dueL' now ag L 8)
      have EP := Lib.hid (by have := congrArg List.length J.out.eq; simp only [List.length_map] at this; rw [E2.out] at this; exact this : P.length = (dueL' now ag L 8).length)
      have c8 := cell_of J.out.pl.lnk 8 (.bool ow) rfl
      have z8 := frz_row 8 J.out.pl.lnk
      have FIN : Hid (∀ (hno : ¬ ((dueL' now ag L 8).length = 0 ∧ ow = true)), (wr.setCell ⟨b, 8, none⟩ (.bool false)).ownsRow W.heap.size 46 8 (.slice Ap P.length pc) P.length (flat Pk.cs P) ∧ (∀ x ∈ P, x.b.Ok (wr.setCell ⟨b, 8, none⟩ (.bool false))) ∧ P.map Pk.pu = fOut ⟨mn, ml, pn, pl, ag, nx, wt, ow⟩ now L ∧ PL base (wr.setCell ⟨b, 8, none⟩ (.bool false)) b m (.slice A n cp) c ⟨mn, ml, pn, pl, ag, nx, wt, false⟩ (outL now ag L 8) K ∧ KP (FP b m (.slice A n cp)) W (wr.setCell ⟨b, 8, none⟩ (.bool false))) := Lib.hid (fun hno => by
        refine ⟨owns_keepB J.out.row fun g' hg => ?_, fun x hx => ?_, ?_, ?_, ?_⟩
        · obtain ⟨cu, hcu⟩ := row_block J.out.row hg
          exact Below.heap_setCell _ _ _ _ (apart_of hcu J.out.pl.lnk (by decide))
        · exact (J.out.ok x hx).keepK (KP.set (S := fun k => k = b) wr b 8 _ rfl) fun g' cur hc e => apart_of hc J.out.pl.lnk (by decide) e
        · rw [J.out.eq]
          unfold fOut
          rw [if_neg hno]
          show (dueL' now ag L k).map _ = _
          rw [E2.out]
        · have := J.out.pl.owe false
          rw [← E1.out]
          exact this
        · exact J.out.kp.trans (KP.set (S := fun k => k = b) wr b 8 _ rfl) fun _ _ e => Or.inl e)
      obtain ⟨pq, hpq⟩ : ∃ pq, P.length = pq := ⟨_, rfl⟩
      have HPQ := Lib.hid hpq
      simp only [hpq]
      clear hpq
      by_cases h0 : pq = 0
      · subst h0
        cases ow with
        | false =>
          go_wp2
          go_ret
          unfold OutR
          exact ⟨_, P, rfl, by have f := FIN.out (by simp); rw [HPQ.out] at f; rw [HPQ.out]; exact f⟩
        | true =>
          go_wp2_with fail
          refine (packetR wr b m (.slice A n cp) mn ml pn pl ag nx wt true J.out.pl.lnk).mono ?_
          rintro e w2 ⟨rfl, b2⟩
          obtain ⟨w3, hw3⟩ : ∃ Y, w2.alloc (.cells #[.int .u8 mn, .int .u16 ml, .int .u8 pn, .int .u16 pl, .int .u64 0, .int .u64 wt, .bool false, .slice none 0 0] 46) = Y := ⟨_, rfl⟩
          have r3 : w3.heap[w2.heap.size]? = some (.cells #[.int .u8 mn, .int .u16 ml, .int .u8 pn, .int .u16 pl, .int .u64 0, .int .u64 wt, .bool false, .slice none 0 0] 46 (0, 0)) := by rw [← hw3]; exact heap_alloc_new _ _
          have b3 : Below wr.heap.size wr w3 := by rw [← hw3]; exact b2.alloc b2.size _
          have hP : P = [] := List.eq_nil_of_length_eq_zero HPQ.out
          subst hP
          have O3 := Lib.hid (owns_keepB J.out.row (fun g' hg => b3.block g' (J.out.row.lt g' hg).2) : w3.ownsRow W.heap.size 46 8 (.slice Ap 0 pc) 0 [])
          have P3 := Lib.hid (J.out.pl.below b3)
          have W3 := Lib.hid (Nat.le_trans J.out.kp.size b3.size)
          have HW3 := Lib.hid hw3
          have R3 := Lib.hid r3
          have B3 := Lib.hid b3
          clear hw3 r3 b3 b2 c8 z8 FIN
          go_wp2_with (first
            | (rw [HW3.out])
            | (refine wpList_appPk rfl 70 rfl (.tmp 66) (.tmp 69) rfl W.heap.size (.slice Ap 0 pc) 0 _ rfl O3.out w2.heap.size #[.int .u8 mn, .int .u16 ml, .int .u8 pn, .int .u16 pl, .int .u64 0, .int .u64 wt, .bool false, .slice none 0 0] 1 rfl (by simp [Value.oneCell']) rfl R3.out (by omega) W3.out ?_
               intro v' w9 O9 g9
               have k9 : KP (fun k => (Value.slice Ap 0 pc).ownBlock = some k) w3 w9 := KP.grown g9 fun k hk => hk
               have hne : ∀ (k : Nat) (cu : Array Value) (t : TypeId), w3.heap[k]? = some (.cells cu t (0, 0)) → t ≠ 46 → ¬ ((Value.slice Ap 0 pc).ownBlock = some k) := fun k cu t hk ht e => by
                 obtain ⟨c2, h2⟩ := row_block O3.out e
                 exact apart_of hk h2 ht rfl
               have P9 := Lib.hid (P3.out.keepK k9 (hne b _ _ P3.out.lnk (by decide)) (fun e => by
                 obtain ⟨es, cl, hm⟩ := P3.out.ml
                 obtain ⟨c2, h2⟩ := row_block O3.out e
                 rw [hm] at h2
                 cases h2) (fun g' hg => by
                 obtain ⟨c2, h2⟩ := P3.out.row.block g' hg
                 exact hne g' _ _ h2 (by decide)) (fun g' cu hc => hne g' _ _ hc (by decide)))
               have c8 := cell_of P9.out.lnk 8 (.bool true) rfl
               have z8 := frz_row 8 P9.out.lnk
               have O9' := Lib.hid O9
               have K9 := Lib.hid k9
               clear O9 g9 k9 hne))
          go_ret
          unfold OutR
          have hb9 : ∀ g', v'.ownBlock = some g' → g' ≠ b := fun g' hg => by
            obtain ⟨c2, h2⟩ := row_block O9'.out hg
            exact apart_of h2 P9.out.lnk (by decide)
          refine ⟨v', [⟨mn, ml, pn, pl, 0, wt, false, ⟨[], none, 0⟩⟩], rfl, owns_keepB O9'.out fun g' hg => Below.heap_setCell _ _ _ _ (hb9 g' hg), fun x hx => ?_, ?_, ?_, ?_⟩
          · obtain rfl : x = ⟨mn, ml, pn, pl, 0, wt, false, ⟨[], none, 0⟩⟩ := by simpa using hx
            exact ⟨World.ownsRow_nil _ _ _ _, by simp⟩
          · have e0 := EP.out
            unfold fOut
            rw [if_pos ⟨e0.symm, rfl⟩]
            rfl
          · have := P9.out.owe false
            rw [← E1.out]
            exact this
          · refine (J.out.kp.trans ((KP.of_below B3.out).trans K9.out fun _ _ h => h) fun k _ hk => ?_).trans (KP.set (S := fun k => k = b) _ b 8 _ rfl) fun _ _ e => Or.inl e
            have h1 := (J.out.row.lt k hk).1
            rename_i hkk
            exact absurd hkk (by omega)
      · have h0' : ¬ (pq : Int) = 0 := by omega
        have h0'' : ((pq : Int) == 0) = false := by simp [h0]
        go_wp2
        go_ret
        unfold OutR
        exact ⟨_, P, rfl, by have f := FIN.out (by rw [← EP.out, HPQ.out]; omega); rw [HPQ.out] at f; rw [HPQ.out]; exact f⟩

end Go.Proofs.Ytnagbiicpecamaa
