/-
  The program's Send: by exact answers. Condition: the link lies in memory.
-/
import Derived.Test.YtnagbiicpecamaaJsm
namespace Go.Proofs.Ytnagbiicpecamaa
set_option linter.unusedSimpArgs false
set_option linter.unusedVariables false
open Go.RowKit Go.Maps Go.Sort

theorem sntI : (Try.prog.info? 60).map (fun i => (i.zero, i.size, i.bytes)) = some (some (.agg #[.int .u64 0, .slice none 0 0, .bool false, .int .i64 0]), 4, 48) := by kernel_rfl
theorem wrap_u64 {n : Nat} (h : n ≤ 18446744073709551615) : IntKind.u64.wrap (n : Int) = (n : Int) := IntWalk.u64_in _ (by omega)
set_option maxRecDepth 100000 in
set_option maxHeartbeats 1000000 in
theorem send_full (base : Nat) (W : World) (b m : Nat) (v : Value) (c : Nat) (s : Sc) (L : List Ls) (K : List Kr) (h : PL base W b m v c s L K) (XA : Option Addr) (X : List UInt8) (xc : Nat) (h2 : s.next = 18446744073709551615) :
    Calls Try.prog 11 #[.pointer (some ⟨b, 0, none⟩), .slice XA X.length xc] W fun e W' => e = .returned (.int .i64 11) ∧ W = W' := by
  have K1 := made_yes base W b m v c s L K h
  obtain ⟨mn, ml, pn, pl, ag, nx, wt, ow⟩ := s
  obtain ⟨A, cp, rfl, _, _, _⟩ := h.row.slice
  have c5 := cell_of h.lnk 5 (.int .u64 nx) rfl
  have c7 := cell_of h.lnk 7 (.slice A L.length cp) rfl
  obtain ⟨n, hn⟩ : ∃ n, L.length = n := ⟨_, rfl⟩
  simp only [hn] at c7
  try simp only [hn] at h2
  have h2' : nx = 18446744073709551615 := h2
  have h3 : (nx : Int) = 18446744073709551615 := by omega
  have h4 : ((nx : Int) == 18446744073709551615) = true := by simp [h3]
  clear h
  go_enter Try.func11, Try.ntmps11
  go_wp2_with fail
  refine K1.mono ?_
  rintro e w ⟨rfl, rfl⟩
  go_wp2
  go_ret
  exact ⟨rfl, rfl⟩
set_option maxRecDepth 100000 in
set_option maxHeartbeats 1000000 in
theorem send_busy (base : Nat) (W : World) (b m : Nat) (v : Value) (c : Nat) (s : Sc) (L : List Ls) (K : List Kr) (h : PL base W b m v c s L K) (XA : Option Addr) (X : List UInt8) (xc : Nat) (h2 : s.next ≠ 18446744073709551615 ∧ 32 ≤ L.length) :
    Calls Try.prog 11 #[.pointer (some ⟨b, 0, none⟩), .slice XA X.length xc] W fun e W' => e = .returned (.int .i64 10) ∧ W = W' := by
  have K1 := made_yes base W b m v c s L K h
  obtain ⟨mn, ml, pn, pl, ag, nx, wt, ow⟩ := s
  obtain ⟨A, cp, rfl, _, _, _⟩ := h.row.slice
  have c5 := cell_of h.lnk 5 (.int .u64 nx) rfl
  have c7 := cell_of h.lnk 7 (.slice A L.length cp) rfl
  obtain ⟨n, hn⟩ : ∃ n, L.length = n := ⟨_, rfl⟩
  simp only [hn] at c7
  try simp only [hn] at h2
  have h3 : ¬ (nx : Int) = 18446744073709551615 := by have := h2.1; simp at this; omega
  have h4 : (32 : Int) ≤ (n : Int) := by have := h2.2; omega
  have h5 : ((nx : Int) == 18446744073709551615) = false := by simp [h3]
  clear h
  go_enter Try.func11, Try.ntmps11
  go_wp2_with fail
  refine K1.mono ?_
  rintro e w ⟨rfl, rfl⟩
  go_wp2
  go_ret
  exact ⟨rfl, rfl⟩
set_option maxRecDepth 100000 in
set_option maxHeartbeats 2000000 in
theorem send_ok (base : Nat) (W : World) (b m : Nat) (v : Value) (c : Nat) (s : Sc) (L : List Ls) (K : List Kr) (h : PL base W b m v c s L K) (XA : Option Addr) (X : List UInt8) (xc : Nat) (hx : BytesAt W W.heap.size XA X) (hl : X.length ≤ 1000000) (hc : X.length ≤ xc) (hm : xc ≤ maxLen) (h1 : s.next ≠ 18446744073709551615) (h2 : L.length < 32) :
    Calls Try.prog 11 #[.pointer (some ⟨b, 0, none⟩), .slice XA X.length xc] W fun e W' => e = .returned (.int .i64 0) ∧ ∃ (x : Ls) (v' : Value), x.seq = s.next ∧ x.b.B = X ∧ x.told = false ∧ x.at_ = 0 ∧ PL base W' b m v' c { s with next := s.next + 1 } (L ++ [x]) K ∧ KP (FP b m v) W W' ∧ (v'.ownBlock = v.ownBlock ∨ ∃ k, v'.ownBlock = some k ∧ W.heap.size ≤ k) := by
  have K1 := made_yes base W b m v c s L K h
  obtain ⟨mn, ml, pn, pl, ag, nx, wt, ow⟩ := s
  obtain ⟨A, cp, rfl, hn1, hn2, hA⟩ := h.row.slice
  have lnk := h.lnk
  obtain ⟨n, hn⟩ : ∃ n, L.length = n := ⟨_, rfl⟩
  have row := h.row
  simp only [hn, Sc.cs] at lnk row h2 ⊢
  have c5 := cell_of lnk 5 (.int .u64 nx) rfl
  have c7 := cell_of lnk 7 (.slice A n cp) rfl
  have hnx : nx ≤ 18446744073709551615 := h.nxt
  have h1' : nx ≠ 18446744073709551615 := h1
  have H1 := Lib.hid h1'
  have h3 : ¬ (nx : Int) = 18446744073709551615 := by omega
  have h5 : ((nx : Int) == 18446744073709551615) = false := by simp [h3]
  have h4 : ¬ (32 : Int) ≤ (n : Int) := by omega
  have hwr : Hid (IntKind.u64.wrap ((nx : Int) + 1) = ((nx + 1 : Nat) : Int)) := Lib.hid (by rw [show (nx : Int) + 1 = ((nx + 1 : Nat) : Int) by omega]; exact wrap_u64 (by omega))
  have HN := Lib.hid hn
  have KO := Lib.hid (fun W h => cloneB XA X xc W h (by omega) hc hm)
  have HX := Lib.hid hx
  have HP := Lib.hid h
  have LNK := Lib.hid lnk
  have ROW := Lib.hid row
  have HXL := Lib.hid hl
  have H2 := Lib.hid h2
  obtain ⟨xl, hxl⟩ : ∃ xl, X.length = xl := ⟨_, rfl⟩
  have HXX := Lib.hid hxl
  simp only [hxl] at KO ⊢
  clear h hx row hA hn hl hc hm h1 h2 hn1 hn2 hxl h1' hnx lnk
  go_enter Try.func11, Try.ntmps11
  go_wp2_with fail
  refine K1.mono ?_
  rintro e w ⟨rfl, rfl⟩
  go_wp2
  refine region_heldT (S := fun Y => Y.heap[b]? = some (.cells #[.int .u8 mn, .int .u16 ml, .int .u8 pn, .int .u16 pl, .int .i64 ag, .int .u64 nx, .int .u64 wt, .slice A n cp, .bool ow, .map (some m)] 64 (0, 0))) 14 (by kernel_rfl) (by decide) (fun inv => ?_)
  change FirstH _ _ _ _ _ _ _ _ _ _ W.drew
  obtain ⟨W3, hW3⟩ : ∃ Y, W.drew = Y := ⟨_, rfl⟩
  have b3 : Below W.heap.size W W3 := by rw [← hW3]; exact (Below.refl _ _).drew
  rw [hW3]
  clear hW3 c5 c7
  have HS : W3.heap[b]? = some (.cells #[.int .u8 mn, .int .u16 ml, .int .u8 pn, .int .u16 pl, .int .i64 ag, .int .u64 nx, .int .u64 wt, .slice A n cp, .bool ow, .map (some m)] 64 (0, 0)) := (b3.block b (blt LNK.out)).trans LNK.out
  have B3 := Lib.hid b3
  have K3 := Lib.hid (KO.out W3 (HX.out.below b3 (Nat.le_refl _) b3.size))
  have L3 := Lib.hid HS
  clear b3 KO
  refine FirstH.go (i := 0) (v := .pointer (some ⟨b, 0, none⟩)) rfl rfl _ rfl _ rfl (by kernel_rfl) (fun _ _ _ h => h) inv (fun X _ => by unfold bareO; go_simp) HS (fun inv => ?_)
  try simp only [Act.put, List.setIfInBounds_toArray, List.set_cons_zero, List.set_cons_succ]
  refine FirstH.go (i := 1) (v := .pointer (some ⟨b, 0, none⟩)) rfl rfl _ rfl _ rfl (by kernel_rfl) (fun _ _ _ h => h) inv (fun X _ => by unfold bareO; go_simp) HS (fun inv => ?_)
  try simp only [Act.put, List.setIfInBounds_toArray, List.set_cons_zero, List.set_cons_succ]
  refine FirstH.go (i := 2) (v := .pointer (some ⟨b, 0, none⟩)) rfl rfl _ rfl _ rfl (by kernel_rfl) (fun _ _ _ h => h) inv (fun X _ => by unfold bareO; go_simp) HS (fun inv => ?_)
  try simp only [Act.put, List.setIfInBounds_toArray, List.set_cons_zero, List.set_cons_succ]
  refine FirstH.go (i := 3) (v := .pointer (some ⟨b, 7, none⟩)) rfl rfl _ rfl _ rfl (by kernel_rfl) (fun _ _ _ h => h) inv (fun X _ => by unfold bareO; go_simp) HS (fun inv => ?_)
  try simp only [Act.put, List.setIfInBounds_toArray, List.set_cons_zero, List.set_cons_succ]
  refine FirstH.go (i := 4) (v := .slice A n cp) rfl rfl _ rfl _ rfl (by kernel_rfl) (fun _ _ _ h => h) inv (fun X hS => by have c1 := cell_of hS 7 (.slice A n cp) rfl; unfold bareO; go_simp) HS (fun inv => ?_)
  try simp only [Act.put, List.setIfInBounds_toArray, List.set_cons_zero, List.set_cons_succ]
  refine FirstH.go (i := 5) (v := .pointer (some ⟨b, 0, none⟩)) rfl rfl _ rfl _ rfl (by kernel_rfl) (fun _ _ _ h => h) inv (fun X _ => by unfold bareO; go_simp) HS (fun inv => ?_)
  try simp only [Act.put, List.setIfInBounds_toArray, List.set_cons_zero, List.set_cons_succ]
  refine FirstH.go (i := 6) (v := .pointer (some ⟨b, 0, none⟩)) rfl rfl _ rfl _ rfl (by kernel_rfl) (fun _ _ _ h => h) inv (fun X _ => by unfold bareO; go_simp) HS (fun inv => ?_)
  try simp only [Act.put, List.setIfInBounds_toArray, List.set_cons_zero, List.set_cons_succ]
  refine FirstH.go (i := 7) (v := .pointer (some ⟨b, 5, none⟩)) rfl rfl _ rfl _ rfl (by kernel_rfl) (fun _ _ _ h => h) inv (fun X _ => by unfold bareO; go_simp) HS (fun inv => ?_)
  try simp only [Act.put, List.setIfInBounds_toArray, List.set_cons_zero, List.set_cons_succ]
  refine FirstH.go (i := 8) (v := .int .u64 nx) rfl rfl _ rfl _ rfl (by kernel_rfl) (fun _ _ _ h => h) inv (fun X hS => by have c1 := cell_of hS 5 (.int .u64 nx) rfl; unfold bareO; go_simp) HS (fun inv => ?_)
  try simp only [Act.put, List.setIfInBounds_toArray, List.set_cons_zero, List.set_cons_succ]
  refine FirstH.go (i := 9) (v := .slice XA xl xc) rfl rfl _ rfl _ rfl (by kernel_rfl) (fun _ _ _ h => h) inv (fun X _ => by unfold bareO; go_simp) HS (fun inv => ?_)
  try simp only [Act.put, List.setIfInBounds_toArray, List.set_cons_zero, List.set_cons_succ]
  clear HS
  refine FirstH.only (i := 10) (by kernel_rfl) (by decide) inv (fun inv => wpOp_call (i := 10) rfl rfl 29 rfl _ rfl 21 #[.slice XA xl xc] (by unfold bareO; go_simp) K3.out ?_)
  rintro e W4 ⟨bv, rfl, bo, b4⟩
  have hxl := HXX.out
  subst hxl
  obtain ⟨bd, rfl, rfl, bok⟩ := Bd.of_own bo HXL.out
  have B4 := Lib.hid (B3.out.trans (b4.mono B3.out.size))
  have l4 : W4.heap[b]? = some (.cells #[.int .u8 mn, .int .u16 ml, .int .u8 pn, .int .u16 pl, .int .i64 ag, .int .u64 nx, .int .u64 wt, .slice A n cp, .bool ow, .map (some m)] 64 (0, 0)) := (b4.block b (blt L3.out)).trans L3.out
  refine ⟨_, rfl, l4, ?_⟩
  have OK4 := Lib.hid bok
  have L4 := Lib.hid l4
  clear b4 bo l4 bok K3 HX HXX HXL B3 L3
  unfold Bd.v
  obtain ⟨xl, hxl⟩ : ∃ xl, bd.B.length = xl := ⟨_, rfl⟩
  have HXX := Lib.hid hxl
  rw [hxl]
  clear hxl
  try simp only [Act.put, List.setIfInBounds_toArray, List.set_cons_zero, List.set_cons_succ]
  refine FirstH.only (i := 11) (by kernel_rfl) (by decide) inv (fun inv => wpOp_vl (i := 11) (v := .agg #[.int .u64 nx, .slice bd.A xl bd.c, .bool false, .int .i64 0]) (w' := W4) rfl rfl 30 rfl _ rfl (by unfold bareO; go_simp) ?_)
  refine ⟨L4.out, ?_⟩
  try simp only [Act.put, List.setIfInBounds_toArray, List.set_cons_zero, List.set_cons_succ]
  refine FirstH.only (i := 12) (by kernel_rfl) (by decide) inv (fun inv => wpOp_vl (i := 12) (v := .slice (some ⟨W4.heap.size, 0, none⟩) 1 1) (w' := W4.alloc (.cells #[.int .u64 nx, .slice bd.A xl bd.c, .bool false, .int .i64 0] 60)) rfl rfl 31 rfl _ rfl (by unfold bareO; go_simp) ?_)
  have r5 : (W4.alloc (.cells #[.int .u64 nx, .slice bd.A xl bd.c, .bool false, .int .i64 0] 60)).heap[W4.heap.size]? = some (.cells #[.int .u64 nx, .slice bd.A xl bd.c, .bool false, .int .i64 0] 60 (0, 0)) := heap_alloc_new _ _
  have b5 : Below W4.heap.size W4 (W4.alloc (.cells #[.int .u64 nx, .slice bd.A xl bd.c, .bool false, .int .i64 0] 60)) := (Below.refl _ _).alloc (Nat.le_refl _) _
  obtain ⟨W5, hW5⟩ : ∃ Y, W4.alloc (.cells #[.int .u64 nx, .slice bd.A xl bd.c, .bool false, .int .i64 0] 60) = Y := ⟨_, rfl⟩
  rw [hW5] at r5 b5 ⊢
  have B5 := Lib.hid (B4.out.trans (b5.mono B4.out.size))
  have l5 := (b5.block b (blt L4.out)).trans L4.out
  have OK5 := Lib.hid (OK4.out.below b5)
  have P5 := Lib.hid (HP.out.below B5.out)
  have R5 := Lib.hid r5
  have L5 := Lib.hid l5
  have O5 := Lib.hid (ROW.out.below B5.out)
  refine ⟨l5, ?_⟩
  clear hW5 b5 l5 r5 L4 OK4
  try simp only [Act.put, List.setIfInBounds_toArray, List.set_cons_zero, List.set_cons_succ]
  obtain ⟨i0, hi0, hz0, hz1, hz2⟩ := info_parts sntI
  refine FirstH.only (i := 13) (by kernel_rfl) (by decide) inv (fun inv => wpOp_any rfl rfl (wp_appO 32 rfl (.tmp 23) (.tmp 31) 56 60 rfl i0 _ 4 48 Try.underlying56 hi0 hz0 hz1 hz2 rfl (by decide) (.slice A n cp) n _ rfl O5.out ⟨W4.heap.size, 0, none⟩ 1 1 [.int .u64 nx, .slice bd.A xl bd.c, .bool false, .int .i64 0] rfl rfl (fun j u hu => by rw [addr_add, Nat.zero_add, cell_of_row _ _ j _ _ _ R5.out]; simpa using hu) (by simp [Value.oneCell']) (by decide) (by have := H2.out; omega) (by decide) ?_))
  intro v6 W6 O6 g6 f6
  obtain ⟨A6, c6, rfl, _, _, _⟩ := O6.slice
  have g7 : KP (fun k => (Value.slice A n cp).ownBlock = some k) W5 W6 := KP.grown g6 fun k hk => hk
  have l6 := (g7.block b (blt L5.out) (fun e => P5.out.ne_bv b (by rw [HN.out]; exact e) rfl)).trans L5.out
  refine ⟨l6, ?_⟩
  have c7 := cell_of l6 7 (.slice A n cp) rfl
  have c5 := cell_of l6 5 (.int .u64 nx) rfl
  have z7 := frz_row 7 l6
  have z5 := frz_row 5 l6
  have L6 := Lib.hid l6
  have G7 := Lib.hid g7
  have F6 := Lib.hid f6
  have O6' := Lib.hid O6
  clear l6 g6 g7 f6 O6 hi0 hz0 hz1 hz2
  try simp only [Act.put, List.setIfInBounds_toArray, List.set_cons_zero, List.set_cons_succ]
  refine ⟨by kernel_rfl, ?_⟩
  simp only [List.drop_succ_cons, List.drop_zero]
  have hw := hwr.out
  go_wp2
  go_ret
  clear inv
  have hn := HN.out
  have L7 := (row_set L6.out (i := 7) (.slice A6 (n + 1) c6)).trans rfl
  have L8 := row_set (b := b) (i := 5) L7 (.int .u64 ((nx : Int) + 1))
  obtain ⟨WF, hWF⟩ : ∃ Y, (W6.setCell ⟨b, 7, none⟩ (.slice A6 (n + 1) c6)).setCell ⟨b, 5, none⟩ (.int .u64 ((nx : Int) + 1)) = Y := ⟨_, rfl⟩
  rw [hWF] at L8 ⊢
  have k6 : KP (fun k => k = b) W6 WF := by
    rw [← hWF]
    exact (KP.set (S := fun k => k = b) W6 b 7 _ rfl).trans (KP.set (S := fun k => k = b) _ b 5 _ rfl) fun _ _ h => h
  have kk : KP (FP b m (Value.slice A n cp)) W WF := by
    refine (((KP.of_below B5.out).trans (G7.out.mono fun k hk => Or.inr (Or.inr hk)) fun _ _ h => h)).trans k6 fun k _ hk => Or.inl hk
  have k5 : KP (fun k => k = b ∨ (Value.slice A n cp).ownBlock = some k) W5 WF := (G7.out.mono fun k hk => Or.inr hk).trans k6 fun k _ hk => Or.inl hk
  have P5' := P5.out
  rw [hn] at P5'
  have s5 := B5.out.size
  have u5 : ∀ (g : Nat) (cur : Array Value), W5.heap[g]? = some (.cells cur 5 (0, 0)) → ¬ (g = b ∨ (Value.slice A n cp).ownBlock = some g) := fun g cur hg e => P5'.u8 g cur hg (e.elim Or.inl fun e => Or.inr (Or.inr e))
  refine ⟨by simp, ⟨nx, bd, false, 0⟩, .slice A6 (n + 1) c6, rfl, rfl, rfl, rfl, ?_, kk, ?_⟩
  · refine ⟨P5'.hb, P5'.hm, fun g hg => ?_, L8.trans rfl, ?_, fun x hx => ?_, ?_, fun x hx => (P5'.okK x hx).keepK k5 u5, by simp [hn]; have := H2.out; omega, ?_, P5'.wnt, P5'.agn, fun i x hx => ?_, fun x hx => ?_⟩
    · rcases F6.out with e | ⟨k, e, hk⟩
      · exact P5'.hv g (by rw [← e]; exact hg)
      · rw [hg] at e
        cases e
        have := P5'.hb
        have := blt HP.out.lnk
        omega
    · have e1 : (L ++ [(⟨nx, bd, false, 0⟩ : Ls)]).length = n + 1 := by simp [hn]
      have e2 : flat Ls.cs (L ++ [(⟨nx, bd, false, 0⟩ : Ls)]) = flat Ls.cs L ++ [.int .u64 nx, .slice bd.A xl bd.c, .bool false, .int .i64 0] := by
        rw [flat_append]
        simp [flat, Ls.cs, HXX.out]
      rw [e1, e2]
      refine O6'.out.keepK k6 fun g hg e => ?_
      obtain ⟨c2, h2⟩ := O6'.out.block g hg
      exact apart_of h2 L6.out (by decide) e
    · rcases List.mem_append.1 hx with hx | hx
      · exact (P5'.okL x hx).keepK k5 u5
      · obtain rfl : x = ⟨nx, bd, false, 0⟩ := by simpa using hx
        exact OK5.out.keepK k5 u5
    · obtain ⟨nn, D, hk, ⟨es, cl, hm, F, hs, hD⟩, M⟩ := P5'.map
      refine ⟨nn, D, hk, ⟨es, cl, (k5.block m (blt hm) ?_).trans hm, F, hs, hD⟩, M⟩
      rintro (e | e)
      · exact P5'.ne_bm e.symm
      · exact P5'.ne_mv m e rfl
    · have h1 := H1.out
      have h2 := P5'.nxt
      show nx + 1 ≤ 18446744073709551615
      have h2' : nx ≤ 18446744073709551615 := h2
      omega
    · show x.seq + (L ++ [(⟨nx, bd, false, 0⟩ : Ls)]).length = nx + 1 + i
      rw [List.length_append, hn]
      by_cases hi : i < L.length
      · rw [List.getElem?_append_left hi] at hx
        have := P5'.seqs i x hx
        rw [hn] at this
        have h3 : x.seq + n = nx + i := this
        simp
        omega
      · rw [List.getElem?_append_right (by omega)] at hx
        have hi2 := (List.getElem?_eq_some_iff.1 hx).1
        simp at hi2
        have hi3 : i = L.length := by omega
        subst hi3
        simp at hx
        subst hx
        simp
        omega
    · rcases List.mem_append.1 hx with hx | hx
      · exact P5'.ats x hx
      · obtain rfl : x = ⟨nx, bd, false, 0⟩ := by simpa using hx
        exact ⟨by simp, by simp⟩
  · rcases F6.out with e | ⟨k, e, hk⟩
    · exact Or.inl e
    · exact Or.inr ⟨k, e, by omega⟩

end Go.Proofs.Ytnagbiicpecamaa
