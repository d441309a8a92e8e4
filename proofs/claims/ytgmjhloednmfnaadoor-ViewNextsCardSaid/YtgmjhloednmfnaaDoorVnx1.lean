/-
  The document's Next, where the view is right: by an exact answer. Condition: the lists lie in memory; at most 40 members and changes.
-/
import Derived.Test.YtgmjhloednmfnaaDoorVnxi
namespace Go.Proofs.YtgmjhloednmfnaaDoor
set_option linter.unusedSimpArgs false
set_option linter.unusedVariables false
open Go.RowKit

set_option maxRecDepth 100000 in
set_option maxHeartbeats 1000000 in
theorem nextR_main (g N : Int) (A B D : Option Addr) (V drop add : List P2) (c d e : Nat) (w : World) (hr : RowsV w w.heap.size A V) (hs : RowsV w w.heap.size B drop) (ht : RowsV w w.heap.size D add) (hc : V.length ≤ c) (hm : c ≤ maxLen) (hd : drop.length ≤ d) (hn : d ≤ maxLen) (he : add.length ≤ e) (ho : e ≤ maxLen) (hV : V.length ≤ 40) (hA : add.length ≤ 40) (hok : vR g N V = true) (hN : ¬ N = 4294967295) (hN2 : N < 4294967296) :
    Calls Tryd.prog 10 #[.agg #[.int .u8 g, .int .u32 N, .slice A V.length c], .slice B drop.length d, .slice D add.length e] w fun x w' => ∃ v', x = .returned (.tuple #[.agg #[.int .u8 (nxG g N V drop add), .int .u32 (nxN g N V drop add), v'], .int .i64 (nxC g N V drop add)]) ∧ w'.ownsRow w.heap.size 46 2 v' (nxV g N V drop add).length (cellsV (nxV g N V drop add)) ∧ Below w.heap.size w w' := by
  have hN1 : 1 ≤ N := by
    unfold vR at hok
    simp only [Bool.and_eq_true, decide_eq_true_eq] at hok
    exact hok.1.1.1.2
  have K1 : Hid (∀ W, Below w.heap.size w W → Calls Tryd.prog 24 #[.agg #[.int .u8 g, .int .u32 N, .slice A V.length c]] W fun e w' => e = .returned (.bool true) ∧ Below W.heap.size W w') := Lib.hid (fun W hw => by
    have := rightR g N A V c W (hr.below (C := w.heap.size) hw (Nat.le_refl _) hw.size) hc hm
    rw [hok] at this
    exact this)
  have K2 : Hid (∀ W (x : P2), Below w.heap.size w W → Calls Tryd.prog 16 #[.slice B drop.length d, .agg #[.int .u8 x.n, .int .u16 x.l]] W fun e w' => e = .returned (.int .i64 (rk drop x)) ∧ Below W.heap.size W w') := Lib.hid (fun W x hw => rank B drop x d W (hs.below (C := w.heap.size) hw (Nat.le_refl _) hw.size) hd hn)
  have K3 : Hid (∀ W (x : P2), Calls Tryd.prog 25 #[.agg #[.int .u8 x.n, .int .u16 x.l]] W fun e w' => e = .returned (.bool x.r) ∧ Below W.heap.size W w') := Lib.hid (fun W x => (rpRight x W).mono fun e w' h => ⟨h.1, by rw [← h.2]; exact (Below.refl _ _).alloc (Nat.le_refl _) _⟩)
  have K4 : Hid (∀ W (A2 : Option Addr) (L : List P2) (c2 : Nat), Below w.heap.size w W → RowsV W W.heap.size A2 L → L.length ≤ c2 → c2 ≤ maxLen → Calls Tryd.prog 26 #[.agg #[.int .u8 g, .int .u32 N, .slice A V.length c], .slice A2 L.length c2] W fun e w' => e = .returned (.bool (quo V L)) ∧ Below W.heap.size W w') := Lib.hid (fun W A2 L c2 hw hrow h1 h2 => quorumR g N A A2 V L c c2 W (hr.below (C := w.heap.size) hw (Nat.le_refl _) hw.size) hrow hc hm h1 h2)
  have HV := Lib.hid hr
  have HT := Lib.hid ht
  have b0 : Hid (Below w.heap.size w ((w.alloc (.cells #[.int .u8 g, .int .u32 N, .slice A V.length c] 25)).alloc (.cells #[.int .u8 0, .int .u32 0, .slice none 0 0] 25))) := Lib.hid (two_below _ _ _ _ _)
  have r0 : Hid (((w.alloc (.cells #[.int .u8 g, .int .u32 N, .slice A V.length c] 25)).alloc (.cells #[.int .u8 0, .int .u32 0, .slice none 0 0] 25)).heap[w.heap.size]? = some (.cells #[.int .u8 g, .int .u32 N, .slice A V.length c] 25 (0, 0))) := Lib.hid (rowA _ _ _ _ _)
  have r1 : Hid (((w.alloc (.cells #[.int .u8 g, .int .u32 N, .slice A V.length c] 25)).alloc (.cells #[.int .u8 0, .int .u32 0, .slice none 0 0] 25)).heap[w.heap.size + 1]? = some (.cells #[.int .u8 0, .int .u32 0, .slice none 0 0] 25 (0, 0))) := Lib.hid (rowB _ _ _ _ _)
  have l1 : Hid (w.heap.size + 1 < ((w.alloc (.cells #[.int .u8 g, .int .u32 N, .slice A V.length c] 25)).alloc (.cells #[.int .u8 0, .int .u32 0, .slice none 0 0] 25)).heap.size) := Lib.hid (by simp)
  have hNb : (N == 4294967295) = false := by rw [beq_eq_false_iff_ne]; exact hN
  have HOK := Lib.hid hok
  have HNN := Lib.hid hN
  have hwN : IntKind.u32.wrap (N + 1) = N + 1 := IntWalk.u32_in _ (by omega)
  unfold maxLen at hm hn ho
  clear hr hs ht hd
  go_enter Tryd.func10, Tryd.ntmps10
  go_wp2_with (go_at_call 24; refine (K1.out _ b0.out).mono ?_; rintro e1 w1 ⟨rfl, b1⟩
               have B1 := Lib.hid (b0.out.trans (b1.mono b0.out.size))
               have R1 := Lib.hid ((b1.block _ (Nat.lt_of_succ_lt l1.out)).trans r0.out)
               have R2 := Lib.hid ((b1.block _ l1.out).trans r1.out)
               have L1 : Hid (w.heap.size + 1 < w1.heap.size) := Lib.hid (Nat.lt_of_lt_of_le l1.out b1.size)
               have e0 : w1.cell? ⟨w.heap.size, 0, none⟩ = some (.int .u8 g) := (cell_of_row _ _ 0 _ _ _ R1.out).trans rfl
               have e1 : w1.cell? ⟨w.heap.size, 1, none⟩ = some (.int .u32 N) := (cell_of_row _ _ 1 _ _ _ R1.out).trans rfl
               clear b1 b0 r0 r1 l1)
  have I0 : Hid (NxI w (w1.alloc (.cells #[.int .u8 g, .int .u32 (N + 1), .slice none 0 0] 25)) w.heap.size (w.heap.size + 1) w1.heap.size #[.int .u8 g, .int .u32 N, .slice A V.length c] #[.int .u8 0, .int .u32 0, .slice none 0 0] g (N + 1) (kept V drop 0) (.slice none 0 0)) := Lib.hid {
    bel := B1.out.alloc (Nat.le_of_lt (Nat.lt_of_succ_lt L1.out)) _
    rv := (((Below.refl w1.heap.size w1).alloc (Nat.le_refl _) _).block _ (Nat.lt_of_succ_lt L1.out)).trans R1.out
    rr := (((Below.refl w1.heap.size w1).alloc (Nat.le_refl _) _).block _ L1.out).trans R2.out
    rw := heap_alloc_new w1 _
    own := ⟨rfl, .inl ⟨rfl, rfl⟩⟩
    lv := Nat.lt_of_succ_lt L1.out
    lr := L1.out
    l0 := Nat.le_of_lt (Nat.lt_of_succ_lt L1.out) }
  clear e0 e1 R1 R2 B1 L1
  go_loopw [9] (fun i wx => ∃ (k : Nat) (vv : Value), k ≤ V.length ∧ i = .int .i64 k ∧ Hid (NxI w wx w.heap.size (w.heap.size + 1) w1.heap.size #[.int .u8 g, .int .u32 N, .slice A V.length c] #[.int .u8 0, .int .u32 0, .slice none 0 0] g (N + 1) (kept V drop k) vv)) (fun i _ => V.length - (intOf i).toNat)
  case atStart => exact ⟨0, _, by omega, rfl, I0⟩
  case round =>
    clear I0
    obtain ⟨k, vv, hk, rfl, I⟩ := hrel
    have e2 : wr.cell? ⟨w.heap.size, 2, none⟩ = some (.slice A V.length c) := (cell_of_row _ _ 2 _ _ _ I.out.rv).trans rfl
    by_cases hlt : k < V.length
    · obtain ⟨b, o, rfl, hb, C⟩ := HV.out.at_ hlt
      obtain ⟨c0, c1⟩ := C.below I.out.bel hb
      have HX := Lib.hid (show V[k]? = some V[k] from List.getElem?_eq_getElem hlt)
      have hML := Lib.hid (kept_len V drop k)
      generalize V[k] = x at *
      have HCx := Lib.hid C
      have hbx := Lib.hid hb
      clear C
      have hji : (k : Int) < (V.length : Int) := by omega
      have hj0 : (0 : Int) ≤ (k : Int) := by omega
      have hci : (V.length : Int) ≤ (c : Int) := by omega
      by_cases hx : x ∈ drop
      · have h0 := (rk_mem drop x).2 hx
        have HK := Lib.hid (kept_in HX.out hx)
        clear hx
        generalize hrk : rk drop x = z at *
        go_wp2_with (go_at_call 16; refine (K2.out _ x I.out.bel).mono ?_; rw [hrk]; rintro e3 w2 ⟨rfl, b2⟩
                     have I2 := Lib.hid (I.out.below b2)
                     clear b2 e2)
        go_roundw
        case rel => exact ⟨k + 1, vv, by omega, by go_num, by rw [HK.out]; exact I2⟩
        case measure => simp [intOf]; omega
      · have h0 := (rk_neg drop x).2 hx
        have HK := Lib.hid (kept_out HX.out hx)
        clear hx
        generalize hrk : rk drop x = z at *
        go_wp2_with (go_at_call 16; refine (K2.out _ x I.out.bel).mono ?_; rw [hrk]; rintro e3 w2 ⟨rfl, b2⟩
                     have I2 := Lib.hid (I.out.below b2)
                     clear b2 e2 c0 c1)
        clear I
        refine region_heldT (S := fun W => W.cell? ⟨w1.heap.size, 2, none⟩ = some (vv) ∧ W.cell? ⟨w.heap.size, 2, none⟩ = some (.slice (some ⟨b, o, none⟩) V.length c) ∧ W.cell? ⟨b, o + k * 2, none⟩ = some (.int .u8 x.n) ∧ W.cell? ⟨b, o + k * 2 + 1, none⟩ = some (.int .u16 x.l)) 8 (by kernel_rfl) (by decide) (fun inv => ?_)
        change FirstH _ _ _ _ _ _ _ _ _ _ w2.drew
        have Id : Hid (NxI w w2.drew w.heap.size (w.heap.size + 1) w1.heap.size #[.int .u8 g, .int .u32 N, .slice (some ⟨b, o, none⟩) V.length c] #[.int .u8 0, .int .u32 0, .slice none 0 0] g (N + 1) (kept V drop k) (vv)) := Lib.hid (I2.out.below ((Below.refl _ _).drew))
        generalize w2.drew = wd at Id ⊢
        have HS : wd.cell? ⟨w1.heap.size, 2, none⟩ = some (vv) ∧ wd.cell? ⟨w.heap.size, 2, none⟩ = some (.slice (some ⟨b, o, none⟩) V.length c) ∧ wd.cell? ⟨b, o + k * 2, none⟩ = some (.int .u8 x.n) ∧ wd.cell? ⟨b, o + k * 2 + 1, none⟩ = some (.int .u16 x.l) := ⟨(cell_of_row _ _ 2 _ _ _ Id.out.rw).trans rfl, (cell_of_row _ _ 2 _ _ _ Id.out.rv).trans rfl, (HCx.out.below Id.out.bel hbx.out).c0, (HCx.out.below Id.out.bel hbx.out).c1⟩
        refine FirstH.go (i := 0) (v := .pointer (some ⟨w1.heap.size, 2, none⟩)) rfl rfl 42 rfl (Op.fieldAddr 25 (.tmp 8) 2) rfl (by kernel_rfl) (fun _ _ _ h => h) inv (fun W hS => by obtain ⟨s1, s2, s3, s4⟩ := hS; unfold bareO; go_simp) HS (fun inv => ?_)
        try simp only [Act.put, List.setIfInBounds_toArray, List.set_cons_zero, List.set_cons_succ]
        refine FirstH.go (i := 1) (v := vv) rfl rfl 43 rfl (Op.load 23 (.tmp 42)) rfl (by kernel_rfl) (fun _ _ _ h => h) inv (fun W hS => by obtain ⟨s1, s2, s3, s4⟩ := hS; unfold bareO; go_simp) HS (fun inv => ?_)
        try simp only [Act.put, List.setIfInBounds_toArray, List.set_cons_zero, List.set_cons_succ]
        refine FirstH.go (i := 2) (v := .pointer (some ⟨w.heap.size, 2, none⟩)) rfl rfl 44 rfl (Op.fieldAddr 25 (.tmp 3) 2) rfl (by kernel_rfl) (fun _ _ _ h => h) inv (fun W hS => by obtain ⟨s1, s2, s3, s4⟩ := hS; unfold bareO; go_simp) HS (fun inv => ?_)
        try simp only [Act.put, List.setIfInBounds_toArray, List.set_cons_zero, List.set_cons_succ]
        refine FirstH.go (i := 3) (v := .slice (some ⟨b, o, none⟩) V.length c) rfl rfl 45 rfl (Op.load 23 (.tmp 44)) rfl (by kernel_rfl) (fun _ _ _ h => h) inv (fun W hS => by obtain ⟨s1, s2, s3, s4⟩ := hS; unfold bareO; go_simp) HS (fun inv => ?_)
        try simp only [Act.put, List.setIfInBounds_toArray, List.set_cons_zero, List.set_cons_succ]
        refine FirstH.go (i := 4) (v := .int .i64 k) rfl rfl 46 rfl (Op.move (.tmp 9)) rfl (by kernel_rfl) (fun _ _ _ h => h) inv (fun W hS => by obtain ⟨s1, s2, s3, s4⟩ := hS; unfold bareO; go_simp) HS (fun inv => ?_)
        try simp only [Act.put, List.setIfInBounds_toArray, List.set_cons_zero, List.set_cons_succ]
        refine FirstH.go (i := 5) (v := .pointer (some ⟨b, o + k * 2, none⟩)) rfl rfl 47 rfl (Op.indexAddr 23 (.tmp 45) (.tmp 46)) rfl (by kernel_rfl) (fun _ _ _ h => h) inv (fun W hS => by obtain ⟨s1, s2, s3, s4⟩ := hS; unfold bareO; go_simp) HS (fun inv => ?_)
        try simp only [Act.put, List.setIfInBounds_toArray, List.set_cons_zero, List.set_cons_succ]
        refine FirstH.go (i := 6) (v := .agg #[.int .u8 x.n, .int .u16 x.l]) rfl rfl 48 rfl (Op.load 46 (.tmp 47)) rfl (by kernel_rfl) (fun _ _ _ h => h) inv (fun W hS => by obtain ⟨s1, s2, s3, s4⟩ := hS; unfold bareO; go_simp) HS (fun inv => ?_)
        try simp only [Act.put, List.setIfInBounds_toArray, List.set_cons_zero, List.set_cons_succ]
        clear HS
        have Ia : Hid (NxI w (wd.alloc (.cells #[.int .u8 x.n, .int .u16 x.l] 46)) w.heap.size (w.heap.size + 1) w1.heap.size #[.int .u8 g, .int .u32 N, .slice (some ⟨b, o, none⟩) V.length c] #[.int .u8 0, .int .u32 0, .slice none 0 0] g (N + 1) (kept V drop k) (vv)) := Lib.hid (Id.out.below ((Below.refl _ _).alloc (Nat.le_refl _) _))
        have hrv := rowsV_new wd x 46
        refine FirstH.only (i := 7) (by kernel_rfl) (by decide) inv (fun inv => wpOp_run (i := 7) (v := .slice (some ⟨wd.heap.size, 0, none⟩) 1 1) (w' := wd.alloc (.cells #[.int .u8 x.n, .int .u16 x.l] 46)) rfl rfl 49 rfl (Op.buildSlice 23 1 #[(0, .tmp 48)]) rfl (by unfold bareO; go_simp) ?_)
        refine ⟨⟨(cell_of_row _ _ 2 _ _ _ Ia.out.rw).trans rfl, (cell_of_row _ _ 2 _ _ _ Ia.out.rv).trans rfl, (HCx.out.below Ia.out.bel hbx.out).c0, (HCx.out.below Ia.out.bel hbx.out).c1⟩, ?_⟩
        try simp only [Act.put, List.setIfInBounds_toArray, List.set_cons_zero, List.set_cons_succ]
        generalize wd.alloc (.cells #[.int .u8 x.n, .int .u16 x.l] 46) = wa at Ia hrv ⊢
        refine ⟨by kernel_rfl, ?_⟩
        simp only [List.drop_succ_cons, List.drop_zero]
        refine wpList_step fun K hK => stepAppR rfl (.tmp 43) (.tmp 49) rfl (w1.heap.size + 1) (vv) (kept V drop k).length (cellsV (kept V drop k)) rfl Ia.out.own ⟨wd.heap.size, 0, none⟩ [x] 1 1 _ rfl rfl hrv (by have := hML.out; simp; omega) (by have := Ia.out.lt; omega) ?_
        intro v9 w9 O9 g9
        have b9 : Below (w1.heap.size + 1) wa w9 := Below.grown (Below.refl _ _) g9 (by have := Ia.out.lt; omega) fun j hj => (Ia.out.own.lt j hj).1
        have r9 := (b9.block w1.heap.size (by omega)).trans Ia.out.rw
        have c9 : w9.cell? ⟨w1.heap.size, 2, none⟩ = some (vv) := (cell_of_row _ _ 2 _ _ _ r9).trans rfl
        have f9 := frz_row 2 r9
        have O9s : w9.ownsRow (w1.heap.size + 1) 46 2 v9 (kept V drop k ++ [x]).length (cellsV (kept V drop k ++ [x])) := by
          rw [List.length_append, cellsV_snoc]
          exact O9
        obtain ⟨A9, n9, rfl, -, -, -⟩ := rowsV_of_own O9s
        have I9 := Lib.hid (Ia.out.app g9 O9s)
        rw [show (kept V drop k ++ [x]).length = (kept V drop k).length + 1 by simp] at I9
        rw [show (kept V drop k ++ [x]).length = (kept V drop k).length + 1 by simp]
        refine hK _ _ ?_
        try simp only [Act.put, List.setIfInBounds_toArray, List.set_cons_zero, List.set_cons_succ]
        clear b9 r9 O9 O9s g9 hrv Ia Id hK K
        go_wp2
        go_roundw
        case rel => exact ⟨k + 1, _, by omega, by go_num, by rw [HK.out]; exact I9⟩
        case measure => simp [intOf]; omega
    · have hkk : k = V.length := by omega
      subst hkk
      obtain ⟨A20, c20, ev, -, -, -⟩ := rowsV_of_own I.out.own
      cases ev
      have J0 : Hid (NxI w wr w.heap.size (w.heap.size + 1) w1.heap.size #[.int .u8 g, .int .u32 N, .slice A V.length c] #[.int .u8 0, .int .u32 0, .slice none 0 0] g (N + 1) (addAll (kept V drop V.length) (add.take 0)) (.slice A20 (addAll (kept V drop V.length) (add.take 0)).length c20)) := I
      clear I
      go_wp2
      clear e2
      go_loopw [10] (fun i wx => ∃ (j : Nat) (A2 : Option Addr) (c2 : Nat), j ≤ add.length ∧ i = .int .i64 j ∧ Hid (NxI w wx w.heap.size (w.heap.size + 1) w1.heap.size #[.int .u8 g, .int .u32 N, .slice A V.length c] #[.int .u8 0, .int .u32 0, .slice none 0 0] g (N + 1) (addAll (kept V drop V.length) (add.take j)) (.slice A2 (addAll (kept V drop V.length) (add.take j)).length c2))) (fun i _ => add.length - (intOf i).toNat)
      case atStart => exact ⟨0, A20, c20, by omega, rfl, J0⟩
      case round =>
        clear J0
        obtain ⟨j, A2, c2, hj, rfl, I⟩ := hrel
        by_cases hlt : j < add.length
        · obtain ⟨b3, o3, rfl, hb3, C3⟩ := HT.out.at_ hlt
          have HX := Lib.hid (show add[j]? = some add[j] from List.getElem?_eq_getElem hlt)
          have HStep := Lib.hid (addAll_take (W := kept V drop V.length) HX.out)
          have hML : Hid ((addAll (kept V drop V.length) (add.take j)).length ≤ 80) := Lib.hid (by
            have h1 := addAll_len (kept V drop V.length) (add.take j)
            have h2 := kept_len V drop V.length
            have h3 : (add.take j).length ≤ j := by simp; omega
            omega)
          generalize addAll (kept V drop V.length) (add.take j) = M at *
          generalize add[j] = x at *
          have HCx := Lib.hid C3
          have hbx := Lib.hid hb3
          clear C3
          have hji : (j : Int) < (add.length : Int) := by omega
          have hj0 : (0 : Int) ≤ (j : Int) := by omega
          have hci : (add.length : Int) ≤ (e : Int) := by omega
          go_wp2
          go_loopw [11, 12] (fun at_ i wx => ∃ k2 : Nat, k2 ≤ M.length ∧ i = .int .i64 k2 ∧ at_ = .int .i64 (la M x.n k2) ∧ Hid (NxI w wx w.heap.size (w.heap.size + 1) w1.heap.size #[.int .u8 g, .int .u32 N, .slice A V.length c] #[.int .u8 0, .int .u32 0, .slice none 0 0] g (N + 1) M (.slice A2 M.length c2))) (fun _ i _ => M.length - (intOf i).toNat)
          case atStart => exact ⟨0, by omega, rfl, rfl, I⟩
          case round =>
            clear I
            obtain ⟨k2, hk2, rfl, rfl, J⟩ := hrel
            have e8 : wr.cell? ⟨w1.heap.size, 2, none⟩ = some (.slice A2 M.length c2) := (cell_of_row _ _ 2 _ _ _ J.out.rw).trans rfl
            have d0 := (HCx.out.below J.out.bel hbx.out).c0
            have d1 := (HCx.out.below J.out.bel hbx.out).c1
            have hml := hML.out
            by_cases hlt2 : k2 < M.length
            · obtain ⟨A3, c3, ev, RM, lm, cm⟩ := rowsV_of_own J.out.own
              cases ev
              obtain ⟨gb, og, rfl, hgb, CM⟩ := RM.at_ hlt2
              obtain ⟨m0, m1⟩ := CM
              have HY := Lib.hid (show M[k2]? = some M[k2] from List.getElem?_eq_getElem hlt2)
              generalize M[k2] = y at *
              clear RM
              unfold maxLen at cm
              have hk2i : (k2 : Int) < (M.length : Int) := by omega
              have hk20 : (0 : Int) ≤ (k2 : Int) := by omega
              have hc2i : (M.length : Int) ≤ (c2 : Int) := by omega
              by_cases he2 : y.n = x.n
              · have HL := Lib.hid (la_hit HY.out he2)
                have heb : (y.n == x.n) = true := by rw [beq_iff_eq]; exact he2
                have HE := Lib.hid he2
                clear he2 d1 m1
                go_wp2
                go_quiet (fail)
                go_wp2
                go_roundw
                case rel => exact ⟨k2 + 1, by omega, by go_num, by rw [HL.out], Lib.hid (J.out.below (by repeat (first | (with_reducible exact Below.refl _ _) | (with_reducible refine Below.drewsN ?_) | (with_reducible refine Below.drew ?_))))⟩
                case measure => simp [intOf]; omega
              · have HL := Lib.hid (la_miss HY.out he2)
                have heb : (y.n == x.n) = false := by rw [beq_eq_false_iff_ne]; exact he2
                clear d1 m1
                go_wp2
                go_quiet (fail)
                go_wp2
                go_roundw
                case rel => exact ⟨k2 + 1, by omega, by go_num, by rw [HL.out], Lib.hid (J.out.below (by repeat (first | (with_reducible exact Below.refl _ _) | (with_reducible refine Below.drewsN ?_) | (with_reducible refine Below.drew ?_))))⟩
                case measure => simp [intOf]; omega
            · have hkk : k2 = M.length := by omega
              subst hkk
              cases hxr : x.r with
              | false =>
                have HA : Hid (addOne M x = M) := Lib.hid (by simp [addOne, hxr])
                have K5 := Lib.hid (fun W => (hxr ▸ K3.out W x : Calls Tryd.prog 25 #[.agg #[.int .u8 x.n, .int .u16 x.l]] W fun e w' => e = .returned (.bool false) ∧ Below W.heap.size W w'))
                clear hxr
                go_wp2_with (go_at_call 25; refine (K5.out _).mono ?_; rintro e5 w5 ⟨rfl, b5⟩
                             have I5 := Lib.hid (J.out.below b5)
                             clear b5 e8 d0 d1)
                go_roundw
                case rel => exact ⟨j + 1, A2, c2, by omega, by go_num, by rw [HStep.out, HA.out]; exact I5⟩
                case measure => simp [intOf]; omega
              | true =>
                have K5 := Lib.hid (fun W => (hxr ▸ K3.out W x : Calls Tryd.prog 25 #[.agg #[.int .u8 x.n, .int .u16 x.l]] W fun e w' => e = .returned (.bool true) ∧ Below W.heap.size W w'))
                by_cases h0 : 0 ≤ la M x.n M.length
                · have HA : Hid (addOne M x = M.set (la M x.n M.length).toNat x) := Lib.hid (by simp [addOne, hxr, h0])
                  have hlt9 := (la_lt M x.n M.length).2
                  clear hxr
                  obtain ⟨z, hz⟩ : ∃ z : Nat, la M x.n M.length = (z : Int) := ⟨(la M x.n M.length).toNat, by omega⟩
                  rw [hz] at h0 hlt9 HA ⊢
                  have hzM : z < M.length := by omega
                  have hza : ((z : Int)).toNat = z := by omega
                  go_wp2_with (go_at_call 25; refine (K5.out _).mono ?_; rintro e5 w5 ⟨rfl, b5⟩
                               have I5 := Lib.hid (J.out.below b5)
                               clear b5 e8 d0 d1)
                  clear J
                  rcases I5.out.own.2 with ⟨hv, hn0⟩ | ⟨gb, cap, cur, hv, -, -, hnc, hcm, -, -⟩
                  · omega
                  cases hv
                  unfold maxLen at hcm
                  have hzi : (z : Int) < (M.length : Int) := by omega
                  have hc2i : (M.length : Int) ≤ (c2 : Int) := by omega
                  refine region_heldT (S := fun W => W.cell? ⟨w1.heap.size, 2, none⟩ = some (.slice (some ⟨gb, 0, none⟩) M.length c2) ∧ True ∧ W.cell? ⟨b3, o3 + j * 2, none⟩ = some (.int .u8 x.n) ∧ W.cell? ⟨b3, o3 + j * 2 + 1, none⟩ = some (.int .u16 x.l)) 8 (by kernel_rfl) (by decide) (fun inv => ?_)
                  change FirstH _ _ _ _ _ _ _ _ _ _ w5.drew
                  have Id : Hid (NxI w w5.drew w.heap.size (w.heap.size + 1) w1.heap.size #[.int .u8 g, .int .u32 N, .slice A V.length c] #[.int .u8 0, .int .u32 0, .slice none 0 0] g (N + 1) M (.slice (some ⟨gb, 0, none⟩) M.length c2)) := Lib.hid (I5.out.below ((Below.refl _ _).drew))
                  generalize w5.drew = wd at Id ⊢
                  have HS : wd.cell? ⟨w1.heap.size, 2, none⟩ = some (.slice (some ⟨gb, 0, none⟩) M.length c2) ∧ True ∧ wd.cell? ⟨b3, o3 + j * 2, none⟩ = some (.int .u8 x.n) ∧ wd.cell? ⟨b3, o3 + j * 2 + 1, none⟩ = some (.int .u16 x.l) := ⟨(cell_of_row _ _ 2 _ _ _ Id.out.rw).trans rfl, trivial, (HCx.out.below Id.out.bel hbx.out).c0, (HCx.out.below Id.out.bel hbx.out).c1⟩
                  refine FirstH.go (i := 0) (v := .pointer (some ⟨w1.heap.size, 2, none⟩)) rfl rfl 86 rfl (Op.fieldAddr 25 (.tmp 8) 2) rfl (by kernel_rfl) (fun _ _ _ h => h) inv (fun W hS => by obtain ⟨s1, s2, s3, s4⟩ := hS; unfold bareO; go_simp) HS (fun inv => ?_)
                  try simp only [Act.put, List.setIfInBounds_toArray, List.set_cons_zero, List.set_cons_succ]
                  refine FirstH.go (i := 1) (v := .slice (some ⟨gb, 0, none⟩) M.length c2) rfl rfl 87 rfl (Op.load 23 (.tmp 86)) rfl (by kernel_rfl) (fun _ _ _ h => h) inv (fun W hS => by obtain ⟨s1, s2, s3, s4⟩ := hS; unfold bareO; go_simp) HS (fun inv => ?_)
                  try simp only [Act.put, List.setIfInBounds_toArray, List.set_cons_zero, List.set_cons_succ]
                  refine FirstH.go (i := 2) (v := .int .i64 z) rfl rfl 88 rfl (Op.move (.tmp 11)) rfl (by kernel_rfl) (fun _ _ _ h => h) inv (fun W hS => by obtain ⟨s1, s2, s3, s4⟩ := hS; unfold bareO; go_simp) HS (fun inv => ?_)
                  try simp only [Act.put, List.setIfInBounds_toArray, List.set_cons_zero, List.set_cons_succ]
                  refine FirstH.go (i := 3) (v := .slice (some ⟨b3, o3, none⟩) add.length e) rfl rfl 89 rfl (Op.move (.tmp 2)) rfl (by kernel_rfl) (fun _ _ _ h => h) inv (fun W hS => by obtain ⟨s1, s2, s3, s4⟩ := hS; unfold bareO; go_simp) HS (fun inv => ?_)
                  try simp only [Act.put, List.setIfInBounds_toArray, List.set_cons_zero, List.set_cons_succ]
                  refine FirstH.go (i := 4) (v := .int .i64 j) rfl rfl 90 rfl (Op.move (.tmp 10)) rfl (by kernel_rfl) (fun _ _ _ h => h) inv (fun W hS => by obtain ⟨s1, s2, s3, s4⟩ := hS; unfold bareO; go_simp) HS (fun inv => ?_)
                  try simp only [Act.put, List.setIfInBounds_toArray, List.set_cons_zero, List.set_cons_succ]
                  refine FirstH.go (i := 5) (v := .pointer (some ⟨b3, o3 + j * 2, none⟩)) rfl rfl 91 rfl (Op.indexAddr 23 (.tmp 89) (.tmp 90)) rfl (by kernel_rfl) (fun _ _ _ h => h) inv (fun W hS => by obtain ⟨s1, s2, s3, s4⟩ := hS; unfold bareO; go_simp) HS (fun inv => ?_)
                  try simp only [Act.put, List.setIfInBounds_toArray, List.set_cons_zero, List.set_cons_succ]
                  refine FirstH.go (i := 6) (v := .agg #[.int .u8 x.n, .int .u16 x.l]) rfl rfl 92 rfl (Op.load 46 (.tmp 91)) rfl (by kernel_rfl) (fun _ _ _ h => h) inv (fun W hS => by obtain ⟨s1, s2, s3, s4⟩ := hS; unfold bareO; go_simp) HS (fun inv => ?_)
                  try simp only [Act.put, List.setIfInBounds_toArray, List.set_cons_zero, List.set_cons_succ]
                  refine FirstH.go (i := 7) (v := .pointer (some ⟨gb, z * 2, none⟩)) rfl rfl 93 rfl (Op.indexAddr 23 (.tmp 87) (.tmp 88)) rfl (by kernel_rfl) (fun _ _ _ h => h) inv (fun W hS => by obtain ⟨s1, s2, s3, s4⟩ := hS; unfold bareO; go_simp) HS (fun inv => ?_)
                  try simp only [Act.put, List.setIfInBounds_toArray, List.set_cons_zero, List.set_cons_succ]
                  clear HS
                  refine ⟨by kernel_rfl, ?_⟩
                  simp only [List.drop_succ_cons, List.drop_zero]
                  obtain ⟨A3, c3, ev, RM, -, -⟩ := rowsV_of_own Id.out.own
                  cases ev
                  obtain ⟨gb', og, eg, -, CM⟩ := RM.at_ hzM
                  cases eg
                  obtain ⟨m0, m1⟩ := CM
                  rw [Nat.zero_add] at m0 m1
                  have f0 := frz_own Id.out.own (z * 2)
                  have f1 := frz_own Id.out.own (z * 2 + 1)
                  have IP := Lib.hid (Id.out.put z hzM x)
                  generalize M[z] = y at *
                  clear RM I5
                  go_wp2
                  go_roundw
                  case rel => exact ⟨j + 1, some ⟨gb, 0, none⟩, c2, by omega, by go_num, by rw [HStep.out, HA.out, hza]; exact IP⟩
                  case measure => simp [intOf]; omega
                · have HA : Hid (addOne M x = M ++ [x]) := Lib.hid (by simp [addOne, hxr, h0])
                  have h0' : la M x.n M.length < 0 := by omega
                  clear hxr h0
                  generalize la M x.n M.length = z at *
                  go_wp2_with (go_at_call 25; refine (K5.out _).mono ?_; rintro e5 w5 ⟨rfl, b5⟩
                               have I5 := Lib.hid (J.out.below b5)
                               clear b5 e8 d0 d1)
                  clear J
                  refine region_heldT (S := fun W => W.cell? ⟨w1.heap.size, 2, none⟩ = some (.slice A2 M.length c2) ∧ True ∧ W.cell? ⟨b3, o3 + j * 2, none⟩ = some (.int .u8 x.n) ∧ W.cell? ⟨b3, o3 + j * 2 + 1, none⟩ = some (.int .u16 x.l)) 7 (by kernel_rfl) (by decide) (fun inv => ?_)
                  change FirstH _ _ _ _ _ _ _ _ _ _ w5.drew
                  have Id : Hid (NxI w w5.drew w.heap.size (w.heap.size + 1) w1.heap.size #[.int .u8 g, .int .u32 N, .slice A V.length c] #[.int .u8 0, .int .u32 0, .slice none 0 0] g (N + 1) (M) (.slice A2 M.length c2)) := Lib.hid (I5.out.below ((Below.refl _ _).drew))
                  generalize w5.drew = wd at Id ⊢
                  have HS : wd.cell? ⟨w1.heap.size, 2, none⟩ = some (.slice A2 M.length c2) ∧ True ∧ wd.cell? ⟨b3, o3 + j * 2, none⟩ = some (.int .u8 x.n) ∧ wd.cell? ⟨b3, o3 + j * 2 + 1, none⟩ = some (.int .u16 x.l) := ⟨(cell_of_row _ _ 2 _ _ _ Id.out.rw).trans rfl, trivial, (HCx.out.below Id.out.bel hbx.out).c0, (HCx.out.below Id.out.bel hbx.out).c1⟩
                  refine FirstH.go (i := 0) (v := .pointer (some ⟨w1.heap.size, 2, none⟩)) rfl rfl 94 rfl (Op.fieldAddr 25 (.tmp 8) 2) rfl (by kernel_rfl) (fun _ _ _ h => h) inv (fun W hS => by obtain ⟨s1, s2, s3, s4⟩ := hS; unfold bareO; go_simp) HS (fun inv => ?_)
                  try simp only [Act.put, List.setIfInBounds_toArray, List.set_cons_zero, List.set_cons_succ]
                  refine FirstH.go (i := 1) (v := .slice A2 M.length c2) rfl rfl 95 rfl (Op.load 23 (.tmp 94)) rfl (by kernel_rfl) (fun _ _ _ h => h) inv (fun W hS => by obtain ⟨s1, s2, s3, s4⟩ := hS; unfold bareO; go_simp) HS (fun inv => ?_)
                  try simp only [Act.put, List.setIfInBounds_toArray, List.set_cons_zero, List.set_cons_succ]
                  refine FirstH.go (i := 2) (v := .slice (some ⟨b3, o3, none⟩) add.length e) rfl rfl 96 rfl (Op.move (.tmp 2)) rfl (by kernel_rfl) (fun _ _ _ h => h) inv (fun W hS => by obtain ⟨s1, s2, s3, s4⟩ := hS; unfold bareO; go_simp) HS (fun inv => ?_)
                  try simp only [Act.put, List.setIfInBounds_toArray, List.set_cons_zero, List.set_cons_succ]
                  refine FirstH.go (i := 3) (v := .int .i64 j) rfl rfl 97 rfl (Op.move (.tmp 10)) rfl (by kernel_rfl) (fun _ _ _ h => h) inv (fun W hS => by obtain ⟨s1, s2, s3, s4⟩ := hS; unfold bareO; go_simp) HS (fun inv => ?_)
                  try simp only [Act.put, List.setIfInBounds_toArray, List.set_cons_zero, List.set_cons_succ]
                  refine FirstH.go (i := 4) (v := .pointer (some ⟨b3, o3 + j * 2, none⟩)) rfl rfl 98 rfl (Op.indexAddr 23 (.tmp 96) (.tmp 97)) rfl (by kernel_rfl) (fun _ _ _ h => h) inv (fun W hS => by obtain ⟨s1, s2, s3, s4⟩ := hS; unfold bareO; go_simp) HS (fun inv => ?_)
                  try simp only [Act.put, List.setIfInBounds_toArray, List.set_cons_zero, List.set_cons_succ]
                  refine FirstH.go (i := 5) (v := .agg #[.int .u8 x.n, .int .u16 x.l]) rfl rfl 99 rfl (Op.load 46 (.tmp 98)) rfl (by kernel_rfl) (fun _ _ _ h => h) inv (fun W hS => by obtain ⟨s1, s2, s3, s4⟩ := hS; unfold bareO; go_simp) HS (fun inv => ?_)
                  try simp only [Act.put, List.setIfInBounds_toArray, List.set_cons_zero, List.set_cons_succ]
                  clear HS
                  have Ia : Hid (NxI w (wd.alloc (.cells #[.int .u8 x.n, .int .u16 x.l] 46)) w.heap.size (w.heap.size + 1) w1.heap.size #[.int .u8 g, .int .u32 N, .slice A V.length c] #[.int .u8 0, .int .u32 0, .slice none 0 0] g (N + 1) (M) (.slice A2 M.length c2)) := Lib.hid (Id.out.below ((Below.refl _ _).alloc (Nat.le_refl _) _))
                  have hrv := rowsV_new wd x 46
                  refine FirstH.only (i := 6) (by kernel_rfl) (by decide) inv (fun inv => wpOp_run (i := 6) (v := .slice (some ⟨wd.heap.size, 0, none⟩) 1 1) (w' := wd.alloc (.cells #[.int .u8 x.n, .int .u16 x.l] 46)) rfl rfl 100 rfl (Op.buildSlice 23 1 #[(0, .tmp 99)]) rfl (by unfold bareO; go_simp) ?_)
                  refine ⟨⟨(cell_of_row _ _ 2 _ _ _ Ia.out.rw).trans rfl, trivial, (HCx.out.below Ia.out.bel hbx.out).c0, (HCx.out.below Ia.out.bel hbx.out).c1⟩, ?_⟩
                  try simp only [Act.put, List.setIfInBounds_toArray, List.set_cons_zero, List.set_cons_succ]
                  generalize wd.alloc (.cells #[.int .u8 x.n, .int .u16 x.l] 46) = wa at Ia hrv ⊢
                  refine ⟨by kernel_rfl, ?_⟩
                  simp only [List.drop_succ_cons, List.drop_zero]
                  refine wpList_step fun K hK => stepAppR rfl (.tmp 95) (.tmp 100) rfl (w1.heap.size + 1) (.slice A2 M.length c2) (M).length (cellsV (M)) rfl Ia.out.own ⟨wd.heap.size, 0, none⟩ [x] 1 1 _ rfl rfl hrv (by have := hML.out; simp; omega) (by have := Ia.out.lt; omega) ?_
                  intro v9 w9 O9 g9
                  have b9 : Below (w1.heap.size + 1) wa w9 := Below.grown (Below.refl _ _) g9 (by have := Ia.out.lt; omega) fun j hj => (Ia.out.own.lt j hj).1
                  have r9 := (b9.block w1.heap.size (by omega)).trans Ia.out.rw
                  have c9 : w9.cell? ⟨w1.heap.size, 2, none⟩ = some (.slice A2 M.length c2) := (cell_of_row _ _ 2 _ _ _ r9).trans rfl
                  have f9 := frz_row 2 r9
                  have O9s : w9.ownsRow (w1.heap.size + 1) 46 2 v9 (M ++ [x]).length (cellsV (M ++ [x])) := by
                    rw [List.length_append, cellsV_snoc]
                    exact O9
                  obtain ⟨A9, n9, rfl, -, -, -⟩ := rowsV_of_own O9s
                  have I9 := Lib.hid (Ia.out.app g9 O9s)
                  rw [show (M ++ [x]).length = (M).length + 1 by simp] at I9
                  rw [show (M ++ [x]).length = (M).length + 1 by simp]
                  refine hK _ _ ?_
                  try simp only [Act.put, List.setIfInBounds_toArray, List.set_cons_zero, List.set_cons_succ]
                  clear b9 r9 O9 O9s g9 hrv Ia Id hK K
                  go_wp2
                  go_roundw
                  case rel => exact ⟨j + 1, _, _, by omega, by go_num, by rw [HStep.out, HA.out, show (M ++ [x]).length = M.length + 1 by simp]; exact I9⟩
                  case measure => simp [intOf]; omega
        · have hjj : j = add.length := by omega
          subst hjj
          have hMM : Hid (addAll (kept V drop V.length) (add.take add.length) = nxM V drop add) := Lib.hid (by rw [List.take_length]; rfl)
          have hML : Hid ((nxM V drop add).length ≤ 80) := Lib.hid (by
            have h1 := addAll_len (kept V drop V.length) add
            have h2 := kept_len V drop V.length
            show (addAll (kept V drop V.length) add).length ≤ 80
            omega)
          rw [hMM.out] at I
          have hC : Hid (nxC g N V drop add = if quo V (nxM V drop add) = true then (if 8 < (nxM V drop add).length then 11 else 0) else 17) := Lib.hid (by unfold nxC; rw [if_pos HOK.out, if_neg HNN.out])
          have hGNV : Hid (nxG g N V drop add = (if nxC g N V drop add = 0 then g else 0) ∧ nxN g N V drop add = (if nxC g N V drop add = 0 then N + 1 else 0) ∧ nxV g N V drop add = (if nxC g N V drop add = 0 then nxM V drop add else [])) := Lib.hid ⟨rfl, rfl, rfl⟩
          generalize nxM V drop add = M at *
          have e0 : wr.cell? ⟨w.heap.size, 0, none⟩ = some (.int .u8 g) := (cell_of_row _ _ 0 _ _ _ I.out.rv).trans rfl
          have e1 : wr.cell? ⟨w.heap.size, 1, none⟩ = some (.int .u32 N) := (cell_of_row _ _ 1 _ _ _ I.out.rv).trans rfl
          have e2 : wr.cell? ⟨w.heap.size, 2, none⟩ = some (.slice A V.length c) := (cell_of_row _ _ 2 _ _ _ I.out.rv).trans rfl
          have e8 : wr.cell? ⟨w1.heap.size, 2, none⟩ = some (.slice A2 M.length c2) := (cell_of_row _ _ 2 _ _ _ I.out.rw).trans rfl
          obtain ⟨A3, c3, ev, RM, lm, cm⟩ := rowsV_of_own I.out.own
          cases ev
          have K5 := Lib.hid (K4.out wr A2 M c2 I.out.bel RM lm cm)
          clear RM
          have hml := hML.out
          cases hq : quo V M with
          | false =>
            have hCC : nxC g N V drop add = 17 := by rw [hC.out, hq]; rfl
            have hG : nxG g N V drop add = 0 := by rw [hGNV.out.1, hCC]; rfl
            have hN9 : nxN g N V drop add = 0 := by rw [hGNV.out.2.1, hCC]; rfl
            have hV9 : nxV g N V drop add = [] := by rw [hGNV.out.2.2, hCC]; rfl
            go_wp2_with (go_at_call 26; refine K5.out.mono ?_; rw [hq]; rintro e5 w5 ⟨rfl, b5⟩
                         have I5 := Lib.hid (I.out.below b5)
                         clear b5 e0 e1 e2 e8
                         have g0 : w5.cell? ⟨w1.heap.size, 0, none⟩ = some (.int .u8 g) := (cell_of_row _ _ 0 _ _ _ I5.out.rw).trans rfl
                         have g1 : w5.cell? ⟨w1.heap.size, 1, none⟩ = some (.int .u32 (N + 1)) := (cell_of_row _ _ 1 _ _ _ I5.out.rw).trans rfl
                         have g2 : w5.cell? ⟨w1.heap.size, 2, none⟩ = some (.slice A2 M.length c2) := (cell_of_row _ _ 2 _ _ _ I5.out.rw).trans rfl
                         have q0 : w5.cell? ⟨w.heap.size + 1, 0, none⟩ = some (.int .u8 0) := (cell_of_row _ _ 0 _ _ _ I5.out.rr).trans rfl
                         have q1 : w5.cell? ⟨w.heap.size + 1, 1, none⟩ = some (.int .u32 0) := (cell_of_row _ _ 1 _ _ _ I5.out.rr).trans rfl
                         have q2 : w5.cell? ⟨w.heap.size + 1, 2, none⟩ = some (.slice none 0 0) := (cell_of_row _ _ 2 _ _ _ I5.out.rr).trans rfl
                         have p0 := frz_row 0 I5.out.rr
                         have p1 := frz_row 1 I5.out.rr
                         have p2 := frz_row 2 I5.out.rr
                         skip)
            have ls : w.heap.size + 1 < w5.heap.size := by have := I5.out.lt; have := I5.out.lr; omega
            refine bodyPost_ret (v := .tuple #[.agg #[.int .u8 0, .int .u32 0, .slice none 0 0], .int .i64 17]) (by simp [results, Tryd.results10, go_sem]; try go_simp) rfl ⟨_, by rw [hG, hN9, hCC], ?_, ?_⟩
            · rw [hV9]
              exact ⟨rfl, .inl ⟨rfl, rfl⟩⟩
            · exact ((I5.out.bel.setCell (by simp) _).setCell (by simp) _).setCell (by simp) _
          | true =>
            by_cases h8 : 8 < M.length
            · have hCC : nxC g N V drop add = 11 := by rw [hC.out, hq, if_pos rfl, if_pos h8]
              have hG : nxG g N V drop add = 0 := by rw [hGNV.out.1, hCC]; rfl
              have hN9 : nxN g N V drop add = 0 := by rw [hGNV.out.2.1, hCC]; rfl
              have hV9 : nxV g N V drop add = [] := by rw [hGNV.out.2.2, hCC]; rfl
              have h8i : (8 : Int) < (M.length : Int) := by omega
              go_wp2_with (go_at_call 26; refine K5.out.mono ?_; rw [hq]; rintro e5 w5 ⟨rfl, b5⟩
                           have I5 := Lib.hid (I.out.below b5)
                           clear b5 e0 e1 e2 e8
                           have g0 : w5.cell? ⟨w1.heap.size, 0, none⟩ = some (.int .u8 g) := (cell_of_row _ _ 0 _ _ _ I5.out.rw).trans rfl
                           have g1 : w5.cell? ⟨w1.heap.size, 1, none⟩ = some (.int .u32 (N + 1)) := (cell_of_row _ _ 1 _ _ _ I5.out.rw).trans rfl
                           have g2 : w5.cell? ⟨w1.heap.size, 2, none⟩ = some (.slice A2 M.length c2) := (cell_of_row _ _ 2 _ _ _ I5.out.rw).trans rfl
                           have q0 : w5.cell? ⟨w.heap.size + 1, 0, none⟩ = some (.int .u8 0) := (cell_of_row _ _ 0 _ _ _ I5.out.rr).trans rfl
                           have q1 : w5.cell? ⟨w.heap.size + 1, 1, none⟩ = some (.int .u32 0) := (cell_of_row _ _ 1 _ _ _ I5.out.rr).trans rfl
                           have q2 : w5.cell? ⟨w.heap.size + 1, 2, none⟩ = some (.slice none 0 0) := (cell_of_row _ _ 2 _ _ _ I5.out.rr).trans rfl
                           have p0 := frz_row 0 I5.out.rr
                           have p1 := frz_row 1 I5.out.rr
                           have p2 := frz_row 2 I5.out.rr
                           skip)
              have ls : w.heap.size + 1 < w5.heap.size := by have := I5.out.lt; have := I5.out.lr; omega
              refine bodyPost_ret (v := .tuple #[.agg #[.int .u8 0, .int .u32 0, .slice none 0 0], .int .i64 11]) (by simp [results, Tryd.results10, go_sem]; try go_simp) rfl ⟨_, by rw [hG, hN9, hCC], ?_, ?_⟩
              · rw [hV9]
                exact ⟨rfl, .inl ⟨rfl, rfl⟩⟩
              · exact ((I5.out.bel.setCell (by simp) _).setCell (by simp) _).setCell (by simp) _
            · have hCC : nxC g N V drop add = 0 := by rw [hC.out, hq, if_pos rfl, if_neg h8]
              have hG : nxG g N V drop add = g := by rw [hGNV.out.1, hCC]; rfl
              have hN9 : nxN g N V drop add = N + 1 := by rw [hGNV.out.2.1, hCC]; rfl
              have hV9 : nxV g N V drop add = M := by rw [hGNV.out.2.2, hCC]; rfl
              have h8i : (M.length : Int) ≤ 8 := by omega
              go_wp2_with (go_at_call 26; refine K5.out.mono ?_; rw [hq]; rintro e5 w5 ⟨rfl, b5⟩
                           have I5 := Lib.hid (I.out.below b5)
                           clear b5 e0 e1 e2 e8
                           have g0 : w5.cell? ⟨w1.heap.size, 0, none⟩ = some (.int .u8 g) := (cell_of_row _ _ 0 _ _ _ I5.out.rw).trans rfl
                           have g1 : w5.cell? ⟨w1.heap.size, 1, none⟩ = some (.int .u32 (N + 1)) := (cell_of_row _ _ 1 _ _ _ I5.out.rw).trans rfl
                           have g2 : w5.cell? ⟨w1.heap.size, 2, none⟩ = some (.slice A2 M.length c2) := (cell_of_row _ _ 2 _ _ _ I5.out.rw).trans rfl
                           have q0 : w5.cell? ⟨w.heap.size + 1, 0, none⟩ = some (.int .u8 0) := (cell_of_row _ _ 0 _ _ _ I5.out.rr).trans rfl
                           have q1 : w5.cell? ⟨w.heap.size + 1, 1, none⟩ = some (.int .u32 0) := (cell_of_row _ _ 1 _ _ _ I5.out.rr).trans rfl
                           have q2 : w5.cell? ⟨w.heap.size + 1, 2, none⟩ = some (.slice none 0 0) := (cell_of_row _ _ 2 _ _ _ I5.out.rr).trans rfl
                           have p0 := frz_row 0 I5.out.rr
                           have p1 := frz_row 1 I5.out.rr
                           have p2 := frz_row 2 I5.out.rr
                           skip)
              have ls : w.heap.size + 1 < w5.heap.size := by have := I5.out.lt; have := I5.out.lr; omega
              refine bodyPost_ret (v := .tuple #[.agg #[.int .u8 g, .int .u32 (N + 1), .slice A2 M.length c2], .int .i64 0]) (by simp [results, Tryd.results10, go_sem]; try go_simp) rfl ⟨_, by rw [hG, hN9, hCC], ?_, ?_⟩
              · rw [hV9]
                exact own_mono (ownsRow_setCell_below (ownsRow_setCell_below (ownsRow_setCell_below I5.out.own (by have := I5.out.lr; show w.heap.size + 1 < w1.heap.size + 1; omega) _) (by have := I5.out.lr; show w.heap.size + 1 < w1.heap.size + 1; omega) _) (by have := I5.out.lr; show w.heap.size + 1 < w1.heap.size + 1; omega) _) (by have := I5.out.l0; omega)
              · exact ((I5.out.bel.setCell (by simp) _).setCell (by simp) _).setCell (by simp) _

end Go.Proofs.YtgmjhloednmfnaaDoor
