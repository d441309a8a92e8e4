/-
  The program's order: count, by an exact answer. Condition: it lies in memory.
-/
import Derived.Test.YtjdmjiikpnlkjaaRod
import Derived.Deep.MidRow
import Derived.Deep.WholeRow
import Derived.LoopN
namespace Go.Proofs.Ytjdmjiikpnlkjaa
set_option linter.unusedSimpArgs false
set_option linter.unusedVariables false
open Go.RowKit Go.Maps Go.Sort
open V (P2)

theorem intI : (Try.prog.info? 3).map (fun i => (i.zero, i.size, i.bytes)) = some (some (.int .i64 0), 1, 8) := by kernel_rfl
theorem Rd.has_le {W : World} {b m : Nat} {d : Rd} {w : Rw} (h : RQ W b m d w) (p : P2) : d.has p ≤ d.L.length := by
  unfold Rd.has
  have := h.hb
  have := h.ht p
  split <;> omega
theorem Rd.top_le {W : World} {b m : Nat} {d : Rd} {w : Rw} (h : RQ W b m d w) : d.top ≤ d.L.length := by
  unfold Rd.top
  rcases topN_is (fun y => decide (d.maj ≤ d.cnt y)) 400 with e | e
  · rw [e]
    exact Nat.zero_le _
  · generalize topN (fun y => decide (d.maj ≤ d.cnt y)) 400 = t at *
    refine Decidable.byContradiction fun hc => ?_
    have e2 : d.cnt t = 0 := by
      unfold Rd.cnt
      rw [List.length_eq_zero_iff, List.filter_eq_nil_iff]
      intro p hp
      have := Rd.has_le h p
      simp
      omega
    have e3 : d.maj ≤ d.cnt t := by simpa using e
    have : 1 ≤ d.maj := by
      unfold Rd.maj
      omega
    omega
theorem wrapI {z : Int} (h1 : -9223372036854775808 ≤ z) (h2 : z ≤ 9223372036854775807) : IntKind.i64.wrap z = z := by
  unfold IntKind.wrap
  simp [IntKind.bits, IntKind.signed, IntKind.min, IntKind.max]
  omega
theorem own_belowR {W W' : World} {base size n : Nat} {e : TypeId} {v : Value} {xs : List Value} (O : W.ownsRow base e size v n xs) (hb : Below W.heap.size W W') : W'.ownsRow base e size v n xs := by
  refine ⟨O.1, ?_⟩
  rcases O.2 with h | ⟨g, cap, cur, h1, h2, h3, h4⟩
  · exact .inl h
  · exact .inr ⟨g, cap, cur, h1, h2, (hb.block g (heap_lt h3)).trans h3, h4⟩
set_option maxRecDepth 100000 in
set_option maxHeartbeats 2000000 in
theorem rCount (W : World) (b m : Nat) (lb : Option Nat) (d : Rd) (h : RP W b m lb d) :
    Calls Try.prog 41 #[.pointer (some ⟨b, 0, none⟩)] W fun e W' => e = .returned (.tuple #[]) ∧ RP W' b m lb d.counted ∧ KP (fun j => j = b) W W' := by
  have HRP := Lib.hid h
  obtain ⟨⟨mv, lv, Lg⟩, hlb, h⟩ := h
  obtain ⟨A, c, hmv, hr, hc, hm⟩ := h.rows
  dsimp only at hmv hlb
  subst hmv
  have HQ := Lib.hid h
  have h8 := h.mem8
  obtain ⟨base, hbase⟩ : ∃ k, W.heap.size = k := ⟨_, rfl⟩
  have hbb : b < base := by rw [← hbase]; exact h.ltb
  have KH : Hid (∀ u p, Rg2 p → Below base W u → Calls Try.prog 43 #[.pointer (some ⟨b, 0, none⟩), .agg #[.int .u8 p.n, .int .u16 p.l]] u fun e W' => e = .returned (.int .i64 (d.has p)) ∧ Below u.heap.size u W') := Lib.hid fun u p rp hu => rHas u b m lb d (HRP.out.below (hbase ▸ hu)) p rp
  have RR : Hid (V.RowsV W base A d.M) := Lib.hid (hbase ▸ hr)
  have RM := Lib.hid h.rM
  obtain ⟨nM, hnM⟩ : ∃ n, d.M.length = n := ⟨_, rfl⟩
  have HNM := Lib.hid hnM
  have c2 := cell_of h.blk 2 (.slice A nM c) (by rw [← hnM]; rfl)
  have RB : Hid (W.heap[b]? = some (.cells #[.int .u8 d.g, .int .u32 d.N, .slice A nM c, .int .u8 d.me.n, .int .u16 d.me.l, lv, .int .i64 d.base, .int .i64 d.commit, .bool d.shut, .map (some m)] 81 (0, 0))) := Lib.hid (by rw [← hnM]; exact h.blk)
  rw [hnM] at hc h8
  unfold maxLen at hm
  obtain ⟨i0, hi0, hz0, hz1, hz2⟩ := info_parts intI
  have q : ∀ (W : World) (ty : TypeId), (Builtin.len_ #[43] ty #[.slice A nM c]).run Try.prog W = .ok (.int .i64 nM) W := fun W ty => by first | rfl | go_simp
  have B00 : Hid (Below base W W) := Lib.hid (hbase ▸ Below.refl _ _)
  have HBB := Lib.hid hbb
  have HSZ := Lib.hid hbase
  have H8 := Lib.hid h8
  clear h hr hbase hnM hbb h8
  go_enter Try.func41, Try.ntmps41
  go_wp2_with fail
  go_loopw [2, 11] (fun v i wx => ∃ k : Nat, i = .int .i64 k ∧ k ≤ nM ∧ Hid (wx.ownsRow base 3 1 v k (((d.M.take k).map d.has).map fun n : Nat => Value.int .i64 n)) ∧ Hid (Below base W wx)) (fun _ i _ => nM - (intOf i).toNat)
  case atStart => exact ⟨0, rfl, Nat.zero_le _, Lib.hid ⟨by simp, .inl ⟨rfl, rfl⟩⟩, B00⟩
  case round =>
    obtain ⟨k, rfl, hk, O, BB⟩ := hrel
    obtain ⟨u, hu⟩ : ∃ z : World, z = wr := ⟨_, rfl⟩
    subst hu
    by_cases hkn : k < nM
    · as_aux_lemma =>
      skip
      have hkM : k < d.M.length := by rw [HNM.out]; exact hkn
      obtain ⟨ba, oa, rfl, hba, C⟩ := RR.out.at_ hkM
      obtain ⟨c0, c1⟩ := C.below BB.out hba
      have hx : d.M[k]? = some d.M[k] := List.getElem?_eq_getElem hkM
      have HX := Lib.hid hx
      have HRX := Lib.hid (RM.out _ (List.getElem_mem hkM))
      generalize d.M[k] = x at *
      have hji : (k : Int) < (nM : Int) := by omega
      have hj0 : (0 : Int) ≤ (k : Int) := by omega
      have hci : (nM : Int) ≤ (c : Int) := by omega
      have hub : base ≤ u.heap.size := by have := BB.out.size; have := HSZ.out; omega
      have BA := Lib.hid (BB.out.alloc hub (.cells #[.int .u8 x.n, .int .u16 x.l] 49))
      have HUB := Lib.hid hub
      clear hub
      clear hkn hkM C hx hba
      go_wp2_with fail
      refine (KH.out _ x HRX.out BA.out).mono ?_
      rintro e w2 ⟨rfl, b2⟩
      have bu2 : Below u.heap.size u w2 := ((Below.refl _ _).alloc (Nat.le_refl _) _).trans (b2.mono (by simp))
      have O2 := Lib.hid (own_belowR O.out bu2)
      have B2 := Lib.hid (BB.out.trans (bu2.mono HUB.out))
      have HKK := Lib.hid hk
      obtain ⟨n, hn⟩ : ∃ n, d.has x = n := ⟨_, rfl⟩
      rw [hn]
      have HN := Lib.hid hn
      obtain ⟨w3, hw3⟩ : ∃ z, w2.alloc (.cells #[.int .i64 n] 3) = z := ⟨_, rfl⟩
      have b3 : Below w2.heap.size w2 w3 := by rw [← hw3]; exact (Below.refl _ _).alloc (Nat.le_refl _) _
      have r3 : w3.heap[w2.heap.size]? = some (.cells #[.int .i64 n] 3 (0, 0)) := by rw [← hw3]; exact heap_alloc_new _ _
      have O3 := Lib.hid (own_belowR O2.out b3)
      have B3 := Lib.hid (B2.out.trans (b3.mono (by have := B2.out.size; have := HSZ.out; omega)))
      have R3 := Lib.hid r3
      have HW3 := Lib.hid hw3
      have HBW : Hid (base ≤ w3.heap.size) := Lib.hid (by have := B3.out.size; have := HSZ.out; omega)
      clear b2 bu2 b3 r3 hw3 hn
      go_wp2_with (first
        | (rw [HW3.out])
        | (at_builtin
           refine wpList_append_own _ rfl (.tmp 15) (.tmp 19) 30 rfl base 3 i0 _ 1 8 Try.underlying30 hi0 hz0 hz1 hz2 rfl (by decide) _ k _ rfl O3.out ⟨w2.heap.size, 0, none⟩ 1 1 [.int .i64 n] rfl rfl (fun j v hj => ?qc) (by intro v hv; simp at hv; subst hv; rfl) (by have := H8.out; have := HKK.out; unfold maxLen; omega) (by have := H8.out; have := HKK.out; omega) HBW.out ?_
           case qc =>
             have hj0 : j = 0 := by
               have := (List.getElem?_eq_some_iff.1 hj).1
               simp at this
               omega
             subst hj0
             simp at hj
             subst hj
             exact cell_of R3.out 0 _ rfl
           rintro v4 w4 o4 g4 -
           have O4 := Lib.hid o4
           have B4 : Hid (Below base W w4) := Lib.hid (B3.out.grown g4 HBW.out fun j hj => (O3.out.lt j hj).1)
           clear o4 g4)
        | fail)
      go_roundw
      case rel => exact ⟨k + 1, by go_num, by omega, Lib.hid (by
        have e : (d.M.take (k + 1)).map d.has = (d.M.take k).map d.has ++ [n] := by rw [List.take_add_one, HX.out, List.map_append]; simp [HN.out]
        rw [e, List.map_append]
        exact O4.out), B4⟩
      case measure => simp [intOf]; omega
    · obtain rfl : nM = k := by omega
      have hk1 : ¬ (nM : Int) < (nM : Int) := by omega
      have hX : ((d.M.take nM).map d.has) = d.M.map d.has := by rw [← HNM.out, List.take_length]
      rw [hX] at O
      have HXL : Hid ((d.M.map d.has).length = nM) := Lib.hid (by rw [List.length_map]; exact HNM.out)
      have hne : d.M.map d.has ≠ [] := fun e => by
        have h1 := HXL.out
        have h2 := H8.out
        rw [e] at h1
        simp at h1
        omega
      have KS : Hid (Calls Try.prog 61 #[u2] u fun e w' => e = .returned (.tuple #[]) ∧ w'.ownsRow base 3 1 u2 nM ((srt (d.M.map d.has)).map (Value.int .i64)) ∧ Below base u w') := Lib.hid (by
        have := sortC (d.M.map d.has) base u u2 (by rw [HXL.out]; exact O.out) hne (by rw [HXL.out]; have := H8.out; omega)
        rwa [HXL.out] at this)
      clear hX hne hk
      go_wp2_with fail
      refine KS.out.mono ?_
      rintro e w1 ⟨rfl, o1, b1⟩
      have B1 := Lib.hid (BB.out.trans b1)
      have O1 := Lib.hid o1
      clear b1 o1
      have hv : ∃ g cap, u2 = .slice (some ⟨g, 0, none⟩) nM cap ∧ nM ≤ cap ∧ cap ≤ maxLen ∧ base ≤ g := by
        rcases O1.out.2 with ⟨_, h0⟩ | ⟨g, cap, cur, h1, hb, hg, hn, hm, _⟩
        · have := H8.out
          omega
        · exact ⟨g, cap, h1, hn, hm, hb⟩
      obtain ⟨g, cap, rfl, hcp, hcm, hbg⟩ := hv
      obtain ⟨mj, hmj⟩ : ∃ mj : Nat, mj = nM / 2 + 1 := ⟨_, rfl⟩
      have hmj2 : 1 ≤ mj ∧ mj ≤ nM := by have := H8.out; omega
      obtain ⟨tp, htp⟩ : ∃ t, d.top = t := ⟨_, rfl⟩
      have ht : (srt (d.M.map d.has))[nM - mj]? = some ((tp : Nat) : Int) := by
        have := Rd.srt_top d (by have := HNM.out; have := H8.out; omega) (fun p _ => Nat.le_trans (Rd.has_le HQ.out p) HQ.out.few)
        rw [show d.maj = mj by unfold Rd.maj; rw [HNM.out, hmj], HNM.out, htp] at this
        exact this
      have hcl : w1.cell? ⟨g, nM - mj, none⟩ = some (.int .i64 tp) := by
        have := RowO.cells (RowO.of_owns O1.out) (nM - mj) (.int .i64 tp) (by rw [List.getElem?_map, ht]; rfl)
        rwa [Nat.zero_add] at this
      have hglt : g < w1.heap.size := (O1.out.lt g rfl).2
      have KMJ : Hid (∀ u, Calls Try.prog 62 #[.agg #[.int .u8 d.g, .int .u32 d.N, .slice A nM c]] u fun e W' => e = .returned (.int .i64 mj) ∧ Below u.heap.size u W') := Lib.hid fun u => by
        rw [hmj]
        refine (V.majO d.g d.N A nM c u hc (by unfold maxLen; omega)).mono ?_
        rintro e w' ⟨rfl, h⟩
        exact ⟨by simp, h⟩
      have hts : tp ≤ 400 := by rw [← htp]; exact topN_le _ _
      have hcs : d.commit ≤ 400 := Nat.le_trans HQ.out.hc HQ.out.few
      have R1 : Hid (w1.drew.heap[b]? = some (.cells #[.int .u8 d.g, .int .u32 d.N, .slice A nM c, .int .u8 d.me.n, .int .u16 d.me.l, lv, .int .i64 d.base, .int .i64 d.commit, .bool d.shut, .map (some m)] 81 (0, 0)) ∧ w1.drew.cell? ⟨g, nM - mj, none⟩ = some (.int .i64 tp) ∧ g < w1.drew.heap.size) := Lib.hid ⟨(B1.out.block b HBB.out).trans RB.out, hcl, hglt⟩
      have B1d : Hid (Below base W w1.drew) := Lib.hid B1.out.drew
      have HTP := Lib.hid htp
      have q3 : ∀ (W : World) (ty : TypeId), (Builtin.len_ #[30] ty #[.slice (some ⟨g, 0, none⟩) nM cap]).run Try.prog W = .ok (.int .i64 nM) W := fun W ty => by first | rfl | go_simp
      have q4 : ∀ (W : World) (ty : TypeId), (Builtin.max_ #[3, 3] ty #[.int .i64 d.commit, .int .i64 tp]).run Try.prog W = .ok (.int .i64 (max d.commit tp : Nat)) W := fun W ty => by go_simp; omega
      unfold maxLen at hcm
      clear hcl ht hglt htp hmj hbg hk1
      go_wp2_with fail
      refine region_heldT (S := fun u => u.heap[b]? = some (.cells #[.int .u8 d.g, .int .u32 d.N, .slice A nM c, .int .u8 d.me.n, .int .u16 d.me.l, lv, .int .i64 d.base, .int .i64 d.commit, .bool d.shut, .map (some m)] 81 (0, 0)) ∧ u.cell? ⟨g, nM - mj, none⟩ = some (.int .i64 tp) ∧ g < u.heap.size) 17 (by kernel_rfl) (by decide) (fun inv => ?_)
      have HS := R1.out
      change FirstH _ _ _ _ _ _ _ _ _ _ w1.drew
      generalize w1.drew = wd at *
      refine FirstH.go (i := 0) (v := .pointer (some ⟨b, 0, none⟩)) rfl rfl 24 rfl (Op.move (Operand.tmp 0)) rfl (by kernel_rfl) (fun _ _ _ h => h) inv (fun W hS => by unfold bareO; go_simp) HS (fun inv => ?_)
      try simp only [Act.put, List.setIfInBounds_toArray, List.set_cons_zero, List.set_cons_succ]
      refine FirstH.go (i := 1) (v := .pointer (some ⟨b, 0, none⟩)) rfl rfl 25 rfl (Op.move (Operand.tmp 0)) rfl (by kernel_rfl) (fun _ _ _ h => h) inv (fun W hS => by unfold bareO; go_simp) HS (fun inv => ?_)
      try simp only [Act.put, List.setIfInBounds_toArray, List.set_cons_zero, List.set_cons_succ]
      refine FirstH.go (i := 2) (v := .pointer (some ⟨b, 0, none⟩)) rfl rfl 26 rfl (Op.nilCheck (Operand.tmp 25)) rfl (by kernel_rfl) (fun _ _ _ h => h) inv (fun W hS => by unfold bareO; go_simp) HS (fun inv => ?_)
      try simp only [Act.put, List.setIfInBounds_toArray, List.set_cons_zero, List.set_cons_succ]
      refine FirstH.go (i := 3) (v := .pointer (some ⟨b, 7, none⟩)) rfl rfl 27 rfl (Op.fieldAddr 81 (Operand.tmp 26) 4) rfl (by kernel_rfl) (fun _ _ _ h => h) inv (fun W hS => by unfold bareO; go_simp) HS (fun inv => ?_)
      try simp only [Act.put, List.setIfInBounds_toArray, List.set_cons_zero, List.set_cons_succ]
      refine FirstH.go (i := 4) (v := .int .i64 d.commit) rfl rfl 28 rfl (Op.load 3 (Operand.tmp 27)) rfl (by kernel_rfl) (fun _ _ _ h => h) inv (fun W hS => by have k0 := cell_of hS.1 0 (.int .u8 d.g) rfl; have k1 := cell_of hS.1 1 (.int .u32 d.N) rfl; have k2 := cell_of hS.1 2 (.slice A nM c) rfl; have k7 := cell_of hS.1 7 (.int .i64 d.commit) rfl; have kg := hS.2.1; unfold bareO; go_simp) HS (fun inv => ?_)
      try simp only [Act.put, List.setIfInBounds_toArray, List.set_cons_zero, List.set_cons_succ]
      refine FirstH.go (i := 5) (v := .slice (some ⟨g, 0, none⟩) nM cap) rfl rfl 29 rfl (Op.move (Operand.tmp 2)) rfl (by kernel_rfl) (fun _ _ _ h => h) inv (fun W hS => by unfold bareO; go_simp) HS (fun inv => ?_)
      try simp only [Act.put, List.setIfInBounds_toArray, List.set_cons_zero, List.set_cons_succ]
      refine FirstH.go (i := 6) (v := .slice (some ⟨g, 0, none⟩) nM cap) rfl rfl 30 rfl (Op.move (Operand.tmp 2)) rfl (by kernel_rfl) (fun _ _ _ h => h) inv (fun W hS => by unfold bareO; go_simp) HS (fun inv => ?_)
      try simp only [Act.put, List.setIfInBounds_toArray, List.set_cons_zero, List.set_cons_succ]
      refine FirstH.go (i := 7) (v := .int .i64 nM) rfl rfl 31 rfl (Op.call { callee := Callee.builtin Builtin.len, args := #[Operand.tmp 30], argTypes := #[30] }) rfl (by kernel_rfl) (fun _ _ _ h => h) inv (fun W hS => by have q := q3 W; unfold bareO; go_simp) HS (fun inv => ?_)
      try simp only [Act.put, List.setIfInBounds_toArray, List.set_cons_zero, List.set_cons_succ]
      refine FirstH.go (i := 8) (v := .pointer (some ⟨b, 0, none⟩)) rfl rfl 32 rfl (Op.move (Operand.tmp 0)) rfl (by kernel_rfl) (fun _ _ _ h => h) inv (fun W hS => by unfold bareO; go_simp) HS (fun inv => ?_)
      try simp only [Act.put, List.setIfInBounds_toArray, List.set_cons_zero, List.set_cons_succ]
      refine FirstH.go (i := 9) (v := .pointer (some ⟨b, 0, none⟩)) rfl rfl 33 rfl (Op.nilCheck (Operand.tmp 32)) rfl (by kernel_rfl) (fun _ _ _ h => h) inv (fun W hS => by unfold bareO; go_simp) HS (fun inv => ?_)
      try simp only [Act.put, List.setIfInBounds_toArray, List.set_cons_zero, List.set_cons_succ]
      refine FirstH.go (i := 10) (v := .pointer (some ⟨b, 0, none⟩)) rfl rfl 34 rfl (Op.fieldAddr 81 (Operand.tmp 33) 0) rfl (by kernel_rfl) (fun _ _ _ h => h) inv (fun W hS => by unfold bareO; go_simp) HS (fun inv => ?_)
      try simp only [Act.put, List.setIfInBounds_toArray, List.set_cons_zero, List.set_cons_succ]
      refine FirstH.go (i := 11) (v := .agg #[.int .u8 d.g, .int .u32 d.N, .slice A nM c]) rfl rfl 35 rfl (Op.load 45 (Operand.tmp 34)) rfl (by kernel_rfl) (fun _ _ _ h => h) inv (fun W hS => by have k0 := cell_of hS.1 0 (.int .u8 d.g) rfl; have k1 := cell_of hS.1 1 (.int .u32 d.N) rfl; have k2 := cell_of hS.1 2 (.slice A nM c) rfl; have k7 := cell_of hS.1 7 (.int .i64 d.commit) rfl; have kg := hS.2.1; unfold bareO; go_simp) HS (fun inv => ?_)
      try simp only [Act.put, List.setIfInBounds_toArray, List.set_cons_zero, List.set_cons_succ]
      refine FirstH.only (i := 12) (by kernel_rfl) (by decide) inv (fun inv => wpOp_call (i := 12) rfl rfl 36 rfl (Op.call { callee := Callee.value (.func 62), args := #[Operand.tmp 35], argTypes := #[45] }) rfl 62 #[.agg #[.int .u8 d.g, .int .u32 d.N, .slice A nM c]] (by unfold bareO; go_simp) (KMJ.out wd) ?_)
      rintro e w2 ⟨rfl, b2⟩
      have HS2 : w2.heap[b]? = some (.cells #[.int .u8 d.g, .int .u32 d.N, .slice A nM c, .int .u8 d.me.n, .int .u16 d.me.l, lv, .int .i64 d.base, .int .i64 d.commit, .bool d.shut, .map (some m)] 81 (0, 0)) ∧ w2.cell? ⟨g, nM - mj, none⟩ = some (.int .i64 tp) ∧ g < w2.heap.size := ⟨(b2.block b (heap_lt HS.1)).trans HS.1, (b2.cell (p := ⟨g, nM - mj, none⟩) HS.2.2).trans HS.2.1, Nat.lt_of_lt_of_le HS.2.2 b2.size⟩
      have B2 := Lib.hid (B1d.out.trans (b2.mono (by have := B1d.out.size; have := HSZ.out; omega)))
      clear b2 HS
      refine ⟨_, rfl, HS2, ?_⟩
      try simp only [Act.put, List.setIfInBounds_toArray, List.set_cons_zero, List.set_cons_succ]
      refine FirstH.go (i := 13) (v := .int .i64 ((nM - mj : Nat) : Int)) rfl rfl 37 rfl (Op.binOp BinOp.sub 3 (Operand.tmp 31) (Operand.tmp 36) 3) rfl (by kernel_rfl) (fun _ _ _ h => h) inv (fun W hS => by have hmj2 := hmj2; have h8 := H8.out; unfold bareO; go_simp; first | omega | (rw [wrapI (by omega) (by omega)]; omega)) HS2 (fun inv => ?_)
      try simp only [Act.put, List.setIfInBounds_toArray, List.set_cons_zero, List.set_cons_succ]
      refine FirstH.go (i := 14) (v := .pointer (some ⟨g, nM - mj, none⟩)) rfl rfl 38 rfl (Op.indexAddr 30 (Operand.tmp 29) (Operand.tmp 37)) rfl (by kernel_rfl) (fun _ _ _ h => h) inv (fun W hS => by have hlt : nM - mj < nM := (by omega); have hge : ¬ nM ≤ nM - mj := (by omega); unfold bareO; go_simp; try omega) HS2 (fun inv => ?_)
      try simp only [Act.put, List.setIfInBounds_toArray, List.set_cons_zero, List.set_cons_succ]
      refine FirstH.go (i := 15) (v := .int .i64 tp) rfl rfl 39 rfl (Op.load 3 (Operand.tmp 38)) rfl (by kernel_rfl) (fun _ _ _ h => h) inv (fun W hS => by have k0 := cell_of hS.1 0 (.int .u8 d.g) rfl; have k1 := cell_of hS.1 1 (.int .u32 d.N) rfl; have k2 := cell_of hS.1 2 (.slice A nM c) rfl; have k7 := cell_of hS.1 7 (.int .i64 d.commit) rfl; have kg := hS.2.1; unfold bareO; go_simp) HS2 (fun inv => ?_)
      try simp only [Act.put, List.setIfInBounds_toArray, List.set_cons_zero, List.set_cons_succ]
      refine FirstH.go (i := 16) (v := .int .i64 (max d.commit tp : Nat)) rfl rfl 40 rfl (Op.call { callee := Callee.builtin Builtin.max, args := #[Operand.tmp 28, Operand.tmp 39], argTypes := #[3, 3] }) rfl (by kernel_rfl) (fun _ _ _ h => h) inv (fun W hS => by have q := q4 W; unfold bareO; go_simp) HS2 (fun inv => ?_)
      try simp only [Act.put, List.setIfInBounds_toArray, List.set_cons_zero, List.set_cons_succ]
      refine ⟨by kernel_rfl, ?_⟩
      simp only [List.drop_succ_cons, List.drop_zero]
      have R2 := Lib.hid HS2.1
      have f7 := frz_row 7 HS2.1
      have k7 := cell_of HS2.1 7 (.int .i64 d.commit) rfl
      clear HS2
      go_wp2
      have kp : KP (fun j => j = b) w2 (w2.setCell ⟨b, 7, none⟩ (.int .i64 (max d.commit tp : Nat))) := KP.set (S := fun j => j = b) w2 b 7 _ rfl
      refine bodyPost_end (results_none rfl _ _ _) rfl ⟨rfl, ⟨⟨.slice A d.M.length c, lv, Lg⟩, hlb, ?_⟩, ?_⟩
      · have hq := HQ.out.below (HSZ.out.symm ▸ B2.out)
        refine hq.set kp ?_ rfl rfl rfl rfl rfl rfl rfl rfl (by show max d.commit d.top ≤ _; have := Rd.top_le hq; have := hq.hc; omega)
        have := row_set (i := 7) R2.out (.int .i64 (max d.commit tp : Nat))
        rw [← HTP.out] at this
        unfold Rd.cs Rd.counted
        rw [HNM.out, ← HTP.out]
        exact this
      · exact (KP.of_below (HSZ.out.symm ▸ B2.out)).trans kp fun _ _ h => h

end Go.Proofs.Ytjdmjiikpnlkjaa
