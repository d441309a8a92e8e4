/-
  The program's table: maps.DeleteFunc with Raise's question, walked. Condition: the table lies in memory, numbers fit their kinds.
-/
import Derived.Test.YtldbmmganicliaaAmk
import Derived.Laws.IdiomRangeMap
namespace Go.Proofs.Ytldbmmganicliaa
set_option linter.unusedSimpArgs false
set_option linter.unusedVariables false
open Go.RowKit Go.Maps Go.Sort

set_option maxRecDepth 100000 in
set_option maxHeartbeats 4000000 in
theorem delFuncA (W : World) (b m k c : Nat) (t : Tt) (h : PT W b m k c t) (n l : Int) (kp kt : Nat) (hp : W.heap[kp]? = some (.cells #[.int .u8 n, .int .u16 l] 31 (0, 0))) (ht : W.heap[kt]? = some (.cells #[.pointer (some ⟨b, 0, none⟩)] 25 (0, 0))) :
    Calls Try.prog 42 #[.map (some m), .func (.func 43) #[] #[.pointer (some ⟨kp, 0, none⟩), .pointer (some ⟨kt, 0, none⟩)]] W fun e W' => e = .returned (.tuple #[]) ∧ PT W' b m k c { t with L := t.L.filter (keepR t n l) } ∧ KP (fun q => q = m) W W' := by
  obtain ⟨nn, D, hk, O, M⟩ := h.rows
  have HP := Lib.hid h
  have HM := Lib.hid M
  have HK := Lib.hid hk
  have HNE : Hid (b ≠ m ∧ k ≠ m ∧ kp ≠ m ∧ kt ≠ m) := Lib.hid (by
    obtain ⟨es, cl, hm, _⟩ := O
    refine ⟨h.bm, fun e => h.ne e.symm, ?_, ?_⟩
    · rintro rfl
      rw [hp] at hm
      cases hm
    · rintro rfl
      rw [ht] at hm
      cases hm)
  have HHP := Lib.hid hp
  have HHT := Lib.hid ht
  have ND : Hid (∀ y ∈ t.L, WideAt.IsKeyLit y.key ∧ y.id.Rng) := Lib.hid fun y hy => ⟨idKeyed.key (idKey y.id (h.ok.rng y hy).1), (h.ok.rng y hy).1⟩
  have HDC : Hid (∀ (X : World), W.grownBy X (some m) → ∀ y : Rw, y.id.Rng → Calls Try.prog 43 #[.agg #[.int .u8 y.id.n, .int .u16 y.id.l, .int .u32 y.id.s, .int .u8 y.id.d, .int .u8 y.id.a0, .int .u8 y.id.a1, .int .u8 y.id.b0, .int .u8 y.id.b1, .int .u8 y.id.c0, .int .u8 y.id.c1], .agg #[.int .u8 y.id.n, .int .u16 y.id.l, .int .u32 y.id.s, .int .u8 y.id.d, .int .u8 y.id.a0, .int .u8 y.id.a1, .int .u8 y.id.b0, .int .u8 y.id.b1, .int .u8 y.id.c0, .int .u8 y.id.c1, .bool y.en, .int .u8 y.code, .string y.val], .pointer (some ⟨kp, 0, none⟩), .pointer (some ⟨kt, 0, none⟩)] X fun e X' => e = .returned (.bool (!keepR t n l y)) ∧ Below X.heap.size X X') := Lib.hid fun X hg y ry =>
    delClo X b m k c t (h.pf.keep (hg.block b h.bl (fun e => h.bm (Option.some.inj e))) (hg.block k h.kl (fun e => h.ne (Option.some.inj e).symm))) n l kp kt
      ((hg.block kp (bltA hp) (fun e => HNE.out.2.2.1 (Option.some.inj e))).trans hp) ((hg.block kt (bltA ht) (fun e => HNE.out.2.2.2 (Option.some.inj e))).trans ht) y ry
  clear h M hk hp ht
  go_enter Try.func42, Try.ntmps42
  go_wp2_with (first | (at_range; refine wpList_range_own _ rfl _ 82 rfl 37 88 idKeyed mapR rwElem m nn D rfl O ?_; intro w0 hrg0 hg0 hs0) | fail)
  go_frame
  go_loopw [8] (fun _ wr => ∃ (left : Lit → Bool) (cnt : Nat) (D' : DataW Unit), wr.ranges Try.prog 37 rwElem m W.heap.size nn D' left cnt ∧ Hid (MapG Rw.key Rw.dat D' (midL t n l left)) ∧ Hid (W.grownBy wr (some m))) (fun _ wr => wr.rangeLeft m W.heap.size)
  case atStart => exact ⟨_, _, D, hrg0, Lib.hid (by rw [mid_start HM.out]; exact HM.out), Lib.hid (hg0.but _)⟩
  case round =>
    obtain ⟨left, cnt, D', hrg, HMD, HGW⟩ := hrel
    go_wp2_with (first | (at_next; refine wpList_next_ranges (α := Value) (β := Value) _ rfl _ rfl 37 idKeyed rwElem id id (fun key kl hk => ⟨key, rfl⟩) (fun v _ _ => ⟨v, rfl⟩) m W.heap.size nn D' _ _ rfl hrg ?_ ?_) | fail)
    · intro hc0 hl0
      have hmd := HMD.out
      rw [mid_end hl0] at hmd
      have PZ : Hid (PT wr b m k c { t with L := t.L.filter (keepR t n l) }) := Lib.hid (by
        have hg := HGW.out
        have h := HP.out
        obtain ⟨nn', D2, hk', ⟨es', cl', hm', F', hs', hD'⟩, M'⟩ := h.flo
        exact ⟨(hg.block b h.bl (fun e => HNE.out.1 (Option.some.inj e))).trans h.blk, ⟨nn, D', HK.out, hrg.owns, hmd⟩, ⟨nn', D2, hk', ⟨es', cl', (hg.block k h.kl (fun e => HNE.out.2.1 (Option.some.inj e))).trans hm', F', hs', hD'⟩, M'⟩, h.ne, h.ok.sub List.filter_sublist⟩)
      have KZ : Hid (KP (fun q => q = m) W wr) := Lib.hid (KP.grown HGW.out fun k e => (Option.some.inj e).symm)
      clear hmd hrg
      go_wp2_with fail
      go_end0
      exact ⟨rfl, PZ.out, KZ.out⟩
    · intro xv c2 kl yd yp w2 cnt2 hkey hlk hv hat hrg2 hlt hg2 hs2 hen
      obtain ⟨y, hy, rfl⟩ := HMD.out.all kl (has_true_of_atKey hat)
      have hym : y ∈ t.L := (List.mem_filter.1 hy).1
      have ry := (ND.out y hym).2
      have hyd : yd = y.dat := (hat (.lit (.bool false))).symm.trans (HMD.out.at_ y hy _)
      obtain ⟨y', rfl, hy2⟩ := rwElem_inv hv
      obtain rfl : y = y' := rdat_inj (hyd.symm.trans (congrArg Prod.fst hy2))
      obtain rfl : xv = .agg #[.int .u8 y.id.n, .int .u16 y.id.l, .int .u32 y.id.s, .int .u8 y.id.d, .int .u8 y.id.a0, .int .u8 y.id.a1, .int .u8 y.id.b0, .int .u8 y.id.b1, .int .u8 y.id.c0, .int .u8 y.id.c1] := idKeyed.inj hkey (idKey y.id ry)
      have hgw2 : W.grownBy w2 (some m) := HGW.out.andThen hg2 (fun j hj => by cases hj; exact Or.inl (Nat.le_refl _))
      obtain ⟨w3, hw3⟩ : ∃ z, w2.alloc (.cells #[.int .u8 y.id.n, .int .u16 y.id.l, .int .u32 y.id.s, .int .u8 y.id.d, .int .u8 y.id.a0, .int .u8 y.id.a1, .int .u8 y.id.b0, .int .u8 y.id.b1, .int .u8 y.id.c0, .int .u8 y.id.c1] 37) = z := ⟨_, rfl⟩
      obtain ⟨w4, hw4⟩ : ∃ z, w3.alloc (.cells #[.int .u8 y.id.n, .int .u16 y.id.l, .int .u32 y.id.s, .int .u8 y.id.d, .int .u8 y.id.a0, .int .u8 y.id.a1, .int .u8 y.id.b0, .int .u8 y.id.b1, .int .u8 y.id.c0, .int .u8 y.id.c1, .bool y.en, .int .u8 y.code, .string y.val] 88) = z := ⟨_, rfl⟩
      have b3 : Below w2.heap.size w2 w3 := by rw [← hw3]; exact (Below.refl _ _).alloc (Nat.le_refl _) _
      have b4 : Below w2.heap.size w2 w4 := by rw [← hw4]; exact b3.alloc b3.size _
      have r3 : w3.heap[w2.heap.size]? = some (.cells #[.int .u8 y.id.n, .int .u16 y.id.l, .int .u32 y.id.s, .int .u8 y.id.d, .int .u8 y.id.a0, .int .u8 y.id.a1, .int .u8 y.id.b0, .int .u8 y.id.b1, .int .u8 y.id.c0, .int .u8 y.id.c1] 37 (0, 0)) := by rw [← hw3]; exact heap_alloc_new _ _
      have b34 : Below w3.heap.size w3 w4 := by rw [← hw4]; exact (Below.refl _ _).alloc (Nat.le_refl _) _
      have r4 : w4.heap[w2.heap.size]? = some (.cells #[.int .u8 y.id.n, .int .u16 y.id.l, .int .u32 y.id.s, .int .u8 y.id.d, .int .u8 y.id.a0, .int .u8 y.id.a1, .int .u8 y.id.b0, .int .u8 y.id.b1, .int .u8 y.id.c0, .int .u8 y.id.c1] 37 (0, 0)) := (b34.block _ (bltA r3)).trans r3
      have hrg4 := hrg2.kept (grown_of_below b4 none) (by simp) (by simp)
      have hgw4 : W.grownBy w4 (some m) := hgw2.andThen (grown_of_below b4 none) (fun j hj => by cases hj)
      have hc := HDC.out w4 hgw4 y ry
      have HY := Lib.hid hy
      have HYM := Lib.hid hym
      have HKEY := Lib.hid hkey
      have HLT := Lib.hid hlt
      have HGW4 := Lib.hid hgw4
      have HRG4 := Lib.hid hrg4
      have HW3 := Lib.hid hw3
      have HW4 := Lib.hid hw4
      have R4 := Lib.hid r4
      have HLE := Lib.hid hrg.left_eq
      obtain ⟨kk, hkk⟩ : ∃ q, keepR t n l y = q := ⟨_, rfl⟩
      rw [hkk] at hc
      have HC := Lib.hid hc
      have HKK := Lib.hid hkk
      simp only [id_eq, Rw.cs] at hen
      clear hs2 hat hv hyd hy2 hrg2 hrg4 hgw2 hgw4 hg2 hlt hlk hkey hc b3 b4 b34 r3 r4 hw3 hw4 hrg ry hkk hym
      simp only [id_eq, Rw.cs]
      cases kk
      · go_wp2_with (first
          | (go_at_call 43; rw [HW3.out, HW4.out]; refine HC.out.mono ?_; rintro e w5 ⟨rfl, b5⟩; have HRG5 := Lib.hid (HRG4.out.kept (grown_of_below b5 none) (by simp) (by simp)); have HGW5 : Hid (W.grownBy w5 (some m)) := Lib.hid (HGW4.out.andThen (grown_of_below b5 none) (fun j hj => by cases hj)); have R5 := Lib.hid ((b5.block _ (bltA R4.out)).trans R4.out); clear b5; have x0 := cell_of R5.out 0 (.int .u8 y.id.n) rfl; have x1 := cell_of R5.out 1 (.int .u16 y.id.l) rfl; have x2 := cell_of R5.out 2 (.int .u32 y.id.s) rfl; have x3 := cell_of R5.out 3 (.int .u8 y.id.d) rfl; have x4 := cell_of R5.out 4 (.int .u8 y.id.a0) rfl; have x5 := cell_of R5.out 5 (.int .u8 y.id.a1) rfl; have x6 := cell_of R5.out 6 (.int .u8 y.id.b0) rfl; have x7 := cell_of R5.out 7 (.int .u8 y.id.b1) rfl; have x8 := cell_of R5.out 8 (.int .u8 y.id.c0) rfl; have x9 := cell_of R5.out 9 (.int .u8 y.id.c1) rfl; skip)
          | (at_delete; refine wpList_delete_ranges _ rfl _ _ 82 37 rfl 88 idKeyed mapR rwElem m W.heap.size nn _ _ _ rfl HRG5.out _ _ rfl HKEY.out ?_; intro w6 cnt6 hrg6 hle hturn; go_frame)
          | fail)
        rw [strike_twice] at hrg6
        go_roundw
        case rel => exact ⟨_, cnt6, _, hrg6, Lib.hid ((HMD.out.perm (mid_struck HM.out.apart HY.out (ND.out y HYM.out).1 HKK.out).symm).del (HRG5.out.owns.tidy idKeyed)), Lib.hid (HGW5.out.andThen hturn.grown (fun j hj => by cases hj; exact Or.inr rfl))⟩
        case measure => rw [hrg6.left_eq, HLE.out]; exact Nat.lt_of_le_of_lt hle HLT.out
      · go_wp2_with (first
          | (go_at_call 43; rw [HW3.out, HW4.out]; refine HC.out.mono ?_; rintro e w5 ⟨rfl, b5⟩; have HRG5 := Lib.hid (HRG4.out.kept (grown_of_below b5 none) (by simp) (by simp)); have HGW5 : Hid (W.grownBy w5 (some m)) := Lib.hid (HGW4.out.andThen (grown_of_below b5 none) (fun j hj => by cases hj)); clear b5)
          | fail)
        go_roundw
        case rel => exact ⟨_, _, _, HRG5.out, Lib.hid (by rw [mid_stays HM.out.apart HYM.out (ND.out y HYM.out).1 HKK.out]; exact HMD.out), HGW5⟩
        case measure => rw [HRG5.out.left_eq, HLE.out]; exact HLT.out

end Go.Proofs.Ytldbmmganicliaa
