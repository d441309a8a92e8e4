/-
  The document's Compare: two identifiers held against each other, by a contract: what it answers is the plain mathematics; nothing that was there is changed. Condition: each number fits its kind.
-/
import Derived.Test.YtldbmmganicliaaCpr
import Derived.Test.YtldbmmganicliaaStp
namespace Go.Proofs.Ytldbmmganicliaa
set_option linter.unusedSimpArgs false
set_option linter.unusedVariables false
open Go.RowKit Go.Sort

set_option maxHeartbeats 1000000 in
theorem refCompareProcs (n l x y : Int) (w : World) (hn : 0 ≤ n ∧ n ≤ 255) (hl : 0 ≤ l ∧ l ≤ 65535) (hx : 0 ≤ x ∧ x ≤ 255) (hy : 0 ≤ y ∧ y ≤ 65535) :
    Calls Try.prog 67 #[.agg #[.int .u8 n, .int .u16 l], .agg #[.int .u8 x, .int .u16 y]] w fun e w' => e = .returned (.int .i64 (cp n l x y)) ∧ Below w.heap.size w w' := by
  obtain ⟨hn1, hn2⟩ := hn
  obtain ⟨hl1, hl2⟩ := hl
  obtain ⟨hx1, hx2⟩ := hx
  obtain ⟨hy1, hy2⟩ := hy
  by_cases h : n = x
  · have e : cp n l x y = sgn l y := by
      unfold cp
      rw [h, sgn_self, or2_zero]
    have E := Lib.hid e
    clear e
    have hb : (n != x) = false := by simp [h]
    have h' := Lib.hid h
    clear h
    go_enter Try.func67, Try.ntmps67
    go_wp2_with (go_at_call 68; refine (number _ _ _).mono ?_; rintro e w2 ⟨rfl, rfl⟩)
    go_ret
    rw [E.out]
    exact ⟨rfl, (by repeat (first | (with_reducible exact Below.refl _ _) | (with_reducible refine Below.setCell ?_ (by first | (simp; done) | (simp; omega)) _) | (with_reducible refine Below.drew ?_) | (with_reducible refine Below.alloc ?_ (by first | (simp; done) | (simp; omega)) _)))⟩
  · have e : cp n l x y = sgn n x := by
      unfold cp
      rw [or2_ne _ (sgn_ne h)]
    have E := Lib.hid e
    clear e
    have hb : (n != x) = true := by simpa using h
    go_enter Try.func67, Try.ntmps67
    go_wp2_with (go_at_call 68; refine (number _ _ _).mono ?_; rintro e w2 ⟨rfl, rfl⟩)
    go_ret
    rw [E.out]
    exact ⟨rfl, (by repeat (first | (with_reducible exact Below.refl _ _) | (with_reducible refine Below.setCell ?_ (by first | (simp; done) | (simp; omega)) _) | (with_reducible refine Below.drew ?_) | (with_reducible refine Below.alloc ?_ (by first | (simp; done) | (simp; omega)) _)))⟩

set_option maxRecDepth 100000 in
set_option maxHeartbeats 2000000 in
theorem refCompare_cp (n l s d a0 a1 b0 b1 c0 c1 n' l' s' d' x0 x1 y0 y1 z0 z1 : Int) (w : World) (hn : 0 ≤ n ∧ n ≤ 255) (hl : 0 ≤ l ∧ l ≤ 65535) (hs : 0 ≤ s ∧ s ≤ 4294967295) (hd : 0 ≤ d ∧ d ≤ 255) (ha0 : 0 ≤ a0 ∧ a0 ≤ 255) (ha1 : 0 ≤ a1 ∧ a1 ≤ 255) (hb0 : 0 ≤ b0 ∧ b0 ≤ 255) (hb1 : 0 ≤ b1 ∧ b1 ≤ 255) (hc0 : 0 ≤ c0 ∧ c0 ≤ 255) (hc1 : 0 ≤ c1 ∧ c1 ≤ 255) (hn' : 0 ≤ n' ∧ n' ≤ 255) (hl' : 0 ≤ l' ∧ l' ≤ 65535) (hs' : 0 ≤ s' ∧ s' ≤ 4294967295) (hd' : 0 ≤ d' ∧ d' ≤ 255) (hx0 : 0 ≤ x0 ∧ x0 ≤ 255) (hx1 : 0 ≤ x1 ∧ x1 ≤ 255) (hy0 : 0 ≤ y0 ∧ y0 ≤ 255) (hy1 : 0 ≤ y1 ∧ y1 ≤ 255) (hz0 : 0 ≤ z0 ∧ z0 ≤ 255) (hz1 : 0 ≤ z1 ∧ z1 ≤ 255) (hcp : ¬ cp n l n' l' = 0) :
    Calls Try.prog 55 #[.agg #[.int .u8 n, .int .u16 l, .int .u32 s, .int .u8 d, .int .u8 a0, .int .u8 a1, .int .u8 b0, .int .u8 b1, .int .u8 c0, .int .u8 c1], .agg #[.int .u8 n', .int .u16 l', .int .u32 s', .int .u8 d', .int .u8 x0, .int .u8 x1, .int .u8 y0, .int .u8 y1, .int .u8 z0, .int .u8 z1]] w fun e w' => e = .returned (.int .i64 (ci n l s d a0 a1 b0 b1 c0 c1 n' l' s' d' x0 x1 y0 y1 z0 z1)) ∧ Below w.heap.size w w' := by
  rw [ci_cp hcp]
  have hb : (cp n l n' l' != 0) = true := by simpa using hcp
  clear hcp
  go_enter Try.func55, Try.ntmps55
  go_wp2_with fail
  refine (refCompareProcs n l n' l' _ hn hl hn' hl').mono ?_
  rintro e w1 ⟨rfl, h1⟩
  have B1 : Below w.heap.size w w1 := (((Below.refl _ _).alloc (Nat.le_refl _) _).alloc (by simp) _).trans (h1.mono (by simp; omega))
  clear h1
  go_wp2
  go_ret
  exact ⟨rfl, B1⟩

set_option maxRecDepth 100000 in
set_option maxHeartbeats 2000000 in
theorem refCompare_s (n l s d a0 a1 b0 b1 c0 c1 n' l' s' d' x0 x1 y0 y1 z0 z1 : Int) (w : World) (hn : 0 ≤ n ∧ n ≤ 255) (hl : 0 ≤ l ∧ l ≤ 65535) (hs : 0 ≤ s ∧ s ≤ 4294967295) (hd : 0 ≤ d ∧ d ≤ 255) (ha0 : 0 ≤ a0 ∧ a0 ≤ 255) (ha1 : 0 ≤ a1 ∧ a1 ≤ 255) (hb0 : 0 ≤ b0 ∧ b0 ≤ 255) (hb1 : 0 ≤ b1 ∧ b1 ≤ 255) (hc0 : 0 ≤ c0 ∧ c0 ≤ 255) (hc1 : 0 ≤ c1 ∧ c1 ≤ 255) (hn' : 0 ≤ n' ∧ n' ≤ 255) (hl' : 0 ≤ l' ∧ l' ≤ 65535) (hs' : 0 ≤ s' ∧ s' ≤ 4294967295) (hd' : 0 ≤ d' ∧ d' ≤ 255) (hx0 : 0 ≤ x0 ∧ x0 ≤ 255) (hx1 : 0 ≤ x1 ∧ x1 ≤ 255) (hy0 : 0 ≤ y0 ∧ y0 ≤ 255) (hy1 : 0 ≤ y1 ∧ y1 ≤ 255) (hz0 : 0 ≤ z0 ∧ z0 ≤ 255) (hz1 : 0 ≤ z1 ∧ z1 ≤ 255) (hcp : cp n l n' l' = 0) (hne : ¬ s = s') :
    Calls Try.prog 55 #[.agg #[.int .u8 n, .int .u16 l, .int .u32 s, .int .u8 d, .int .u8 a0, .int .u8 a1, .int .u8 b0, .int .u8 b1, .int .u8 c0, .int .u8 c1], .agg #[.int .u8 n', .int .u16 l', .int .u32 s', .int .u8 d', .int .u8 x0, .int .u8 x1, .int .u8 y0, .int .u8 y1, .int .u8 z0, .int .u8 z1]] w fun e w' => e = .returned (.int .i64 (ci n l s d a0 a1 b0 b1 c0 c1 n' l' s' d' x0 x1 y0 y1 z0 z1)) ∧ Below w.heap.size w w' := by
  rw [ci_s hcp hne]
  have hb : (s != s') = true := by simpa using hne
  have HCP := Lib.hid hcp
  clear hcp
  obtain ⟨hs1, hs2⟩ := hs
  obtain ⟨hs1', hs2'⟩ := hs'
  go_enter Try.func55, Try.ntmps55
  go_wp2_with fail
  refine (refCompareProcs n l n' l' _ hn hl hn' hl').mono ?_
  rintro e w1 ⟨rfl, h1⟩
  rw [HCP.out]
  have B1 : Below w.heap.size w w1 := (((Below.refl _ _).alloc (Nat.le_refl _) _).alloc (by simp) _).trans (h1.mono (by simp; omega))
  have k0 := kept h1 w.heap.size 2 (.int .u32 s) (by simp; omega) (by simp)
  have k1 := kept h1 (w.heap.size + 1) 2 (.int .u32 s') (by simp) (by simp)
  clear h1
  go_wp2_with (go_at_call 68; refine (number _ _ _).mono ?_; rintro e w2 ⟨rfl, rfl⟩)
  go_ret
  exact ⟨rfl, B1⟩

set_option maxRecDepth 100000 in
set_option maxHeartbeats 8000000 in
theorem refCompare_main (n l s d a0 a1 b0 b1 c0 c1 n' l' d' x0 x1 y0 y1 z0 z1 : Int) (w : World) (hn : 0 ≤ n ∧ n ≤ 255) (hl : 0 ≤ l ∧ l ≤ 65535) (hs : 0 ≤ s ∧ s ≤ 4294967295) (hd : 0 ≤ d ∧ d ≤ 255) (ha0 : 0 ≤ a0 ∧ a0 ≤ 255) (ha1 : 0 ≤ a1 ∧ a1 ≤ 255) (hb0 : 0 ≤ b0 ∧ b0 ≤ 255) (hb1 : 0 ≤ b1 ∧ b1 ≤ 255) (hc0 : 0 ≤ c0 ∧ c0 ≤ 255) (hc1 : 0 ≤ c1 ∧ c1 ≤ 255) (hn' : 0 ≤ n' ∧ n' ≤ 255) (hl' : 0 ≤ l' ∧ l' ≤ 65535) (hd' : 0 ≤ d' ∧ d' ≤ 255) (hx0 : 0 ≤ x0 ∧ x0 ≤ 255) (hx1 : 0 ≤ x1 ∧ x1 ≤ 255) (hy0 : 0 ≤ y0 ∧ y0 ≤ 255) (hy1 : 0 ≤ y1 ∧ y1 ≤ 255) (hz0 : 0 ≤ z0 ∧ z0 ≤ 255) (hz1 : 0 ≤ z1 ∧ z1 ≤ 255) (hcp : cp n l n' l' = 0) :
    Calls Try.prog 55 #[.agg #[.int .u8 n, .int .u16 l, .int .u32 s, .int .u8 d, .int .u8 a0, .int .u8 a1, .int .u8 b0, .int .u8 b1, .int .u8 c0, .int .u8 c1], .agg #[.int .u8 n', .int .u16 l', .int .u32 s, .int .u8 d', .int .u8 x0, .int .u8 x1, .int .u8 y0, .int .u8 y1, .int .u8 z0, .int .u8 z1]] w fun e w' => e = .returned (.int .i64 (ci n l s d a0 a1 b0 b1 c0 c1 n' l' s d' x0 x1 y0 y1 z0 z1)) ∧ Below w.heap.size w w' := by
  have HCP := Lib.hid hcp
  clear hcp
  obtain ⟨hd1, hd2⟩ := hd
  obtain ⟨hd1', hd2'⟩ := hd'
  obtain ⟨ha01, ha02⟩ := ha0
  obtain ⟨ha11, ha12⟩ := ha1
  obtain ⟨hb01, hb02⟩ := hb0
  obtain ⟨hb11, hb12⟩ := hb1
  obtain ⟨hc01, hc02⟩ := hc0
  obtain ⟨hc11, hc12⟩ := hc1
  obtain ⟨hx01, hx02⟩ := hx0
  obtain ⟨hx11, hx12⟩ := hx1
  obtain ⟨hy01, hy02⟩ := hy0
  obtain ⟨hy11, hy12⟩ := hy1
  obtain ⟨hz01, hz02⟩ := hz0
  obtain ⟨hz11, hz12⟩ := hz1
  go_enter Try.func55, Try.ntmps55
  go_wp2_with fail
  refine (refCompareProcs n l n' l' _ hn hl hn' hl').mono ?_
  rintro e w1 ⟨rfl, h1⟩
  rw [HCP.out]
  clear hn hl hn' hl' hs
  have B1 : Below w.heap.size w w1 := (((Below.refl _ _).alloc (Nat.le_refl _) _).alloc (by simp) _).trans (h1.mono (by simp; omega))
  have C1 := ((cells10_new w (.int .u8 n) (.int .u16 l) (.int .u32 s) (.int .u8 d) (.int .u8 a0) (.int .u8 a1) (.int .u8 b0) (.int .u8 b1) (.int .u8 c0) (.int .u8 c1) 43).kept (W' := ((w.alloc (.cells #[.int .u8 n, .int .u16 l, .int .u32 s, .int .u8 d, .int .u8 a0, .int .u8 a1, .int .u8 b0, .int .u8 b1, .int .u8 c0, .int .u8 c1] 43)).alloc (.cells #[.int .u8 n', .int .u16 l', .int .u32 s, .int .u8 d', .int .u8 x0, .int .u8 x1, .int .u8 y0, .int .u8 y1, .int .u8 z0, .int .u8 z1] 43))) ((Below.refl _ _).alloc (Nat.le_refl _) _) (by simp)).kept h1 (by simp; omega)
  have D1 := (cells10_new (w.alloc (.cells #[.int .u8 n, .int .u16 l, .int .u32 s, .int .u8 d, .int .u8 a0, .int .u8 a1, .int .u8 b0, .int .u8 b1, .int .u8 c0, .int .u8 c1] 43)) (.int .u8 n') (.int .u16 l') (.int .u32 s) (.int .u8 d') (.int .u8 x0) (.int .u8 x1) (.int .u8 y0) (.int .u8 y1) (.int .u8 z0) (.int .u8 z1) 43).kept h1 (by simp)
  have eD : (w.alloc (.cells #[.int .u8 n, .int .u16 l, .int .u32 s, .int .u8 d, .int .u8 a0, .int .u8 a1, .int .u8 b0, .int .u8 b1, .int .u8 c0, .int .u8 c1] 43)).heap.size = w.heap.size + 1 := by simp
  rw [eD] at D1
  clear eD h1
  have HB1 := Lib.hid B1
  clear B1
  have k0 := C1.c2
  have k1 := D1.c2
  go_wp2
  clear k0 k1
  go_loopw [6] (fun i wx => ∃ j : Nat, j ≤ 3 ∧ j ≤ mn d d' ∧ i = .int .i64 j ∧ Hid (Below w.heap.size w wx) ∧ Cells10 wx w.heap.size (.int .u8 n) (.int .u16 l) (.int .u32 s) (.int .u8 d) (.int .u8 a0) (.int .u8 a1) (.int .u8 b0) (.int .u8 b1) (.int .u8 c0) (.int .u8 c1) ∧ Cells10 wx (w.heap.size + 1) (.int .u8 n') (.int .u16 l') (.int .u32 s) (.int .u8 d') (.int .u8 x0) (.int .u8 x1) (.int .u8 y0) (.int .u8 y1) (.int .u8 z0) (.int .u8 z1) ∧ Hid (Pre j (cs a0 a1 x0 x1) (cs b0 b1 y0 y1) (cs c0 c1 z0 z1))) (fun i _ => 3 - (intOf i).toNat)
  case atStart => exact ⟨0, by omega, by omega, rfl, HB1, C1, D1, Lib.hid (pre_0 _ _ _)⟩
  case round =>
    clear C1 D1 HB1
    obtain ⟨j, hj, hjm, rfl, B, C, D, pre⟩ := hrel
    have hNx : w.heap.size < wr.heap.size := World.block_lt_of_cell? _ _ C.c0
    have hMx : w.heap.size + 1 < wr.heap.size := World.block_lt_of_cell? _ _ D.c0
    have k0 := C.c3
    have k1 := D.c3
    by_cases g : j < 3 ∧ (j : Int) < d ∧ (j : Int) < d'
    · obtain ⟨g1, g2, g3⟩ := g
      have hm : j < mn d d' := by unfold mn; omega
      have h : j = 0 ∨ j = 1 ∨ j = 2 := by omega
      rcases h with rfl | rfl | rfl
      · by_cases e0 : a0 = x0
        rotate_left
        · have hb : (a0 != x0) = true := by simpa using e0
          have eq := cs_g (i := a1) (y := x1) e0
          have hv : ¬ cs a0 a1 x0 x1 = 0 := by rw [eq]; exact sgn_ne e0
          have fin : ci n l s d a0 a1 b0 b1 c0 c1 n' l' s d' x0 x1 y0 y1 z0 z1 = sgn a0 x0 := ci_m HCP.out ((cf_at0 hm hv).trans eq) (eq ▸ hv)
          have FIN := Lib.hid fin
          clear fin eq hv e0
          go_wp2
          have rC4 := cell_regrown C.c4
          have rD4 := cell_regrown D.c4
          refine wp_region_quiet_below (by kernel_rfl) (by kernel_rfl) ?_
          repeat (go_big_quiet_step (fail))
          refine wpQuiet_nil ?_
          rintro W ⟨p, rfl⟩
          have y2 := below_regrown wr p.d p.os
          generalize grow (redrawn wr p.d) p.os = w2 at *
          clear rC4
          clear rD4
          have Y2 := Lib.hid y2
          clear y2
          go_wp2
          have C2 := C.kept Y2.out hNx
          have D2 := D.kept Y2.out hMx
          have rC24 := cell_regrown C2.c4
          have rD24 := cell_regrown D2.c4
          refine wp_region_quiet_below (by kernel_rfl) (by kernel_rfl) ?_
          repeat (go_big_quiet_step ((go_at_call 68; exact Calls.regrown_of ((number _ _ _).mono fun _ _ ⟨he, hw⟩ => ⟨he, hw ▸ Below.refl _ _⟩))))
          refine wpQuiet_nil ?_
          rintro W ⟨p, rfl⟩
          have y3 := below_regrown w2 p.d p.os
          generalize grow (redrawn w2 p.d) p.os = w3 at *
          clear rC24
          clear rD24
          have Y3 := Lib.hid y3
          clear y3
          go_wp2
          go_ret
          rw [FIN.out]
          exact ⟨rfl, B.out.trans ((Y2.out.trans (Y3.out.mono Y2.out.size)).mono B.out.size)⟩
        have hb : (a0 != x0) = false := by simp [e0]
        have E0 := Lib.hid e0
        clear e0
        go_wp2
        have rC4 := cell_regrown C.c4
        have rD4 := cell_regrown D.c4
        refine wp_region_quiet_below (by kernel_rfl) (by kernel_rfl) ?_
        repeat (go_big_quiet_step (fail))
        refine wpQuiet_nil ?_
        rintro W ⟨p, rfl⟩
        have y2 := below_regrown wr p.d p.os
        generalize grow (redrawn wr p.d) p.os = w2 at *
        clear rC4
        clear rD4
        have Y2 := Lib.hid y2
        clear y2
        have C2 := C.kept Y2.out hNx
        have D2 := D.kept Y2.out hMx
        clear hb
        go_wp2
        by_cases e1 : a1 = x1
        rotate_left
        · have hb : (a1 != x1) = true := by simpa using e1
          have eq : cs a0 a1 x0 x1 = sgn a1 x1 := by rw [E0.out]; exact cs_i _
          have hv : ¬ cs a0 a1 x0 x1 = 0 := by rw [eq]; exact sgn_ne e1
          have fin : ci n l s d a0 a1 b0 b1 c0 c1 n' l' s d' x0 x1 y0 y1 z0 z1 = sgn a1 x1 := ci_m HCP.out ((cf_at0 hm hv).trans eq) (eq ▸ hv)
          have FIN := Lib.hid fin
          clear fin eq hv e1
          have rC25 := cell_regrown C2.c5
          have rD25 := cell_regrown D2.c5
          refine wp_region_quiet_below (by kernel_rfl) (by kernel_rfl) ?_
          repeat (go_big_quiet_step (fail))
          refine wpQuiet_nil ?_
          rintro W ⟨p, rfl⟩
          have y3 := below_regrown w2 p.d p.os
          generalize grow (redrawn w2 p.d) p.os = w3 at *
          clear rC25
          clear rD25
          have Y3 := Lib.hid y3
          clear y3
          go_wp2
          have C3 := C2.kept Y3.out (Nat.lt_of_lt_of_le hNx Y2.out.size)
          have D3 := D2.kept Y3.out (Nat.lt_of_lt_of_le hMx Y2.out.size)
          have rC35 := cell_regrown C3.c5
          have rD35 := cell_regrown D3.c5
          refine wp_region_quiet_below (by kernel_rfl) (by kernel_rfl) ?_
          repeat (go_big_quiet_step ((go_at_call 68; exact Calls.regrown_of ((number _ _ _).mono fun _ _ ⟨he, hw⟩ => ⟨he, hw ▸ Below.refl _ _⟩))))
          refine wpQuiet_nil ?_
          rintro W ⟨p, rfl⟩
          have y4 := below_regrown w3 p.d p.os
          generalize grow (redrawn w3 p.d) p.os = w4 at *
          clear rC35
          clear rD35
          have Y4 := Lib.hid y4
          clear y4
          go_wp2
          go_ret
          rw [FIN.out]
          exact ⟨rfl, B.out.trans ((Y2.out.trans ((Y3.out.trans (Y4.out.mono Y3.out.size)).mono Y2.out.size)).mono B.out.size)⟩
        have hb : (a1 != x1) = false := by simp [e1]
        have hz : cs a0 a1 x0 x1 = 0 := cs_zero.2 ⟨E0.out, e1⟩
        have HZ := Lib.hid hz
        clear hz e1
        have rC25 := cell_regrown C2.c5
        have rD25 := cell_regrown D2.c5
        refine wp_region_quiet_below (by kernel_rfl) (by kernel_rfl) ?_
        repeat (go_big_quiet_step (fail))
        refine wpQuiet_nil ?_
        rintro W ⟨p, rfl⟩
        have y3 := below_regrown w2 p.d p.os
        generalize grow (redrawn w2 p.d) p.os = w3 at *
        clear rC25
        clear rD25
        have Y3 := Lib.hid y3
        clear y3
        clear hb
        go_wp2
        go_roundw
        case rel => exact ⟨1, by omega, by omega, by go_num, Lib.hid (B.out.trans ((Y2.out.trans (Y3.out.mono Y2.out.size)).mono B.out.size)), C2.kept Y3.out (Nat.lt_of_lt_of_le hNx Y2.out.size), D2.kept Y3.out (Nat.lt_of_lt_of_le hMx Y2.out.size), Lib.hid (pre_1 HZ.out)⟩
        case measure => simp [intOf]
      · by_cases e0 : b0 = y0
        rotate_left
        · have hb : (b0 != y0) = true := by simpa using e0
          have eq := cs_g (i := b1) (y := y1) e0
          have hv : ¬ cs b0 b1 y0 y1 = 0 := by rw [eq]; exact sgn_ne e0
          have fin : ci n l s d a0 a1 b0 b1 c0 c1 n' l' s d' x0 x1 y0 y1 z0 z1 = sgn b0 y0 := ci_m HCP.out ((cf_at1 hm (pre.out.p0 (by omega)) hv).trans eq) (eq ▸ hv)
          have FIN := Lib.hid fin
          clear fin eq hv e0
          go_wp2
          have rC6 := cell_regrown C.c6
          have rD6 := cell_regrown D.c6
          refine wp_region_quiet_below (by kernel_rfl) (by kernel_rfl) ?_
          repeat (go_big_quiet_step (fail))
          refine wpQuiet_nil ?_
          rintro W ⟨p, rfl⟩
          have y2 := below_regrown wr p.d p.os
          generalize grow (redrawn wr p.d) p.os = w2 at *
          clear rC6
          clear rD6
          have Y2 := Lib.hid y2
          clear y2
          go_wp2
          have C2 := C.kept Y2.out hNx
          have D2 := D.kept Y2.out hMx
          have rC26 := cell_regrown C2.c6
          have rD26 := cell_regrown D2.c6
          refine wp_region_quiet_below (by kernel_rfl) (by kernel_rfl) ?_
          repeat (go_big_quiet_step ((go_at_call 68; exact Calls.regrown_of ((number _ _ _).mono fun _ _ ⟨he, hw⟩ => ⟨he, hw ▸ Below.refl _ _⟩))))
          refine wpQuiet_nil ?_
          rintro W ⟨p, rfl⟩
          have y3 := below_regrown w2 p.d p.os
          generalize grow (redrawn w2 p.d) p.os = w3 at *
          clear rC26
          clear rD26
          have Y3 := Lib.hid y3
          clear y3
          go_wp2
          go_ret
          rw [FIN.out]
          exact ⟨rfl, B.out.trans ((Y2.out.trans (Y3.out.mono Y2.out.size)).mono B.out.size)⟩
        have hb : (b0 != y0) = false := by simp [e0]
        have E0 := Lib.hid e0
        clear e0
        go_wp2
        have rC6 := cell_regrown C.c6
        have rD6 := cell_regrown D.c6
        refine wp_region_quiet_below (by kernel_rfl) (by kernel_rfl) ?_
        repeat (go_big_quiet_step (fail))
        refine wpQuiet_nil ?_
        rintro W ⟨p, rfl⟩
        have y2 := below_regrown wr p.d p.os
        generalize grow (redrawn wr p.d) p.os = w2 at *
        clear rC6
        clear rD6
        have Y2 := Lib.hid y2
        clear y2
        have C2 := C.kept Y2.out hNx
        have D2 := D.kept Y2.out hMx
        clear hb
        go_wp2
        by_cases e1 : b1 = y1
        rotate_left
        · have hb : (b1 != y1) = true := by simpa using e1
          have eq : cs b0 b1 y0 y1 = sgn b1 y1 := by rw [E0.out]; exact cs_i _
          have hv : ¬ cs b0 b1 y0 y1 = 0 := by rw [eq]; exact sgn_ne e1
          have fin : ci n l s d a0 a1 b0 b1 c0 c1 n' l' s d' x0 x1 y0 y1 z0 z1 = sgn b1 y1 := ci_m HCP.out ((cf_at1 hm (pre.out.p0 (by omega)) hv).trans eq) (eq ▸ hv)
          have FIN := Lib.hid fin
          clear fin eq hv e1
          have rC27 := cell_regrown C2.c7
          have rD27 := cell_regrown D2.c7
          refine wp_region_quiet_below (by kernel_rfl) (by kernel_rfl) ?_
          repeat (go_big_quiet_step (fail))
          refine wpQuiet_nil ?_
          rintro W ⟨p, rfl⟩
          have y3 := below_regrown w2 p.d p.os
          generalize grow (redrawn w2 p.d) p.os = w3 at *
          clear rC27
          clear rD27
          have Y3 := Lib.hid y3
          clear y3
          go_wp2
          have C3 := C2.kept Y3.out (Nat.lt_of_lt_of_le hNx Y2.out.size)
          have D3 := D2.kept Y3.out (Nat.lt_of_lt_of_le hMx Y2.out.size)
          have rC37 := cell_regrown C3.c7
          have rD37 := cell_regrown D3.c7
          refine wp_region_quiet_below (by kernel_rfl) (by kernel_rfl) ?_
          repeat (go_big_quiet_step ((go_at_call 68; exact Calls.regrown_of ((number _ _ _).mono fun _ _ ⟨he, hw⟩ => ⟨he, hw ▸ Below.refl _ _⟩))))
          refine wpQuiet_nil ?_
          rintro W ⟨p, rfl⟩
          have y4 := below_regrown w3 p.d p.os
          generalize grow (redrawn w3 p.d) p.os = w4 at *
          clear rC37
          clear rD37
          have Y4 := Lib.hid y4
          clear y4
          go_wp2
          go_ret
          rw [FIN.out]
          exact ⟨rfl, B.out.trans ((Y2.out.trans ((Y3.out.trans (Y4.out.mono Y3.out.size)).mono Y2.out.size)).mono B.out.size)⟩
        have hb : (b1 != y1) = false := by simp [e1]
        have hz : cs b0 b1 y0 y1 = 0 := cs_zero.2 ⟨E0.out, e1⟩
        have HZ := Lib.hid hz
        clear hz e1
        have rC27 := cell_regrown C2.c7
        have rD27 := cell_regrown D2.c7
        refine wp_region_quiet_below (by kernel_rfl) (by kernel_rfl) ?_
        repeat (go_big_quiet_step (fail))
        refine wpQuiet_nil ?_
        rintro W ⟨p, rfl⟩
        have y3 := below_regrown w2 p.d p.os
        generalize grow (redrawn w2 p.d) p.os = w3 at *
        clear rC27
        clear rD27
        have Y3 := Lib.hid y3
        clear y3
        clear hb
        go_wp2
        go_roundw
        case rel => exact ⟨2, by omega, by omega, by go_num, Lib.hid (B.out.trans ((Y2.out.trans (Y3.out.mono Y2.out.size)).mono B.out.size)), C2.kept Y3.out (Nat.lt_of_lt_of_le hNx Y2.out.size), D2.kept Y3.out (Nat.lt_of_lt_of_le hMx Y2.out.size), Lib.hid (pre_2 pre.out HZ.out)⟩
        case measure => simp [intOf]
      · by_cases e0 : c0 = z0
        rotate_left
        · have hb : (c0 != z0) = true := by simpa using e0
          have eq := cs_g (i := c1) (y := z1) e0
          have hv : ¬ cs c0 c1 z0 z1 = 0 := by rw [eq]; exact sgn_ne e0
          have fin : ci n l s d a0 a1 b0 b1 c0 c1 n' l' s d' x0 x1 y0 y1 z0 z1 = sgn c0 z0 := ci_m HCP.out ((cf_at2 hm (pre.out.p0 (by omega)) (pre.out.p1 (by omega))).trans eq) (eq ▸ hv)
          have FIN := Lib.hid fin
          clear fin eq hv e0
          go_wp2
          have rC8 := cell_regrown C.c8
          have rD8 := cell_regrown D.c8
          refine wp_region_quiet_below (by kernel_rfl) (by kernel_rfl) ?_
          repeat (go_big_quiet_step (fail))
          refine wpQuiet_nil ?_
          rintro W ⟨p, rfl⟩
          have y2 := below_regrown wr p.d p.os
          generalize grow (redrawn wr p.d) p.os = w2 at *
          clear rC8
          clear rD8
          have Y2 := Lib.hid y2
          clear y2
          go_wp2
          have C2 := C.kept Y2.out hNx
          have D2 := D.kept Y2.out hMx
          have rC28 := cell_regrown C2.c8
          have rD28 := cell_regrown D2.c8
          refine wp_region_quiet_below (by kernel_rfl) (by kernel_rfl) ?_
          repeat (go_big_quiet_step ((go_at_call 68; exact Calls.regrown_of ((number _ _ _).mono fun _ _ ⟨he, hw⟩ => ⟨he, hw ▸ Below.refl _ _⟩))))
          refine wpQuiet_nil ?_
          rintro W ⟨p, rfl⟩
          have y3 := below_regrown w2 p.d p.os
          generalize grow (redrawn w2 p.d) p.os = w3 at *
          clear rC28
          clear rD28
          have Y3 := Lib.hid y3
          clear y3
          go_wp2
          go_ret
          rw [FIN.out]
          exact ⟨rfl, B.out.trans ((Y2.out.trans (Y3.out.mono Y2.out.size)).mono B.out.size)⟩
        have hb : (c0 != z0) = false := by simp [e0]
        have E0 := Lib.hid e0
        clear e0
        go_wp2
        have rC8 := cell_regrown C.c8
        have rD8 := cell_regrown D.c8
        refine wp_region_quiet_below (by kernel_rfl) (by kernel_rfl) ?_
        repeat (go_big_quiet_step (fail))
        refine wpQuiet_nil ?_
        rintro W ⟨p, rfl⟩
        have y2 := below_regrown wr p.d p.os
        generalize grow (redrawn wr p.d) p.os = w2 at *
        clear rC8
        clear rD8
        have Y2 := Lib.hid y2
        clear y2
        have C2 := C.kept Y2.out hNx
        have D2 := D.kept Y2.out hMx
        clear hb
        go_wp2
        by_cases e1 : c1 = z1
        rotate_left
        · have hb : (c1 != z1) = true := by simpa using e1
          have eq : cs c0 c1 z0 z1 = sgn c1 z1 := by rw [E0.out]; exact cs_i _
          have hv : ¬ cs c0 c1 z0 z1 = 0 := by rw [eq]; exact sgn_ne e1
          have fin : ci n l s d a0 a1 b0 b1 c0 c1 n' l' s d' x0 x1 y0 y1 z0 z1 = sgn c1 z1 := ci_m HCP.out ((cf_at2 hm (pre.out.p0 (by omega)) (pre.out.p1 (by omega))).trans eq) (eq ▸ hv)
          have FIN := Lib.hid fin
          clear fin eq hv e1
          have rC29 := cell_regrown C2.c9
          have rD29 := cell_regrown D2.c9
          refine wp_region_quiet_below (by kernel_rfl) (by kernel_rfl) ?_
          repeat (go_big_quiet_step (fail))
          refine wpQuiet_nil ?_
          rintro W ⟨p, rfl⟩
          have y3 := below_regrown w2 p.d p.os
          generalize grow (redrawn w2 p.d) p.os = w3 at *
          clear rC29
          clear rD29
          have Y3 := Lib.hid y3
          clear y3
          go_wp2
          have C3 := C2.kept Y3.out (Nat.lt_of_lt_of_le hNx Y2.out.size)
          have D3 := D2.kept Y3.out (Nat.lt_of_lt_of_le hMx Y2.out.size)
          have rC39 := cell_regrown C3.c9
          have rD39 := cell_regrown D3.c9
          refine wp_region_quiet_below (by kernel_rfl) (by kernel_rfl) ?_
          repeat (go_big_quiet_step ((go_at_call 68; exact Calls.regrown_of ((number _ _ _).mono fun _ _ ⟨he, hw⟩ => ⟨he, hw ▸ Below.refl _ _⟩))))
          refine wpQuiet_nil ?_
          rintro W ⟨p, rfl⟩
          have y4 := below_regrown w3 p.d p.os
          generalize grow (redrawn w3 p.d) p.os = w4 at *
          clear rC39
          clear rD39
          have Y4 := Lib.hid y4
          clear y4
          go_wp2
          go_ret
          rw [FIN.out]
          exact ⟨rfl, B.out.trans ((Y2.out.trans ((Y3.out.trans (Y4.out.mono Y3.out.size)).mono Y2.out.size)).mono B.out.size)⟩
        have hb : (c1 != z1) = false := by simp [e1]
        have hz : cs c0 c1 z0 z1 = 0 := cs_zero.2 ⟨E0.out, e1⟩
        have HZ := Lib.hid hz
        clear hz e1
        have rC29 := cell_regrown C2.c9
        have rD29 := cell_regrown D2.c9
        refine wp_region_quiet_below (by kernel_rfl) (by kernel_rfl) ?_
        repeat (go_big_quiet_step (fail))
        refine wpQuiet_nil ?_
        rintro W ⟨p, rfl⟩
        have y3 := below_regrown w2 p.d p.os
        generalize grow (redrawn w2 p.d) p.os = w3 at *
        clear rC29
        clear rD29
        have Y3 := Lib.hid y3
        clear y3
        clear hb
        go_wp2
        go_roundw
        case rel => exact ⟨3, by omega, by omega, by go_num, Lib.hid (B.out.trans ((Y2.out.trans (Y3.out.mono Y2.out.size)).mono B.out.size)), C2.kept Y3.out (Nat.lt_of_lt_of_le hNx Y2.out.size), D2.kept Y3.out (Nat.lt_of_lt_of_le hMx Y2.out.size), Lib.hid (pre_3 pre.out HZ.out)⟩
        case measure => simp [intOf]
    · have hm := cf_pre pre.out hj
      have e : j = mn d d' := by unfold mn at *; omega
      rw [e] at hm
      have HM0 := Lib.hid hm
      clear hm e
      have k0 := C.c3
      have k1 := D.c3
      by_cases hdd : d = d'
      rotate_left
      · have g' : ¬ j < 3 ∨ (j < 3 ∧ ¬ (j : Int) < d) ∨ (j < 3 ∧ (j : Int) < d ∧ ¬ (j : Int) < d') := by omega
        rcases g' with q | ⟨q, q2⟩ | ⟨q, q2, q3⟩
        all_goals
          have hb : (d != d') = true := by simpa using hdd
          have fin : ci n l s d a0 a1 b0 b1 c0 c1 n' l' s d' x0 x1 y0 y1 z0 z1 = sgn d d' := ci_d HCP.out HM0.out hdd
          have FIN := Lib.hid fin
          clear hdd fin
          go_wp2_with (go_at_call 68; refine (number _ _ _).mono ?_; rintro e w2 ⟨rfl, rfl⟩)
          go_ret
          rw [FIN.out]
          exact ⟨rfl, B.out⟩
      · subst hdd
        have g' : ¬ j < 3 ∨ (j < 3 ∧ ¬ (j : Int) < d) := by omega
        rcases g' with q | ⟨q, q2⟩
        all_goals
          have HM := HM0
          have hb : (d != d) = false := by simp
          go_wp2
          clear hb
          go_loopw [7] (fun i wx => ∃ j : Nat, j ≤ 3 ∧ i = .int .i64 j ∧ Hid (Below w.heap.size w wx) ∧ Cells10 wx w.heap.size (.int .u8 n) (.int .u16 l) (.int .u32 s) (.int .u8 d) (.int .u8 a0) (.int .u8 a1) (.int .u8 b0) (.int .u8 b1) (.int .u8 c0) (.int .u8 c1) ∧ Cells10 wx (w.heap.size + 1) (.int .u8 n') (.int .u16 l') (.int .u32 s) (.int .u8 d) (.int .u8 x0) (.int .u8 x1) (.int .u8 y0) (.int .u8 y1) (.int .u8 z0) (.int .u8 z1) ∧ Hid (Pre j (cs a0 a1 x0 x1) (cs b0 b1 y0 y1) (cs c0 c1 z0 z1))) (fun i _ => 3 - (intOf i).toNat)
          case atStart => exact ⟨0, by omega, rfl, B, C, D, Lib.hid (pre_0 _ _ _)⟩
          case round =>
            clear k0 k1 B C D pre hjm g hj
            obtain ⟨j, hj, rfl, B, C, D, pre⟩ := hrel
            have hNx : w.heap.size < wr.heap.size := World.block_lt_of_cell? _ _ C.c0
            have hMx : w.heap.size + 1 < wr.heap.size := World.block_lt_of_cell? _ _ D.c0
            by_cases g : j < 3
            · have h : j = 0 ∨ j = 1 ∨ j = 2 := by omega
              rcases h with rfl | rfl | rfl
              · by_cases e0 : a0 = x0
                rotate_left
                · have hb : (a0 != x0) = true := by simpa using e0
                  have eq := cs_g (i := a1) (y := x1) e0
                  have hv : ¬ cs a0 a1 x0 x1 = 0 := by rw [eq]; exact sgn_ne e0
                  have fin : ci n l s d a0 a1 b0 b1 c0 c1 n' l' s d x0 x1 y0 y1 z0 z1 = sgn a0 x0 := ci_3 HCP.out HM.out ((cf_at0 (by omega) hv).trans eq)
                  have FIN := Lib.hid fin
                  clear fin eq hv e0
                  go_wp2
                  have rC4 := cell_regrown C.c4
                  have rD4 := cell_regrown D.c4
                  refine wp_region_quiet_below (by kernel_rfl) (by kernel_rfl) ?_
                  repeat (go_big_quiet_step (fail))
                  refine wpQuiet_nil ?_
                  rintro W ⟨p, rfl⟩
                  have y2 := below_regrown wr p.d p.os
                  generalize grow (redrawn wr p.d) p.os = w2 at *
                  clear rC4
                  clear rD4
                  have Y2 := Lib.hid y2
                  clear y2
                  go_wp2
                  have C2 := C.kept Y2.out hNx
                  have D2 := D.kept Y2.out hMx
                  have rC24 := cell_regrown C2.c4
                  have rD24 := cell_regrown D2.c4
                  refine wp_region_quiet_below (by kernel_rfl) (by kernel_rfl) ?_
                  repeat (go_big_quiet_step ((go_at_call 68; exact Calls.regrown_of ((number _ _ _).mono fun _ _ ⟨he, hw⟩ => ⟨he, hw ▸ Below.refl _ _⟩))))
                  refine wpQuiet_nil ?_
                  rintro W ⟨p, rfl⟩
                  have y3 := below_regrown w2 p.d p.os
                  generalize grow (redrawn w2 p.d) p.os = w3 at *
                  clear rC24
                  clear rD24
                  have Y3 := Lib.hid y3
                  clear y3
                  go_wp2
                  go_ret
                  rw [FIN.out]
                  exact ⟨rfl, B.out.trans ((Y2.out.trans (Y3.out.mono Y2.out.size)).mono B.out.size)⟩
                have hb : (a0 != x0) = false := by simp [e0]
                have E0 := Lib.hid e0
                clear e0
                go_wp2
                have rC4 := cell_regrown C.c4
                have rD4 := cell_regrown D.c4
                refine wp_region_quiet_below (by kernel_rfl) (by kernel_rfl) ?_
                repeat (go_big_quiet_step (fail))
                refine wpQuiet_nil ?_
                rintro W ⟨p, rfl⟩
                have y2 := below_regrown wr p.d p.os
                generalize grow (redrawn wr p.d) p.os = w2 at *
                clear rC4
                clear rD4
                have Y2 := Lib.hid y2
                clear y2
                have C2 := C.kept Y2.out hNx
                have D2 := D.kept Y2.out hMx
                clear hb
                go_wp2
                by_cases e1 : a1 = x1
                rotate_left
                · have hb : (a1 != x1) = true := by simpa using e1
                  have eq : cs a0 a1 x0 x1 = sgn a1 x1 := by rw [E0.out]; exact cs_i _
                  have hv : ¬ cs a0 a1 x0 x1 = 0 := by rw [eq]; exact sgn_ne e1
                  have fin : ci n l s d a0 a1 b0 b1 c0 c1 n' l' s d x0 x1 y0 y1 z0 z1 = sgn a1 x1 := ci_3 HCP.out HM.out ((cf_at0 (by omega) hv).trans eq)
                  have FIN := Lib.hid fin
                  clear fin eq hv e1
                  have rC25 := cell_regrown C2.c5
                  have rD25 := cell_regrown D2.c5
                  refine wp_region_quiet_below (by kernel_rfl) (by kernel_rfl) ?_
                  repeat (go_big_quiet_step (fail))
                  refine wpQuiet_nil ?_
                  rintro W ⟨p, rfl⟩
                  have y3 := below_regrown w2 p.d p.os
                  generalize grow (redrawn w2 p.d) p.os = w3 at *
                  clear rC25
                  clear rD25
                  have Y3 := Lib.hid y3
                  clear y3
                  go_wp2
                  have C3 := C2.kept Y3.out (Nat.lt_of_lt_of_le hNx Y2.out.size)
                  have D3 := D2.kept Y3.out (Nat.lt_of_lt_of_le hMx Y2.out.size)
                  have rC35 := cell_regrown C3.c5
                  have rD35 := cell_regrown D3.c5
                  refine wp_region_quiet_below (by kernel_rfl) (by kernel_rfl) ?_
                  repeat (go_big_quiet_step ((go_at_call 68; exact Calls.regrown_of ((number _ _ _).mono fun _ _ ⟨he, hw⟩ => ⟨he, hw ▸ Below.refl _ _⟩))))
                  refine wpQuiet_nil ?_
                  rintro W ⟨p, rfl⟩
                  have y4 := below_regrown w3 p.d p.os
                  generalize grow (redrawn w3 p.d) p.os = w4 at *
                  clear rC35
                  clear rD35
                  have Y4 := Lib.hid y4
                  clear y4
                  go_wp2
                  go_ret
                  rw [FIN.out]
                  exact ⟨rfl, B.out.trans ((Y2.out.trans ((Y3.out.trans (Y4.out.mono Y3.out.size)).mono Y2.out.size)).mono B.out.size)⟩
                have hb : (a1 != x1) = false := by simp [e1]
                have hz : cs a0 a1 x0 x1 = 0 := cs_zero.2 ⟨E0.out, e1⟩
                have HZ := Lib.hid hz
                clear hz e1
                have rC25 := cell_regrown C2.c5
                have rD25 := cell_regrown D2.c5
                refine wp_region_quiet_below (by kernel_rfl) (by kernel_rfl) ?_
                repeat (go_big_quiet_step (fail))
                refine wpQuiet_nil ?_
                rintro W ⟨p, rfl⟩
                have y3 := below_regrown w2 p.d p.os
                generalize grow (redrawn w2 p.d) p.os = w3 at *
                clear rC25
                clear rD25
                have Y3 := Lib.hid y3
                clear y3
                clear hb
                go_wp2
                go_roundw
                case rel => exact ⟨1, by omega, by go_num, Lib.hid (B.out.trans ((Y2.out.trans (Y3.out.mono Y2.out.size)).mono B.out.size)), C2.kept Y3.out (Nat.lt_of_lt_of_le hNx Y2.out.size), D2.kept Y3.out (Nat.lt_of_lt_of_le hMx Y2.out.size), Lib.hid (pre_1 HZ.out)⟩
                case measure => simp [intOf]
              · by_cases e0 : b0 = y0
                rotate_left
                · have hb : (b0 != y0) = true := by simpa using e0
                  have eq := cs_g (i := b1) (y := y1) e0
                  have hv : ¬ cs b0 b1 y0 y1 = 0 := by rw [eq]; exact sgn_ne e0
                  have fin : ci n l s d a0 a1 b0 b1 c0 c1 n' l' s d x0 x1 y0 y1 z0 z1 = sgn b0 y0 := ci_3 HCP.out HM.out ((cf_at1 (by omega) (pre.out.p0 (by omega)) hv).trans eq)
                  have FIN := Lib.hid fin
                  clear fin eq hv e0
                  go_wp2
                  have rC6 := cell_regrown C.c6
                  have rD6 := cell_regrown D.c6
                  refine wp_region_quiet_below (by kernel_rfl) (by kernel_rfl) ?_
                  repeat (go_big_quiet_step (fail))
                  refine wpQuiet_nil ?_
                  rintro W ⟨p, rfl⟩
                  have y2 := below_regrown wr p.d p.os
                  generalize grow (redrawn wr p.d) p.os = w2 at *
                  clear rC6
                  clear rD6
                  have Y2 := Lib.hid y2
                  clear y2
                  go_wp2
                  have C2 := C.kept Y2.out hNx
                  have D2 := D.kept Y2.out hMx
                  have rC26 := cell_regrown C2.c6
                  have rD26 := cell_regrown D2.c6
                  refine wp_region_quiet_below (by kernel_rfl) (by kernel_rfl) ?_
                  repeat (go_big_quiet_step ((go_at_call 68; exact Calls.regrown_of ((number _ _ _).mono fun _ _ ⟨he, hw⟩ => ⟨he, hw ▸ Below.refl _ _⟩))))
                  refine wpQuiet_nil ?_
                  rintro W ⟨p, rfl⟩
                  have y3 := below_regrown w2 p.d p.os
                  generalize grow (redrawn w2 p.d) p.os = w3 at *
                  clear rC26
                  clear rD26
                  have Y3 := Lib.hid y3
                  clear y3
                  go_wp2
                  go_ret
                  rw [FIN.out]
                  exact ⟨rfl, B.out.trans ((Y2.out.trans (Y3.out.mono Y2.out.size)).mono B.out.size)⟩
                have hb : (b0 != y0) = false := by simp [e0]
                have E0 := Lib.hid e0
                clear e0
                go_wp2
                have rC6 := cell_regrown C.c6
                have rD6 := cell_regrown D.c6
                refine wp_region_quiet_below (by kernel_rfl) (by kernel_rfl) ?_
                repeat (go_big_quiet_step (fail))
                refine wpQuiet_nil ?_
                rintro W ⟨p, rfl⟩
                have y2 := below_regrown wr p.d p.os
                generalize grow (redrawn wr p.d) p.os = w2 at *
                clear rC6
                clear rD6
                have Y2 := Lib.hid y2
                clear y2
                have C2 := C.kept Y2.out hNx
                have D2 := D.kept Y2.out hMx
                clear hb
                go_wp2
                by_cases e1 : b1 = y1
                rotate_left
                · have hb : (b1 != y1) = true := by simpa using e1
                  have eq : cs b0 b1 y0 y1 = sgn b1 y1 := by rw [E0.out]; exact cs_i _
                  have hv : ¬ cs b0 b1 y0 y1 = 0 := by rw [eq]; exact sgn_ne e1
                  have fin : ci n l s d a0 a1 b0 b1 c0 c1 n' l' s d x0 x1 y0 y1 z0 z1 = sgn b1 y1 := ci_3 HCP.out HM.out ((cf_at1 (by omega) (pre.out.p0 (by omega)) hv).trans eq)
                  have FIN := Lib.hid fin
                  clear fin eq hv e1
                  have rC27 := cell_regrown C2.c7
                  have rD27 := cell_regrown D2.c7
                  refine wp_region_quiet_below (by kernel_rfl) (by kernel_rfl) ?_
                  repeat (go_big_quiet_step (fail))
                  refine wpQuiet_nil ?_
                  rintro W ⟨p, rfl⟩
                  have y3 := below_regrown w2 p.d p.os
                  generalize grow (redrawn w2 p.d) p.os = w3 at *
                  clear rC27
                  clear rD27
                  have Y3 := Lib.hid y3
                  clear y3
                  go_wp2
                  have C3 := C2.kept Y3.out (Nat.lt_of_lt_of_le hNx Y2.out.size)
                  have D3 := D2.kept Y3.out (Nat.lt_of_lt_of_le hMx Y2.out.size)
                  have rC37 := cell_regrown C3.c7
                  have rD37 := cell_regrown D3.c7
                  refine wp_region_quiet_below (by kernel_rfl) (by kernel_rfl) ?_
                  repeat (go_big_quiet_step ((go_at_call 68; exact Calls.regrown_of ((number _ _ _).mono fun _ _ ⟨he, hw⟩ => ⟨he, hw ▸ Below.refl _ _⟩))))
                  refine wpQuiet_nil ?_
                  rintro W ⟨p, rfl⟩
                  have y4 := below_regrown w3 p.d p.os
                  generalize grow (redrawn w3 p.d) p.os = w4 at *
                  clear rC37
                  clear rD37
                  have Y4 := Lib.hid y4
                  clear y4
                  go_wp2
                  go_ret
                  rw [FIN.out]
                  exact ⟨rfl, B.out.trans ((Y2.out.trans ((Y3.out.trans (Y4.out.mono Y3.out.size)).mono Y2.out.size)).mono B.out.size)⟩
                have hb : (b1 != y1) = false := by simp [e1]
                have hz : cs b0 b1 y0 y1 = 0 := cs_zero.2 ⟨E0.out, e1⟩
                have HZ := Lib.hid hz
                clear hz e1
                have rC27 := cell_regrown C2.c7
                have rD27 := cell_regrown D2.c7
                refine wp_region_quiet_below (by kernel_rfl) (by kernel_rfl) ?_
                repeat (go_big_quiet_step (fail))
                refine wpQuiet_nil ?_
                rintro W ⟨p, rfl⟩
                have y3 := below_regrown w2 p.d p.os
                generalize grow (redrawn w2 p.d) p.os = w3 at *
                clear rC27
                clear rD27
                have Y3 := Lib.hid y3
                clear y3
                clear hb
                go_wp2
                go_roundw
                case rel => exact ⟨2, by omega, by go_num, Lib.hid (B.out.trans ((Y2.out.trans (Y3.out.mono Y2.out.size)).mono B.out.size)), C2.kept Y3.out (Nat.lt_of_lt_of_le hNx Y2.out.size), D2.kept Y3.out (Nat.lt_of_lt_of_le hMx Y2.out.size), Lib.hid (pre_2 pre.out HZ.out)⟩
                case measure => simp [intOf]
              · by_cases e0 : c0 = z0
                rotate_left
                · have hb : (c0 != z0) = true := by simpa using e0
                  have eq := cs_g (i := c1) (y := z1) e0
                  have hv : ¬ cs c0 c1 z0 z1 = 0 := by rw [eq]; exact sgn_ne e0
                  have fin : ci n l s d a0 a1 b0 b1 c0 c1 n' l' s d x0 x1 y0 y1 z0 z1 = sgn c0 z0 := ci_3 HCP.out HM.out ((cf_at2 (by omega) (pre.out.p0 (by omega)) (pre.out.p1 (by omega))).trans eq)
                  have FIN := Lib.hid fin
                  clear fin eq hv e0
                  go_wp2
                  have rC8 := cell_regrown C.c8
                  have rD8 := cell_regrown D.c8
                  refine wp_region_quiet_below (by kernel_rfl) (by kernel_rfl) ?_
                  repeat (go_big_quiet_step (fail))
                  refine wpQuiet_nil ?_
                  rintro W ⟨p, rfl⟩
                  have y2 := below_regrown wr p.d p.os
                  generalize grow (redrawn wr p.d) p.os = w2 at *
                  clear rC8
                  clear rD8
                  have Y2 := Lib.hid y2
                  clear y2
                  go_wp2
                  have C2 := C.kept Y2.out hNx
                  have D2 := D.kept Y2.out hMx
                  have rC28 := cell_regrown C2.c8
                  have rD28 := cell_regrown D2.c8
                  refine wp_region_quiet_below (by kernel_rfl) (by kernel_rfl) ?_
                  repeat (go_big_quiet_step ((go_at_call 68; exact Calls.regrown_of ((number _ _ _).mono fun _ _ ⟨he, hw⟩ => ⟨he, hw ▸ Below.refl _ _⟩))))
                  refine wpQuiet_nil ?_
                  rintro W ⟨p, rfl⟩
                  have y3 := below_regrown w2 p.d p.os
                  generalize grow (redrawn w2 p.d) p.os = w3 at *
                  clear rC28
                  clear rD28
                  have Y3 := Lib.hid y3
                  clear y3
                  go_wp2
                  go_ret
                  rw [FIN.out]
                  exact ⟨rfl, B.out.trans ((Y2.out.trans (Y3.out.mono Y2.out.size)).mono B.out.size)⟩
                have hb : (c0 != z0) = false := by simp [e0]
                have E0 := Lib.hid e0
                clear e0
                go_wp2
                have rC8 := cell_regrown C.c8
                have rD8 := cell_regrown D.c8
                refine wp_region_quiet_below (by kernel_rfl) (by kernel_rfl) ?_
                repeat (go_big_quiet_step (fail))
                refine wpQuiet_nil ?_
                rintro W ⟨p, rfl⟩
                have y2 := below_regrown wr p.d p.os
                generalize grow (redrawn wr p.d) p.os = w2 at *
                clear rC8
                clear rD8
                have Y2 := Lib.hid y2
                clear y2
                have C2 := C.kept Y2.out hNx
                have D2 := D.kept Y2.out hMx
                clear hb
                go_wp2
                by_cases e1 : c1 = z1
                rotate_left
                · have hb : (c1 != z1) = true := by simpa using e1
                  have eq : cs c0 c1 z0 z1 = sgn c1 z1 := by rw [E0.out]; exact cs_i _
                  have hv : ¬ cs c0 c1 z0 z1 = 0 := by rw [eq]; exact sgn_ne e1
                  have fin : ci n l s d a0 a1 b0 b1 c0 c1 n' l' s d x0 x1 y0 y1 z0 z1 = sgn c1 z1 := ci_3 HCP.out HM.out ((cf_at2 (by omega) (pre.out.p0 (by omega)) (pre.out.p1 (by omega))).trans eq)
                  have FIN := Lib.hid fin
                  clear fin eq hv e1
                  have rC29 := cell_regrown C2.c9
                  have rD29 := cell_regrown D2.c9
                  refine wp_region_quiet_below (by kernel_rfl) (by kernel_rfl) ?_
                  repeat (go_big_quiet_step (fail))
                  refine wpQuiet_nil ?_
                  rintro W ⟨p, rfl⟩
                  have y3 := below_regrown w2 p.d p.os
                  generalize grow (redrawn w2 p.d) p.os = w3 at *
                  clear rC29
                  clear rD29
                  have Y3 := Lib.hid y3
                  clear y3
                  go_wp2
                  have C3 := C2.kept Y3.out (Nat.lt_of_lt_of_le hNx Y2.out.size)
                  have D3 := D2.kept Y3.out (Nat.lt_of_lt_of_le hMx Y2.out.size)
                  have rC39 := cell_regrown C3.c9
                  have rD39 := cell_regrown D3.c9
                  refine wp_region_quiet_below (by kernel_rfl) (by kernel_rfl) ?_
                  repeat (go_big_quiet_step ((go_at_call 68; exact Calls.regrown_of ((number _ _ _).mono fun _ _ ⟨he, hw⟩ => ⟨he, hw ▸ Below.refl _ _⟩))))
                  refine wpQuiet_nil ?_
                  rintro W ⟨p, rfl⟩
                  have y4 := below_regrown w3 p.d p.os
                  generalize grow (redrawn w3 p.d) p.os = w4 at *
                  clear rC39
                  clear rD39
                  have Y4 := Lib.hid y4
                  clear y4
                  go_wp2
                  go_ret
                  rw [FIN.out]
                  exact ⟨rfl, B.out.trans ((Y2.out.trans ((Y3.out.trans (Y4.out.mono Y3.out.size)).mono Y2.out.size)).mono B.out.size)⟩
                have hb : (c1 != z1) = false := by simp [e1]
                have hz : cs c0 c1 z0 z1 = 0 := cs_zero.2 ⟨E0.out, e1⟩
                have HZ := Lib.hid hz
                clear hz e1
                have rC29 := cell_regrown C2.c9
                have rD29 := cell_regrown D2.c9
                refine wp_region_quiet_below (by kernel_rfl) (by kernel_rfl) ?_
                repeat (go_big_quiet_step (fail))
                refine wpQuiet_nil ?_
                rintro W ⟨p, rfl⟩
                have y3 := below_regrown w2 p.d p.os
                generalize grow (redrawn w2 p.d) p.os = w3 at *
                clear rC29
                clear rD29
                have Y3 := Lib.hid y3
                clear y3
                clear hb
                go_wp2
                go_roundw
                case rel => exact ⟨3, by omega, by go_num, Lib.hid (B.out.trans ((Y2.out.trans (Y3.out.mono Y2.out.size)).mono B.out.size)), C2.kept Y3.out (Nat.lt_of_lt_of_le hNx Y2.out.size), D2.kept Y3.out (Nat.lt_of_lt_of_le hMx Y2.out.size), Lib.hid (pre_3 pre.out HZ.out)⟩
                case measure => simp [intOf]
            · obtain rfl : j = 3 := by omega
              go_wp2
              go_ret
              rw [ci_3 HCP.out HM.out (cf_pre pre.out (Nat.le_refl 3))]
              exact ⟨rfl, B.out⟩

end Go.Proofs.Ytldbmmganicliaa
