/-
  The document's Compare of two keys: by an exact answer. Condition: each number fits its kind.
-/
import Derived.Test.YtfekkfphogjpeaaRcp
import Derived.Test.YtfekkfphogjpeaaYkn
namespace Go.Proofs.Ytfekkfphogjpeaa
set_option linter.unusedSimpArgs false
set_option linter.unusedVariables false
open Go.RowKit Go.Maps Go.Sort

theorem refCompare (n l s d a0 a1 b0 b1 c0 c1 n' l' s' d' x0 x1 y0 y1 z0 z1 : Int) (w : World) (hn : 0 ≤ n ∧ n ≤ 255) (hl : 0 ≤ l ∧ l ≤ 65535) (hs : 0 ≤ s ∧ s ≤ 4294967295) (hd : 0 ≤ d ∧ d ≤ 255) (ha0 : 0 ≤ a0 ∧ a0 ≤ 255) (ha1 : 0 ≤ a1 ∧ a1 ≤ 255) (hb0 : 0 ≤ b0 ∧ b0 ≤ 255) (hb1 : 0 ≤ b1 ∧ b1 ≤ 255) (hc0 : 0 ≤ c0 ∧ c0 ≤ 255) (hc1 : 0 ≤ c1 ∧ c1 ≤ 255) (hn' : 0 ≤ n' ∧ n' ≤ 255) (hl' : 0 ≤ l' ∧ l' ≤ 65535) (hs' : 0 ≤ s' ∧ s' ≤ 4294967295) (hd' : 0 ≤ d' ∧ d' ≤ 255) (hx0 : 0 ≤ x0 ∧ x0 ≤ 255) (hx1 : 0 ≤ x1 ∧ x1 ≤ 255) (hy0 : 0 ≤ y0 ∧ y0 ≤ 255) (hy1 : 0 ≤ y1 ∧ y1 ≤ 255) (hz0 : 0 ≤ z0 ∧ z0 ≤ 255) (hz1 : 0 ≤ z1 ∧ z1 ≤ 255) :
    Calls Try.prog 37 #[.agg #[.int .u8 n, .int .u16 l, .int .u32 s, .int .u8 d, .int .u8 a0, .int .u8 a1, .int .u8 b0, .int .u8 b1, .int .u8 c0, .int .u8 c1], .agg #[.int .u8 n', .int .u16 l', .int .u32 s', .int .u8 d', .int .u8 x0, .int .u8 x1, .int .u8 y0, .int .u8 y1, .int .u8 z0, .int .u8 z1]] w fun e w' => e = .returned (.int .i64 (ci n l s d a0 a1 b0 b1 c0 c1 n' l' s' d' x0 x1 y0 y1 z0 z1)) ∧ Below w.heap.size w w' := by
  by_cases hcp : cp n l n' l' = 0
  · by_cases e : s = s'
    · subst e
      exact refCompare_main n l s d a0 a1 b0 b1 c0 c1 n' l' d' x0 x1 y0 y1 z0 z1 w hn hl hs hd ha0 ha1 hb0 hb1 hc0 hc1 hn' hl' hd' hx0 hx1 hy0 hy1 hz0 hz1 hcp
    · exact refCompare_s n l s d a0 a1 b0 b1 c0 c1 n' l' s' d' x0 x1 y0 y1 z0 z1 w hn hl hs hd ha0 ha1 hb0 hb1 hc0 hc1 hn' hl' hs' hd' hx0 hx1 hy0 hy1 hz0 hz1 hcp e
  · exact refCompare_cp n l s d a0 a1 b0 b1 c0 c1 n' l' s' d' x0 x1 y0 y1 z0 z1 w hn hl hs hd ha0 ha1 hb0 hb1 hc0 hc1 hn' hl' hs' hd' hx0 hx1 hy0 hy1 hz0 hz1 hcp

set_option maxRecDepth 100000 in
set_option maxHeartbeats 2000000 in
theorem dCompare (x y : K13) (rx : x.Rng) (ry : y.Rng) (w : World) : Calls Try.prog 26 #[.agg x.cs, .agg y.cs] w fun e w' => e = .returned (.int .i64 (x.cmp y)) ∧ Below w.heap.size w w' := by
  have CP := Lib.hid (fun w => refCompareProcs x.pn x.pl y.pn y.pl w rx.pn rx.pl ry.pn ry.pl)
  have CI := Lib.hid (fun w => refCompare x.x.n x.x.l x.x.s x.x.d x.x.a0 x.x.a1 x.x.b0 x.x.b1 x.x.c0 x.x.c1 y.x.n y.x.l y.x.s y.x.d y.x.a0 y.x.a1 y.x.b0 y.x.b1 y.x.c0 y.x.c1 w rx.x.n rx.x.l rx.x.s rx.x.d rx.x.a0 rx.x.a1 rx.x.b0 rx.x.b1 rx.x.c0 rx.x.c1 ry.x.n ry.x.l ry.x.s ry.x.d ry.x.a0 ry.x.a1 ry.x.b0 ry.x.b1 ry.x.c0 ry.x.c1)
  have hk0 := rx.k.1
  have hk1 := rx.k.2
  have hk2 := ry.k.1
  have hk3 := ry.k.2
  obtain ⟨W, hW⟩ : ∃ W, (w.alloc (.cells x.cs 38)).alloc (.cells y.cs 38) = W := ⟨_, rfl⟩
  have z : Below w.heap.size w W := by rw [← hW]; exact ((Below.refl _ _).alloc (Nat.le_refl _) _).alloc (by simp) _
  have rA : W.heap[w.heap.size]? = some (.cells x.cs 38 (0, 0)) := by rw [← hW, Below.heap_alloc _ _ _ (by simp)]; exact heap_alloc_new _ _
  have rB : W.heap[w.heap.size + 1]? = some (.cells y.cs 38 (0, 0)) := by
    rw [← hW]
    have := heap_alloc_new (w.alloc (.cells x.cs 38)) (.cells y.cs 38)
    simpa using this
  unfold K13.cs at rA rB hW ⊢
  have RA := Lib.hid rA
  have RB := Lib.hid rB
  have HW := Lib.hid hW
  have Z := Lib.hid z
  clear z hW rx ry
  by_cases hk : x.k = y.k
  · have hb : (x.k != y.k) = false := by simp [hk]
    have e0 : x.cmp y = or2 (cp x.pn x.pl y.pn y.pl) (ci x.x.n x.x.l x.x.s x.x.d x.x.a0 x.x.a1 x.x.b0 x.x.b1 x.x.c0 x.x.c1 y.x.n y.x.l y.x.s y.x.d y.x.a0 y.x.a1 y.x.b0 y.x.b1 y.x.c0 y.x.c1) := by unfold K13.cmp I10.cmp; rw [hk, sgn_self, or2_zero]
    rw [e0]
    have a0 := cell_of rA 0 _ rfl
    have b0 := cell_of rB 0 _ rfl
    have a1 := cell_of rA 1 _ rfl
    have b1 := cell_of rB 1 _ rfl
    have a2 := cell_of rA 2 _ rfl
    have b2 := cell_of rB 2 _ rfl
    have a3 := cell_of rA 3 _ rfl
    have b3 := cell_of rB 3 _ rfl
    have a4 := cell_of rA 4 _ rfl
    have b4 := cell_of rB 4 _ rfl
    have a5 := cell_of rA 5 _ rfl
    have b5 := cell_of rB 5 _ rfl
    have a6 := cell_of rA 6 _ rfl
    have b6 := cell_of rB 6 _ rfl
    have a7 := cell_of rA 7 _ rfl
    have b7 := cell_of rB 7 _ rfl
    have a8 := cell_of rA 8 _ rfl
    have b8 := cell_of rB 8 _ rfl
    have a9 := cell_of rA 9 _ rfl
    have b9 := cell_of rB 9 _ rfl
    have a10 := cell_of rA 10 _ rfl
    have b10 := cell_of rB 10 _ rfl
    have a11 := cell_of rA 11 _ rfl
    have b11 := cell_of rB 11 _ rfl
    have a12 := cell_of rA 12 _ rfl
    have b12 := cell_of rB 12 _ rfl
    have HK := Lib.hid hk
    clear hk rA rB e0
    generalize hv : cp x.pn x.pl y.pn y.pl = v at CP
    generalize hu : ci x.x.n x.x.l x.x.s x.x.d x.x.a0 x.x.a1 x.x.b0 x.x.b1 x.x.c0 x.x.c1 y.x.n y.x.l y.x.s y.x.d y.x.a0 y.x.a1 y.x.b0 y.x.b1 y.x.c0 y.x.c1 = u at CI
    clear hv hu
    by_cases h0 : v = 0
    · subst h0
      rw [or2_zero]
      go_enter Try.func26, Try.ntmps26
      go_wp2_with (rw [HW.out])
      refine (CP.out _).mono ?_
      rintro e w1 ⟨rfl, bb1⟩
      clear a0 b0 a1 b1 a2 b2 a3 b3 a4 b4 a5 b5 a6 b6 a7 b7 a8 b8 a9 b9 a10 b10 a11 b11 a12 b12
      have rA := (bb1.block _ (Array.getElem?_eq_some_iff.1 RA.out).1).trans RA.out
      have rB := (bb1.block _ (Array.getElem?_eq_some_iff.1 RB.out).1).trans RB.out
      have a0 := cell_of rA 0 _ rfl
      have b0 := cell_of rB 0 _ rfl
      have a1 := cell_of rA 1 _ rfl
      have b1 := cell_of rB 1 _ rfl
      have a2 := cell_of rA 2 _ rfl
      have b2 := cell_of rB 2 _ rfl
      have a3 := cell_of rA 3 _ rfl
      have b3 := cell_of rB 3 _ rfl
      have a4 := cell_of rA 4 _ rfl
      have b4 := cell_of rB 4 _ rfl
      have a5 := cell_of rA 5 _ rfl
      have b5 := cell_of rB 5 _ rfl
      have a6 := cell_of rA 6 _ rfl
      have b6 := cell_of rB 6 _ rfl
      have a7 := cell_of rA 7 _ rfl
      have b7 := cell_of rB 7 _ rfl
      have a8 := cell_of rA 8 _ rfl
      have b8 := cell_of rB 8 _ rfl
      have a9 := cell_of rA 9 _ rfl
      have b9 := cell_of rB 9 _ rfl
      have a10 := cell_of rA 10 _ rfl
      have b10 := cell_of rB 10 _ rfl
      have a11 := cell_of rA 11 _ rfl
      have b11 := cell_of rB 11 _ rfl
      have a12 := cell_of rA 12 _ rfl
      have b12 := cell_of rB 12 _ rfl
      have B1 := Lib.hid (Z.out.trans (bb1.mono Z.out.size))
      clear bb1 rA rB
      go_wp2_with fail
      refine (CI.out _).mono ?_
      rintro e w2 ⟨rfl, bb2⟩
      have B2 := Lib.hid (B1.out.trans (bb2.mono B1.out.size))
      clear bb2
      go_wp2
      go_ret
      exact ⟨rfl, B2.out⟩
    · rw [or2_ne _ h0]
      have hb2 : (v != 0) = true := by simpa using h0
      go_enter Try.func26, Try.ntmps26
      go_wp2_with (rw [HW.out])
      refine (CP.out _).mono ?_
      rintro e w1 ⟨rfl, bb1⟩
      clear a0 b0 a1 b1 a2 b2 a3 b3 a4 b4 a5 b5 a6 b6 a7 b7 a8 b8 a9 b9 a10 b10 a11 b11 a12 b12
      have B1 := Lib.hid (Z.out.trans (bb1.mono Z.out.size))
      clear bb1
      go_wp2
      go_ret
      exact ⟨rfl, B1.out⟩
  · have hb : (x.k != y.k) = true := by simpa using hk
    have a0 := cell_of rA 0 _ rfl
    have b0 := cell_of rB 0 _ rfl
    clear rA rB
    by_cases hlt : x.k < y.k
    · have e0 : x.cmp y = -1 := by unfold K13.cmp; rw [sgn_lt hlt, or2_neg]
      rw [e0]
      clear e0
      go_enter Try.func26, Try.ntmps26
      go_wp2_with (rw [HW.out])
      go_ret
      exact ⟨rfl, Z.out⟩
    · have e0 : x.cmp y = 1 := by unfold K13.cmp; rw [sgn_gt (by omega), or2_pos]
      rw [e0]
      clear e0
      go_enter Try.func26, Try.ntmps26
      go_wp2_with (rw [HW.out])
      go_ret
      exact ⟨rfl, Z.out⟩

theorem kcmp_range {a b : K13} (ha : a.Rng) (hb : b.Rng) : a.cmp b = -1 ∨ a.cmp b = 0 ∨ a.cmp b = 1 := by rw [kcmp_num ha hb]; exact lc_range _ _

set_option maxRecDepth 100000 in
set_option maxHeartbeats 4000000 in
theorem walkOrders (x y : K13) (rx : x.Rng) (ry : y.Rng) (w : World) : Calls Try.prog 4 #[.agg x.cs, .agg y.cs] w fun e w' => e = .returned (.bool true) ∧ Below w.heap.size w w' := by
  have C1 := Lib.hid (fun w => (L.compareK x y rx ry w).mono fun _ _ ⟨he, hb⟩ => (⟨he, hb.toBelow⟩ : _ ∧ Below _ _ _))
  have C2 := Lib.hid (fun w => (L.compareK y x ry rx w).mono fun _ _ ⟨he, hb⟩ => (⟨he, hb.toBelow⟩ : _ ∧ Below _ _ _))
  have D1 := Lib.hid (fun w => dCompare x y rx ry w)
  have KX := Lib.hid (fun w => toKey x w)
  have KY := Lib.hid (fun w => toKey y w)
  have KN := Lib.hid (fun w => knowsW w)
  have hr := kcmp_range rx ry
  rw [kcmp_anti rx ry] at C2
  generalize x.cmp y = v at C1 C2 D1 hr
  have h1 : -1 ≤ v := by omega
  have h2 : v ≤ 1 := by omega
  obtain ⟨W, hW⟩ : ∃ W, (w.alloc (.cells x.cs 38)).alloc (.cells y.cs 38) = W := ⟨_, rfl⟩
  have z : Below w.heap.size w W := by rw [← hW]; exact ((Below.refl _ _).alloc (Nat.le_refl _) _).alloc (by simp) _
  have rA : W.heap[w.heap.size]? = some (.cells x.cs 38 (0, 0)) := by rw [← hW, Below.heap_alloc _ _ _ (by simp)]; exact heap_alloc_new _ _
  have rB : W.heap[w.heap.size + 1]? = some (.cells y.cs 38 (0, 0)) := by
    rw [← hW]
    have := heap_alloc_new (w.alloc (.cells x.cs 38)) (.cells y.cs 38)
    simpa using this
  unfold K13.cs at rA rB hW ⊢
  have RA := Lib.hid rA
  have RB := Lib.hid rB
  have HW := Lib.hid hW
  have Z := Lib.hid z
  have a0 := cell_regrown (cell_of rA 0 _ rfl)
  have b0 := cell_regrown (cell_of rB 0 _ rfl)
  have a1 := cell_regrown (cell_of rA 1 _ rfl)
  have b1 := cell_regrown (cell_of rB 1 _ rfl)
  have a2 := cell_regrown (cell_of rA 2 _ rfl)
  have b2 := cell_regrown (cell_of rB 2 _ rfl)
  have a3 := cell_regrown (cell_of rA 3 _ rfl)
  have b3 := cell_regrown (cell_of rB 3 _ rfl)
  have a4 := cell_regrown (cell_of rA 4 _ rfl)
  have b4 := cell_regrown (cell_of rB 4 _ rfl)
  have a5 := cell_regrown (cell_of rA 5 _ rfl)
  have b5 := cell_regrown (cell_of rB 5 _ rfl)
  have a6 := cell_regrown (cell_of rA 6 _ rfl)
  have b6 := cell_regrown (cell_of rB 6 _ rfl)
  have a7 := cell_regrown (cell_of rA 7 _ rfl)
  have b7 := cell_regrown (cell_of rB 7 _ rfl)
  have a8 := cell_regrown (cell_of rA 8 _ rfl)
  have b8 := cell_regrown (cell_of rB 8 _ rfl)
  have a9 := cell_regrown (cell_of rA 9 _ rfl)
  have b9 := cell_regrown (cell_of rB 9 _ rfl)
  have a10 := cell_regrown (cell_of rA 10 _ rfl)
  have b10 := cell_regrown (cell_of rB 10 _ rfl)
  have a11 := cell_regrown (cell_of rA 11 _ rfl)
  have b11 := cell_regrown (cell_of rB 11 _ rfl)
  have a12 := cell_regrown (cell_of rA 12 _ rfl)
  have b12 := cell_regrown (cell_of rB 12 _ rfl)
  unfold K13.cs at C1 C2 D1 KX KY
  have L1 : ∀ d os, Calls Try.prog _ _ (grow (redrawn W d) os) _ := fun d os => Calls.regrown_of (C1.out (grow (redrawn W d) os))
  have L2 : ∀ d os, Calls Try.prog _ _ (grow (redrawn W d) os) _ := fun d os => Calls.regrown_of (C2.out (grow (redrawn W d) os))
  have L3 : ∀ d os, Calls Try.prog _ _ (grow (redrawn W d) os) _ := fun d os => Calls.regrown_of (D1.out (grow (redrawn W d) os))
  have L4 : ∀ d os, Calls Try.prog _ _ (grow (redrawn W d) os) _ := fun d os => Calls.regrown_of (KX.out (grow (redrawn W d) os))
  have L5 : ∀ d os, Calls Try.prog _ _ (grow (redrawn W d) os) _ := fun d os => Calls.regrown_of (KY.out (grow (redrawn W d) os))
  have L6 : ∀ d os, Calls Try.prog _ _ (grow (redrawn W d) os) _ := fun d os => Calls.regrown_of (KN.out (grow (redrawn W d) os))
  have M1 := Lib.hid L1
  have M2 := Lib.hid L2
  have M3 := Lib.hid L3
  have M4 := Lib.hid L4
  have M5 := Lib.hid L5
  have M6 := Lib.hid L6
  clear z hW rx ry rA rB L1 L2 L3 L4 L5 L6 C1 C2 D1 KX KY KN hr
  go_enter Try.func4, Try.ntmps4
  go_wp2_with (rw [HW.out])
  refine wp_region_quiet_below (by kernel_rfl) (by kernel_rfl) ?_
  repeat (go_big_quiet_step (first
    | (go_at_call 12; first | (with_reducible exact M4.out _ _) | (with_reducible exact M5.out _ _))
    | (go_at_call 25; first | (with_reducible exact M1.out _ _) | (with_reducible exact M2.out _ _))
    | (go_at_call 26; with_reducible exact M3.out _ _)
    | (go_at_call 7; with_reducible exact M6.out _ _)
    | fail))
  refine wpQuiet_nil ?_
  rintro W3 ⟨p, rfl⟩
  have z2 := below_regrown W p.d p.os
  generalize grow (redrawn W p.d) p.os = W2 at *
  clear a0 b0 a1 b1 a2 b2 a3 b3 a4 b4 a5 b5 a6 b6 a7 b7 a8 b8 a9 b9 a10 b10 a11 b11 a12 b12
  have Z2 := Lib.hid (Z.out.trans (z2.mono Z.out.size))
  clear z2
  go_wp2
  go_ret
  exact ⟨rfl, Z2.out⟩

end Go.Proofs.Ytfekkfphogjpeaa
