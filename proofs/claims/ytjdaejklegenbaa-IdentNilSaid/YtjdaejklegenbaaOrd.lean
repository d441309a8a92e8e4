/-
  The walk of the law IdentOrders: it answers true and changes nothing that was there. Condition: each number fits its kind.
-/
import Derived.Test.YtjdaejklegenbaaRcp
import Derived.Test.YtjdaejklegenbaaSteps
namespace Go.Proofs.Ytjdaejklegenbaa
set_option linter.unusedSimpArgs false
set_option linter.unusedVariables false
open Go.RowKit Go.Sort

theorem refCompare (n l s d a0 a1 b0 b1 c0 c1 n' l' s' d' x0 x1 y0 y1 z0 z1 : Int) (w : World) (hn : 0 ≤ n ∧ n ≤ 255) (hl : 0 ≤ l ∧ l ≤ 65535) (hs : 0 ≤ s ∧ s ≤ 4294967295) (hd : 0 ≤ d ∧ d ≤ 255) (ha0 : 0 ≤ a0 ∧ a0 ≤ 255) (ha1 : 0 ≤ a1 ∧ a1 ≤ 255) (hb0 : 0 ≤ b0 ∧ b0 ≤ 255) (hb1 : 0 ≤ b1 ∧ b1 ≤ 255) (hc0 : 0 ≤ c0 ∧ c0 ≤ 255) (hc1 : 0 ≤ c1 ∧ c1 ≤ 255) (hn' : 0 ≤ n' ∧ n' ≤ 255) (hl' : 0 ≤ l' ∧ l' ≤ 65535) (hs' : 0 ≤ s' ∧ s' ≤ 4294967295) (hd' : 0 ≤ d' ∧ d' ≤ 255) (hx0 : 0 ≤ x0 ∧ x0 ≤ 255) (hx1 : 0 ≤ x1 ∧ x1 ≤ 255) (hy0 : 0 ≤ y0 ∧ y0 ≤ 255) (hy1 : 0 ≤ y1 ∧ y1 ≤ 255) (hz0 : 0 ≤ z0 ∧ z0 ≤ 255) (hz1 : 0 ≤ z1 ∧ z1 ≤ 255) :
    Calls Try.prog 24 #[.agg #[.int .u8 n, .int .u16 l, .int .u32 s, .int .u8 d, .int .u8 a0, .int .u8 a1, .int .u8 b0, .int .u8 b1, .int .u8 c0, .int .u8 c1], .agg #[.int .u8 n', .int .u16 l', .int .u32 s', .int .u8 d', .int .u8 x0, .int .u8 x1, .int .u8 y0, .int .u8 y1, .int .u8 z0, .int .u8 z1]] w fun e w' => e = .returned (.int .i64 (ci n l s d a0 a1 b0 b1 c0 c1 n' l' s' d' x0 x1 y0 y1 z0 z1)) ∧ Below w.heap.size w w' := by
  by_cases hcp : cp n l n' l' = 0
  · by_cases e : s = s'
    · subst e
      exact refCompare_main n l s d a0 a1 b0 b1 c0 c1 n' l' d' x0 x1 y0 y1 z0 z1 w hn hl hs hd ha0 ha1 hb0 hb1 hc0 hc1 hn' hl' hd' hx0 hx1 hy0 hy1 hz0 hz1 hcp
    · exact refCompare_s n l s d a0 a1 b0 b1 c0 c1 n' l' s' d' x0 x1 y0 y1 z0 z1 w hn hl hs hd ha0 ha1 hb0 hb1 hc0 hc1 hn' hl' hs' hd' hx0 hx1 hy0 hy1 hz0 hz1 hcp e
  · exact refCompare_cp n l s d a0 a1 b0 b1 c0 c1 n' l' s' d' x0 x1 y0 y1 z0 z1 w hn hl hs hd ha0 ha1 hb0 hb1 hc0 hc1 hn' hl' hs' hd' hx0 hx1 hy0 hy1 hz0 hz1 hcp

set_option maxRecDepth 100000 in
set_option maxHeartbeats 4000000 in
theorem orders_walk (n l s d a0 a1 b0 b1 c0 c1 n' l' s' d' x0 x1 y0 y1 z0 z1 : Int) (w : World) (hn : 0 ≤ n ∧ n ≤ 255) (hl : 0 ≤ l ∧ l ≤ 65535) (hs : 0 ≤ s ∧ s ≤ 4294967295) (hd : 0 ≤ d ∧ d ≤ 255) (ha0 : 0 ≤ a0 ∧ a0 ≤ 255) (ha1 : 0 ≤ a1 ∧ a1 ≤ 255) (hb0 : 0 ≤ b0 ∧ b0 ≤ 255) (hb1 : 0 ≤ b1 ∧ b1 ≤ 255) (hc0 : 0 ≤ c0 ∧ c0 ≤ 255) (hc1 : 0 ≤ c1 ∧ c1 ≤ 255) (hn' : 0 ≤ n' ∧ n' ≤ 255) (hl' : 0 ≤ l' ∧ l' ≤ 65535) (hs' : 0 ≤ s' ∧ s' ≤ 4294967295) (hd' : 0 ≤ d' ∧ d' ≤ 255) (hx0 : 0 ≤ x0 ∧ x0 ≤ 255) (hx1 : 0 ≤ x1 ∧ x1 ≤ 255) (hy0 : 0 ≤ y0 ∧ y0 ≤ 255) (hy1 : 0 ≤ y1 ∧ y1 ≤ 255) (hz0 : 0 ≤ z0 ∧ z0 ≤ 255) (hz1 : 0 ≤ z1 ∧ z1 ≤ 255) :
    Calls Try.prog 4 #[.agg #[.int .u8 n, .int .u16 l, .int .u32 s, .int .u8 d, .int .u8 a0, .int .u8 a1, .int .u8 b0, .int .u8 b1, .int .u8 c0, .int .u8 c1], .agg #[.int .u8 n', .int .u16 l', .int .u32 s', .int .u8 d', .int .u8 x0, .int .u8 x1, .int .u8 y0, .int .u8 y1, .int .u8 z0, .int .u8 z1]] w fun e w' => e = .returned (.bool true) ∧ Below w.heap.size w w' := by
  have cc := fun W => compare n l s d a0 a1 b0 b1 c0 c1 n' l' s' d' x0 x1 y0 y1 z0 z1 W hd.1 hd'.1
  have rc := fun W => refCompare n l s d a0 a1 b0 b1 c0 c1 n' l' s' d' x0 x1 y0 y1 z0 z1 W hn hl hs hd ha0 ha1 hb0 hb1 hc0 hc1 hn' hl' hs' hd' hx0 hx1 hy0 hy1 hz0 hz1
  generalize ci n l s d a0 a1 b0 b1 c0 c1 n' l' s' d' x0 x1 y0 y1 z0 z1 = v at cc rc
  have cq := fun W => compareProcs n l n' l' W
  have rq := fun W => refCompareProcs n l n' l' W hn hl hn' hl'
  have ecp : cp n l n' l' = cp n l n' l' := rfl
  generalize cp n l n' l' = u at cq rq
  have CC := hide cc
  have RC := hide rc
  have CQ := hide cq
  have RQ := hide rq
  clear cc rc cq rq ecp hn hl hs hd ha0 ha1 hb0 hb1 hc0 hc1 hn' hl' hs' hd' hx0 hx1 hy0 hy1 hz0 hz1
  go_enter Try.func4, Try.ntmps4
  go_wp2_with fail
  have z : Below w.heap.size w (((w.alloc (.cells #[.int .u8 n, .int .u16 l, .int .u32 s, .int .u8 d, .int .u8 a0, .int .u8 a1, .int .u8 b0, .int .u8 b1, .int .u8 c0, .int .u8 c1] 30)).alloc (.cells #[.int .u8 n', .int .u16 l', .int .u32 s', .int .u8 d', .int .u8 x0, .int .u8 x1, .int .u8 y0, .int .u8 y1, .int .u8 z0, .int .u8 z1] 30))) := ((Below.refl _ _).alloc (Nat.le_refl _) _).alloc (by simp) _
  have C := (cells10_new w (.int .u8 n) (.int .u16 l) (.int .u32 s) (.int .u8 d) (.int .u8 a0) (.int .u8 a1) (.int .u8 b0) (.int .u8 b1) (.int .u8 c0) (.int .u8 c1) 30).kept (W' := ((w.alloc (.cells #[.int .u8 n, .int .u16 l, .int .u32 s, .int .u8 d, .int .u8 a0, .int .u8 a1, .int .u8 b0, .int .u8 b1, .int .u8 c0, .int .u8 c1] 30)).alloc (.cells #[.int .u8 n', .int .u16 l', .int .u32 s', .int .u8 d', .int .u8 x0, .int .u8 x1, .int .u8 y0, .int .u8 y1, .int .u8 z0, .int .u8 z1] 30))) ((Below.refl _ _).alloc (Nat.le_refl _) _) (by simp)
  have D := cells10_new (w.alloc (.cells #[.int .u8 n, .int .u16 l, .int .u32 s, .int .u8 d, .int .u8 a0, .int .u8 a1, .int .u8 b0, .int .u8 b1, .int .u8 c0, .int .u8 c1] 30)) (.int .u8 n') (.int .u16 l') (.int .u32 s') (.int .u8 d') (.int .u8 x0) (.int .u8 x1) (.int .u8 y0) (.int .u8 y1) (.int .u8 z0) (.int .u8 z1) 30
  have eD : (w.alloc (.cells #[.int .u8 n, .int .u16 l, .int .u32 s, .int .u8 d, .int .u8 a0, .int .u8 a1, .int .u8 b0, .int .u8 b1, .int .u8 c0, .int .u8 c1] 30)).heap.size = w.heap.size + 1 := by simp
  rw [eD] at D
  clear eD
  generalize ((w.alloc (.cells #[.int .u8 n, .int .u16 l, .int .u32 s, .int .u8 d, .int .u8 a0, .int .u8 a1, .int .u8 b0, .int .u8 b1, .int .u8 c0, .int .u8 c1] 30)).alloc (.cells #[.int .u8 n', .int .u16 l', .int .u32 s', .int .u8 d', .int .u8 x0, .int .u8 x1, .int .u8 y0, .int .u8 y1, .int .u8 z0, .int .u8 z1] 30)) = W at *
  have p0 := cell_regrown C.c0
  have p1 := cell_regrown C.c1
  have p2 := cell_regrown C.c2
  have p3 := cell_regrown C.c3
  have p4 := cell_regrown C.c4
  have p5 := cell_regrown C.c5
  have p6 := cell_regrown C.c6
  have p7 := cell_regrown C.c7
  have p8 := cell_regrown C.c8
  have p9 := cell_regrown C.c9
  have q0 := cell_regrown D.c0
  have q1 := cell_regrown D.c1
  have q2 := cell_regrown D.c2
  have q3 := cell_regrown D.c3
  have q4 := cell_regrown D.c4
  have q5 := cell_regrown D.c5
  have q6 := cell_regrown D.c6
  have q7 := cell_regrown D.c7
  have q8 := cell_regrown D.c8
  have q9 := cell_regrown D.c9
  clear C D
  have Z := Lib.hid z
  clear z
  refine wp_region_quiet_below (by kernel_rfl) (by kernel_rfl) ?_
  repeat (go_big_quiet_step (first | (go_at_call 9; exact Calls.regrown_of (toID _ _ _ _ _ _ _ _ _ _ _)) | (go_at_call 23; exact Calls.regrown_of (CC _)) | (go_at_call 24; exact Calls.regrown_of (RC _)) | (go_at_call 19; exact Calls.regrown_of (toProc_b _ _ _)) | (go_at_call 25; exact Calls.regrown_of (CQ _)) | (go_at_call 26; exact Calls.regrown_of (RQ _)) | (go_at_call 22; exact Calls.regrown_of (knows _))))
  refine wpQuiet_nil ?_
  rintro W1 ⟨p, rfl⟩
  go_wp2
  go_ret
  exact ⟨rfl, Z.out.trans ((below_regrown _ _ _).mono Z.out.size)⟩

end Go.Proofs.Ytjdaejklegenbaa
