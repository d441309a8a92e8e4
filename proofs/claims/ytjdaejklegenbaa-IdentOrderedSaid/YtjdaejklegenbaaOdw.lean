/-
  The walk of the law IdentOrdered: it answers true and changes nothing that was there. Condition: each number fits its kind.
-/
import Derived.Test.YtjdaejklegenbaaOdd
namespace Go.Proofs.Ytjdaejklegenbaa
set_option linter.unusedSimpArgs false
set_option linter.unusedVariables false
open Go.RowKit Go.Sort

set_option maxRecDepth 100000 in
set_option maxHeartbeats 4000000 in
theorem ordered_walk (x y z : I10) (w : World) (fx : 0 ≤ x.d) (fy : 0 ≤ y.d) (fz : 0 ≤ z.d) :
    Calls Try.prog 5 #[.agg #[.int .u8 x.n, .int .u16 x.l, .int .u32 x.s, .int .u8 x.d, .int .u8 x.a0, .int .u8 x.a1, .int .u8 x.b0, .int .u8 x.b1, .int .u8 x.c0, .int .u8 x.c1], .agg #[.int .u8 y.n, .int .u16 y.l, .int .u32 y.s, .int .u8 y.d, .int .u8 y.a0, .int .u8 y.a1, .int .u8 y.b0, .int .u8 y.b1, .int .u8 y.c0, .int .u8 y.c1], .agg #[.int .u8 z.n, .int .u16 z.l, .int .u32 z.s, .int .u8 z.d, .int .u8 z.a0, .int .u8 z.a1, .int .u8 z.b0, .int .u8 z.b1, .int .u8 z.c0, .int .u8 z.c1]] w fun e w' => e = .returned (.bool true) ∧ Below w.heap.size w w' := by
  go_enter Try.func5, Try.ntmps5
  go_wp2_with fail
  have z0 : Below w.heap.size w (((w.alloc (.cells #[.int .u8 x.n, .int .u16 x.l, .int .u32 x.s, .int .u8 x.d, .int .u8 x.a0, .int .u8 x.a1, .int .u8 x.b0, .int .u8 x.b1, .int .u8 x.c0, .int .u8 x.c1] 30)).alloc (.cells #[.int .u8 y.n, .int .u16 y.l, .int .u32 y.s, .int .u8 y.d, .int .u8 y.a0, .int .u8 y.a1, .int .u8 y.b0, .int .u8 y.b1, .int .u8 y.c0, .int .u8 y.c1] 30)).alloc (.cells #[.int .u8 z.n, .int .u16 z.l, .int .u32 z.s, .int .u8 z.d, .int .u8 z.a0, .int .u8 z.a1, .int .u8 z.b0, .int .u8 z.b1, .int .u8 z.c0, .int .u8 z.c1] 30)) := (((Below.refl _ _).alloc (Nat.le_refl _) _).alloc (by simp) _).alloc (by simp; omega) _
  have CX : Holds10 (((w.alloc (.cells #[.int .u8 x.n, .int .u16 x.l, .int .u32 x.s, .int .u8 x.d, .int .u8 x.a0, .int .u8 x.a1, .int .u8 x.b0, .int .u8 x.b1, .int .u8 x.c0, .int .u8 x.c1] 30)).alloc (.cells #[.int .u8 y.n, .int .u16 y.l, .int .u32 y.s, .int .u8 y.d, .int .u8 y.a0, .int .u8 y.a1, .int .u8 y.b0, .int .u8 y.b1, .int .u8 y.c0, .int .u8 y.c1] 30)).alloc (.cells #[.int .u8 z.n, .int .u16 z.l, .int .u32 z.s, .int .u8 z.d, .int .u8 z.a0, .int .u8 z.a1, .int .u8 z.b0, .int .u8 z.b1, .int .u8 z.c0, .int .u8 z.c1] 30)) w.heap.size x := (cells10_new w (.int .u8 x.n) (.int .u16 x.l) (.int .u32 x.s) (.int .u8 x.d) (.int .u8 x.a0) (.int .u8 x.a1) (.int .u8 x.b0) (.int .u8 x.b1) (.int .u8 x.c0) (.int .u8 x.c1) 30).kept (W' := (((w.alloc (.cells #[.int .u8 x.n, .int .u16 x.l, .int .u32 x.s, .int .u8 x.d, .int .u8 x.a0, .int .u8 x.a1, .int .u8 x.b0, .int .u8 x.b1, .int .u8 x.c0, .int .u8 x.c1] 30)).alloc (.cells #[.int .u8 y.n, .int .u16 y.l, .int .u32 y.s, .int .u8 y.d, .int .u8 y.a0, .int .u8 y.a1, .int .u8 y.b0, .int .u8 y.b1, .int .u8 y.c0, .int .u8 y.c1] 30)).alloc (.cells #[.int .u8 z.n, .int .u16 z.l, .int .u32 z.s, .int .u8 z.d, .int .u8 z.a0, .int .u8 z.a1, .int .u8 z.b0, .int .u8 z.b1, .int .u8 z.c0, .int .u8 z.c1] 30))) (((Below.refl _ _).alloc (Nat.le_refl _) _).alloc (by simp) _) (by simp)
  have CY0 : Holds10 ((w.alloc (.cells #[.int .u8 x.n, .int .u16 x.l, .int .u32 x.s, .int .u8 x.d, .int .u8 x.a0, .int .u8 x.a1, .int .u8 x.b0, .int .u8 x.b1, .int .u8 x.c0, .int .u8 x.c1] 30)).alloc (.cells #[.int .u8 y.n, .int .u16 y.l, .int .u32 y.s, .int .u8 y.d, .int .u8 y.a0, .int .u8 y.a1, .int .u8 y.b0, .int .u8 y.b1, .int .u8 y.c0, .int .u8 y.c1] 30)) (w.alloc (.cells #[.int .u8 x.n, .int .u16 x.l, .int .u32 x.s, .int .u8 x.d, .int .u8 x.a0, .int .u8 x.a1, .int .u8 x.b0, .int .u8 x.b1, .int .u8 x.c0, .int .u8 x.c1] 30)).heap.size y := cells10_new (w.alloc (.cells #[.int .u8 x.n, .int .u16 x.l, .int .u32 x.s, .int .u8 x.d, .int .u8 x.a0, .int .u8 x.a1, .int .u8 x.b0, .int .u8 x.b1, .int .u8 x.c0, .int .u8 x.c1] 30)) (.int .u8 y.n) (.int .u16 y.l) (.int .u32 y.s) (.int .u8 y.d) (.int .u8 y.a0) (.int .u8 y.a1) (.int .u8 y.b0) (.int .u8 y.b1) (.int .u8 y.c0) (.int .u8 y.c1) 30
  have CZ0 : Holds10 (((w.alloc (.cells #[.int .u8 x.n, .int .u16 x.l, .int .u32 x.s, .int .u8 x.d, .int .u8 x.a0, .int .u8 x.a1, .int .u8 x.b0, .int .u8 x.b1, .int .u8 x.c0, .int .u8 x.c1] 30)).alloc (.cells #[.int .u8 y.n, .int .u16 y.l, .int .u32 y.s, .int .u8 y.d, .int .u8 y.a0, .int .u8 y.a1, .int .u8 y.b0, .int .u8 y.b1, .int .u8 y.c0, .int .u8 y.c1] 30)).alloc (.cells #[.int .u8 z.n, .int .u16 z.l, .int .u32 z.s, .int .u8 z.d, .int .u8 z.a0, .int .u8 z.a1, .int .u8 z.b0, .int .u8 z.b1, .int .u8 z.c0, .int .u8 z.c1] 30)) ((w.alloc (.cells #[.int .u8 x.n, .int .u16 x.l, .int .u32 x.s, .int .u8 x.d, .int .u8 x.a0, .int .u8 x.a1, .int .u8 x.b0, .int .u8 x.b1, .int .u8 x.c0, .int .u8 x.c1] 30)).alloc (.cells #[.int .u8 y.n, .int .u16 y.l, .int .u32 y.s, .int .u8 y.d, .int .u8 y.a0, .int .u8 y.a1, .int .u8 y.b0, .int .u8 y.b1, .int .u8 y.c0, .int .u8 y.c1] 30)).heap.size z := cells10_new ((w.alloc (.cells #[.int .u8 x.n, .int .u16 x.l, .int .u32 x.s, .int .u8 x.d, .int .u8 x.a0, .int .u8 x.a1, .int .u8 x.b0, .int .u8 x.b1, .int .u8 x.c0, .int .u8 x.c1] 30)).alloc (.cells #[.int .u8 y.n, .int .u16 y.l, .int .u32 y.s, .int .u8 y.d, .int .u8 y.a0, .int .u8 y.a1, .int .u8 y.b0, .int .u8 y.b1, .int .u8 y.c0, .int .u8 y.c1] 30)) (.int .u8 z.n) (.int .u16 z.l) (.int .u32 z.s) (.int .u8 z.d) (.int .u8 z.a0) (.int .u8 z.a1) (.int .u8 z.b0) (.int .u8 z.b1) (.int .u8 z.c0) (.int .u8 z.c1) 30
  have e1 : (w.alloc (.cells #[.int .u8 x.n, .int .u16 x.l, .int .u32 x.s, .int .u8 x.d, .int .u8 x.a0, .int .u8 x.a1, .int .u8 x.b0, .int .u8 x.b1, .int .u8 x.c0, .int .u8 x.c1] 30)).heap.size = w.heap.size + 1 := by simp
  have e2 : ((w.alloc (.cells #[.int .u8 x.n, .int .u16 x.l, .int .u32 x.s, .int .u8 x.d, .int .u8 x.a0, .int .u8 x.a1, .int .u8 x.b0, .int .u8 x.b1, .int .u8 x.c0, .int .u8 x.c1] 30)).alloc (.cells #[.int .u8 y.n, .int .u16 y.l, .int .u32 y.s, .int .u8 y.d, .int .u8 y.a0, .int .u8 y.a1, .int .u8 y.b0, .int .u8 y.b1, .int .u8 y.c0, .int .u8 y.c1] 30)).heap.size = w.heap.size + 1 + 1 := by simp
  have CY := Cells10.kept CY0 (W' := (((w.alloc (.cells #[.int .u8 x.n, .int .u16 x.l, .int .u32 x.s, .int .u8 x.d, .int .u8 x.a0, .int .u8 x.a1, .int .u8 x.b0, .int .u8 x.b1, .int .u8 x.c0, .int .u8 x.c1] 30)).alloc (.cells #[.int .u8 y.n, .int .u16 y.l, .int .u32 y.s, .int .u8 y.d, .int .u8 y.a0, .int .u8 y.a1, .int .u8 y.b0, .int .u8 y.b1, .int .u8 y.c0, .int .u8 y.c1] 30)).alloc (.cells #[.int .u8 z.n, .int .u16 z.l, .int .u32 z.s, .int .u8 z.d, .int .u8 z.a0, .int .u8 z.a1, .int .u8 z.b0, .int .u8 z.b1, .int .u8 z.c0, .int .u8 z.c1] 30))) ((Below.refl ((w.alloc (.cells #[.int .u8 x.n, .int .u16 x.l, .int .u32 x.s, .int .u8 x.d, .int .u8 x.a0, .int .u8 x.a1, .int .u8 x.b0, .int .u8 x.b1, .int .u8 x.c0, .int .u8 x.c1] 30)).alloc (.cells #[.int .u8 y.n, .int .u16 y.l, .int .u32 y.s, .int .u8 y.d, .int .u8 y.a0, .int .u8 y.a1, .int .u8 y.b0, .int .u8 y.b1, .int .u8 y.c0, .int .u8 y.c1] 30)).heap.size _).alloc (Nat.le_refl _) _) (by simp)
  rw [e1] at CY
  rw [e2] at CZ0
  have hsz : w.heap.size + 1 + 1 < (((w.alloc (.cells #[.int .u8 x.n, .int .u16 x.l, .int .u32 x.s, .int .u8 x.d, .int .u8 x.a0, .int .u8 x.a1, .int .u8 x.b0, .int .u8 x.b1, .int .u8 x.c0, .int .u8 x.c1] 30)).alloc (.cells #[.int .u8 y.n, .int .u16 y.l, .int .u32 y.s, .int .u8 y.d, .int .u8 y.a0, .int .u8 y.a1, .int .u8 y.b0, .int .u8 y.b1, .int .u8 y.c0, .int .u8 y.c1] 30)).alloc (.cells #[.int .u8 z.n, .int .u16 z.l, .int .u32 z.s, .int .u8 z.d, .int .u8 z.a0, .int .u8 z.a1, .int .u8 z.b0, .int .u8 z.b1, .int .u8 z.c0, .int .u8 z.c1] 30)).heap.size := by simp
  clear CY0 e1 e2
  generalize (((w.alloc (.cells #[.int .u8 x.n, .int .u16 x.l, .int .u32 x.s, .int .u8 x.d, .int .u8 x.a0, .int .u8 x.a1, .int .u8 x.b0, .int .u8 x.b1, .int .u8 x.c0, .int .u8 x.c1] 30)).alloc (.cells #[.int .u8 y.n, .int .u16 y.l, .int .u32 y.s, .int .u8 y.d, .int .u8 y.a0, .int .u8 y.a1, .int .u8 y.b0, .int .u8 y.b1, .int .u8 y.c0, .int .u8 y.c1] 30)).alloc (.cells #[.int .u8 z.n, .int .u16 z.l, .int .u32 z.s, .int .u8 z.d, .int .u8 z.a0, .int .u8 z.a1, .int .u8 z.b0, .int .u8 z.b1, .int .u8 z.c0, .int .u8 z.c1] 30)) = W0 at *
  have hX : w.heap.size < W0.heap.size := by omega
  have hY : w.heap.size + 1 < W0.heap.size := by omega
  have Z0 := Lib.hid z0
  clear z0
  refine region_inv (by kernel_rfl) (by kernel_rfl) (fun L a W => ∃ u7 u8 u9 u12 u13 u14 u15 u16 u17 b7 b8 b9, a = ⟨(.agg #[.int .u8 x.n, .int .u16 x.l, .int .u32 x.s, .int .u8 x.d, .int .u8 x.a0, .int .u8 x.a1, .int .u8 x.b0, .int .u8 x.b1, .int .u8 x.c0, .int .u8 x.c1] :: .agg #[.int .u8 y.n, .int .u16 y.l, .int .u32 y.s, .int .u8 y.d, .int .u8 y.a0, .int .u8 y.a1, .int .u8 y.b0, .int .u8 y.b1, .int .u8 y.c0, .int .u8 y.c1] :: .agg #[.int .u8 z.n, .int .u16 z.l, .int .u32 z.s, .int .u8 z.d, .int .u8 z.a0, .int .u8 z.a1, .int .u8 z.b0, .int .u8 z.b1, .int .u8 z.c0, .int .u8 z.c1] :: .pointer (some ⟨w.heap.size, 0, none⟩) :: .pointer (some ⟨w.heap.size + 1, 0, none⟩) :: .pointer (some ⟨w.heap.size + 1 + 1, 0, none⟩) :: .bool false :: u7 :: u8 :: u9 :: undef :: undef :: u12 :: u13 :: u14 :: u15 :: u16 :: u17 :: undef :: undef :: undef :: undef :: undef :: undef :: undef :: undef :: undef :: undef :: undef :: undef :: undef :: undef :: undef :: undef :: undef :: undef :: undef :: undef :: undef :: undef :: undef :: undef :: undef :: undef :: undef :: undef :: undef :: undef :: undef :: undef :: undef :: undef :: undef :: undef :: undef :: undef :: undef :: undef :: undef :: undef :: undef :: undef :: undef :: undef :: undef :: undef :: undef :: undef :: undef :: undef :: undef :: undef :: undef :: undef :: undef :: undef :: undef :: undef :: undef :: undef :: undef :: undef :: undef :: undef :: undef :: undef :: undef :: undef :: undef :: []).toArray, []⟩ ∧ Inv1 W0 x y z L W u7 u8 u9 u12 u13 u14 u15 u16 u17 b7 b8 b9) ?_ ?_ ?_
  · exact ⟨undef, undef, undef, undef, undef, undef, undef, undef, undef, 0, 0, 0, rfl, ⟨(Below.refl _ _).drew, by simp, by simp, by simp, by simp, by simp, by simp, by simp, by simp, by simp, by simp, by simp, by simp, by simp, by simp, by simp⟩⟩
  · intro L a W i o hI ho hLi haft K hK
    obtain ⟨u7, u8, u9, u12, u13, u14, u15, u16, u17, b7, b8, b9, rfl, hI⟩ := hI
    have hi : i = 0 ∨ i = 1 ∨ i = 2 ∨ i = 3 ∨ i = 4 ∨ i = 5 ∨ i = 6 ∨ i = 7 ∨ i = 8 ∨ i = 9 ∨ i = 10 ∨ i = 11 := by
      have := (List.getElem?_eq_some_iff.1 ho).1
      simp only [List.length_cons, List.length_nil] at this
      omega
    rcases hi with rfl | rfl | rfl | rfl | rfl | rfl | rfl | rfl | rfl | rfl | rfl | rfl
    all_goals
      simp only [List.getElem?_cons_zero, List.getElem?_cons_succ, Option.some.injEq] at ho
      subst ho
      rw [if_pos (by rfl)]
    · have C := Cells10.kept CX hI.B hX
      have k0 := C.c0
      have k1 := C.c1
      have k2 := C.c2
      have k3 := C.c3
      have k4 := C.c4
      have k5 := C.c5
      have k6 := C.c6
      have k7 := C.c7
      have k8 := C.c8
      have k9 := C.c9
      clear C
      go_simp
      exact hK _ _ ⟨_, _, _, _, _, _, _, _, _, _, _, _, rfl, hI.val0⟩
    · have hdep := hI.f12 (haft ⟨0, .data⟩ (by simp) (by rfl))
      subst hdep
      go_simp
      refine (toID x.n x.l x.s x.d x.a0 x.a1 x.b0 x.b1 x.c0 x.c1 _).mono ?_
      rintro e W' ⟨rfl, hb⟩
      go_simp
      exact hK _ _ ⟨_, _, _, _, _, _, _, _, _, _, _, _, rfl, (hI.kept hb).val1⟩
    · have C := Cells10.kept CY hI.B hY
      have k0 := C.c0
      have k1 := C.c1
      have k2 := C.c2
      have k3 := C.c3
      have k4 := C.c4
      have k5 := C.c5
      have k6 := C.c6
      have k7 := C.c7
      have k8 := C.c8
      have k9 := C.c9
      clear C
      go_simp
      exact hK _ _ ⟨_, _, _, _, _, _, _, _, _, _, _, _, rfl, hI.val2⟩
    · have hdep := hI.f14 (haft ⟨2, .data⟩ (by simp) (by rfl))
      subst hdep
      go_simp
      refine (toID y.n y.l y.s y.d y.a0 y.a1 y.b0 y.b1 y.c0 y.c1 _).mono ?_
      rintro e W' ⟨rfl, hb⟩
      go_simp
      exact hK _ _ ⟨_, _, _, _, _, _, _, _, _, _, _, _, rfl, (hI.kept hb).val3⟩
    · have C := Cells10.kept CZ0 hI.B hsz
      have k0 := C.c0
      have k1 := C.c1
      have k2 := C.c2
      have k3 := C.c3
      have k4 := C.c4
      have k5 := C.c5
      have k6 := C.c6
      have k7 := C.c7
      have k8 := C.c8
      have k9 := C.c9
      clear C
      go_simp
      exact hK _ _ ⟨_, _, _, _, _, _, _, _, _, _, _, _, rfl, hI.val4⟩
    · have hdep := hI.f16 (haft ⟨4, .data⟩ (by simp) (by rfl))
      subst hdep
      go_simp
      refine (toID z.n z.l z.s z.d z.a0 z.a1 z.b0 z.b1 z.c0 z.c1 _).mono ?_
      rintro e W' ⟨rfl, hb⟩
      go_simp
      exact hK _ _ ⟨_, _, _, _, _, _, _, _, _, _, _, _, rfl, (hI.kept hb).val5⟩
    · go_simp
      exact hK _ _ ⟨_, _, _, _, _, _, _, _, _, _, _, _, rfl, hI.make7 hLi⟩
    · go_simp
      exact hK _ _ ⟨_, _, _, _, _, _, _, _, _, _, _, _, rfl, hI.make8 hLi⟩
    · go_simp
      exact hK _ _ ⟨_, _, _, _, _, _, _, _, _, _, _, _, rfl, hI.make9 hLi⟩
    · have hA := haft ⟨6, .data⟩ (by simp) (by rfl)
      have hV := hI.f13 (haft ⟨1, .data⟩ (by simp) (by rfl))
      subst hV
      have hP := (hI.g7 hA).ptr
      subst hP
      obtain ⟨q0, q1, q2, q3, q4, q5, q6, q7, q8, q9, C⟩ := (hI.g7 hA).ten
      have k0 := C.c0
      have k1 := C.c1
      have k2 := C.c2
      have k3 := C.c3
      have k4 := C.c4
      have k5 := C.c5
      have k6 := C.c6
      have k7 := C.c7
      have k8 := C.c8
      have k9 := C.c9
      have hf := (hI.g7 hA).fz
      clear C
      go_simp
      exact hK _ _ ⟨_, _, _, _, _, _, _, _, _, _, _, _, rfl, hI.put7 hA⟩
    · have hA := haft ⟨7, .data⟩ (by simp) (by rfl)
      have hV := hI.f15 (haft ⟨3, .data⟩ (by simp) (by rfl))
      subst hV
      have hP := (hI.g8 hA).ptr
      subst hP
      obtain ⟨q0, q1, q2, q3, q4, q5, q6, q7, q8, q9, C⟩ := (hI.g8 hA).ten
      have k0 := C.c0
      have k1 := C.c1
      have k2 := C.c2
      have k3 := C.c3
      have k4 := C.c4
      have k5 := C.c5
      have k6 := C.c6
      have k7 := C.c7
      have k8 := C.c8
      have k9 := C.c9
      have hf := (hI.g8 hA).fz
      clear C
      go_simp
      exact hK _ _ ⟨_, _, _, _, _, _, _, _, _, _, _, _, rfl, hI.put8 hA⟩
    · have hA := haft ⟨8, .data⟩ (by simp) (by rfl)
      have hV := hI.f17 (haft ⟨5, .data⟩ (by simp) (by rfl))
      subst hV
      have hP := (hI.g9 hA).ptr
      subst hP
      obtain ⟨q0, q1, q2, q3, q4, q5, q6, q7, q8, q9, C⟩ := (hI.g9 hA).ten
      have k0 := C.c0
      have k1 := C.c1
      have k2 := C.c2
      have k3 := C.c3
      have k4 := C.c4
      have k5 := C.c5
      have k6 := C.c6
      have k7 := C.c7
      have k8 := C.c8
      have k9 := C.c9
      have hf := (hI.g9 hA).fz
      clear C
      go_simp
      exact hK _ _ ⟨_, _, _, _, _, _, _, _, _, _, _, _, rfl, hI.put9 hA⟩
  · intro L a W hI all
    clear CX CY CZ0
    obtain ⟨u7, u8, u9, u12, u13, u14, u15, u16, u17, b7, b8, b9, rfl, hI⟩ := hI
    have hlen : ∀ i, i < 12 → L i = true := fun i hi => all i (by simpa using hi)
    obtain rfl := hI.f12 (hlen 0 (by omega))
    obtain rfl := hI.f13 (hlen 1 (by omega))
    obtain rfl := hI.f14 (hlen 2 (by omega))
    obtain rfl := hI.f15 (hlen 3 (by omega))
    obtain rfl := hI.f16 (hlen 4 (by omega))
    obtain rfl := hI.f17 (hlen 5 (by omega))
    have gX := hI.g7 (hlen 6 (by omega))
    obtain rfl := gX.ptr
    have CX0 := (hI.s7 (hlen 9 (by omega))).2
    have lX0 := gX.lt
    have gY := hI.g8 (hlen 7 (by omega))
    obtain rfl := gY.ptr
    have CY0 := (hI.s8 (hlen 10 (by omega))).2
    have lY0 := gY.lt
    have gZ := hI.g9 (hlen 8 (by omega))
    obtain rfl := gZ.ptr
    have CZ0 := (hI.s9 (hlen 11 (by omega))).2
    have lZ0 := gZ.lt
    have B0 := Lib.hid (Z0.out.trans (hI.B.mono Z0.out.size))
    clear hI gX gY gZ all hlen Z0 hsz hX hY
    have kX0 := Cells10.c0 CX0
    have kX1 := Cells10.c1 CX0
    have kX2 := Cells10.c2 CX0
    have kX3 := Cells10.c3 CX0
    have kX4 := Cells10.c4 CX0
    have kX5 := Cells10.c5 CX0
    have kX6 := Cells10.c6 CX0
    have kX7 := Cells10.c7 CX0
    have kX8 := Cells10.c8 CX0
    have kX9 := Cells10.c9 CX0
    have kY0 := Cells10.c0 CY0
    have kY1 := Cells10.c1 CY0
    have kY2 := Cells10.c2 CY0
    have kY3 := Cells10.c3 CY0
    have kY4 := Cells10.c4 CY0
    have kY5 := Cells10.c5 CY0
    have kY6 := Cells10.c6 CY0
    have kY7 := Cells10.c7 CY0
    have kY8 := Cells10.c8 CY0
    have kY9 := Cells10.c9 CY0
    have kZ0 := Cells10.c0 CZ0
    have kZ1 := Cells10.c1 CZ0
    have kZ2 := Cells10.c2 CZ0
    have kZ3 := Cells10.c3 CZ0
    have kZ4 := Cells10.c4 CZ0
    have kZ5 := Cells10.c5 CZ0
    have kZ6 := Cells10.c6 CZ0
    have kZ7 := Cells10.c7 CZ0
    have kZ8 := Cells10.c8 CZ0
    have kZ9 := Cells10.c9 CZ0
    by_cases hx : x.ok = true
    rotate_left
    · have hx' : rI x.n x.l x.s x.d x.a0 x.a1 x.b0 x.b1 x.c0 x.c1 = false := by simpa [I10.ok] using hx
      have Hx := Lib.hid hx'
      clear hx hx'
      go_wp2_with fail
      refine (rightID x.n x.l x.s x.d x.a0 x.a1 x.b0 x.b1 x.c0 x.c1 _ fx).mono ?_
      rintro e W1 ⟨rfl, h1⟩
      rw [Hx.out]
      clear kX0 kX1 kX2 kX3 kX4 kX5 kX6 kX7 kX8 kX9 kY0 kY1 kY2 kY3 kY4 kY5 kY6 kY7 kY8 kY9 kZ0 kZ1 kZ2 kZ3 kZ4 kZ5 kZ6 kZ7 kZ8 kZ9
      have CX1 := Holds10.kept CX0 lX0 h1
      have lX1 := Nat.lt_of_lt_of_le lX0 h1.size
      have CY1 := Holds10.kept CY0 lY0 h1
      have lY1 := Nat.lt_of_lt_of_le lY0 h1.size
      have CZ1 := Holds10.kept CZ0 lZ0 h1
      have lZ1 := Nat.lt_of_lt_of_le lZ0 h1.size
      have B1 := Lib.hid (B0.out.trans (h1.mono B0.out.size))
      clear h1 CX0 lX0 CY0 lY0 CZ0 lZ0 B0
      have kX0 := Cells10.c0 CX1
      have kX1 := Cells10.c1 CX1
      have kX2 := Cells10.c2 CX1
      have kX3 := Cells10.c3 CX1
      have kX4 := Cells10.c4 CX1
      have kX5 := Cells10.c5 CX1
      have kX6 := Cells10.c6 CX1
      have kX7 := Cells10.c7 CX1
      have kX8 := Cells10.c8 CX1
      have kX9 := Cells10.c9 CX1
      have kY0 := Cells10.c0 CY1
      have kY1 := Cells10.c1 CY1
      have kY2 := Cells10.c2 CY1
      have kY3 := Cells10.c3 CY1
      have kY4 := Cells10.c4 CY1
      have kY5 := Cells10.c5 CY1
      have kY6 := Cells10.c6 CY1
      have kY7 := Cells10.c7 CY1
      have kY8 := Cells10.c8 CY1
      have kY9 := Cells10.c9 CY1
      have kZ0 := Cells10.c0 CZ1
      have kZ1 := Cells10.c1 CZ1
      have kZ2 := Cells10.c2 CZ1
      have kZ3 := Cells10.c3 CZ1
      have kZ4 := Cells10.c4 CZ1
      have kZ5 := Cells10.c5 CZ1
      have kZ6 := Cells10.c6 CZ1
      have kZ7 := Cells10.c7 CZ1
      have kZ8 := Cells10.c8 CZ1
      have kZ9 := Cells10.c9 CZ1
      go_wp2_with (go_at_call 22; refine (knows _).mono ?_; rintro e w' ⟨rfl, hk⟩)
      go_ret
      exact ⟨rfl, B1.out.trans (hk.mono B1.out.size)⟩
    by_cases hy : y.ok = true
    rotate_left
    · have hx' : rI x.n x.l x.s x.d x.a0 x.a1 x.b0 x.b1 x.c0 x.c1 = true := hx
      have Hx := Lib.hid hx'
      have hy' : rI y.n y.l y.s y.d y.a0 y.a1 y.b0 y.b1 y.c0 y.c1 = false := by simpa [I10.ok] using hy
      have Hy := Lib.hid hy'
      clear hx hx' hy hy'
      go_wp2_with fail
      refine (rightID x.n x.l x.s x.d x.a0 x.a1 x.b0 x.b1 x.c0 x.c1 _ fx).mono ?_
      rintro e W1 ⟨rfl, h1⟩
      rw [Hx.out]
      clear kX0 kX1 kX2 kX3 kX4 kX5 kX6 kX7 kX8 kX9 kY0 kY1 kY2 kY3 kY4 kY5 kY6 kY7 kY8 kY9 kZ0 kZ1 kZ2 kZ3 kZ4 kZ5 kZ6 kZ7 kZ8 kZ9
      have CX1 := Holds10.kept CX0 lX0 h1
      have lX1 := Nat.lt_of_lt_of_le lX0 h1.size
      have CY1 := Holds10.kept CY0 lY0 h1
      have lY1 := Nat.lt_of_lt_of_le lY0 h1.size
      have CZ1 := Holds10.kept CZ0 lZ0 h1
      have lZ1 := Nat.lt_of_lt_of_le lZ0 h1.size
      have B1 := Lib.hid (B0.out.trans (h1.mono B0.out.size))
      clear h1 CX0 lX0 CY0 lY0 CZ0 lZ0 B0
      have kX0 := Cells10.c0 CX1
      have kX1 := Cells10.c1 CX1
      have kX2 := Cells10.c2 CX1
      have kX3 := Cells10.c3 CX1
      have kX4 := Cells10.c4 CX1
      have kX5 := Cells10.c5 CX1
      have kX6 := Cells10.c6 CX1
      have kX7 := Cells10.c7 CX1
      have kX8 := Cells10.c8 CX1
      have kX9 := Cells10.c9 CX1
      have kY0 := Cells10.c0 CY1
      have kY1 := Cells10.c1 CY1
      have kY2 := Cells10.c2 CY1
      have kY3 := Cells10.c3 CY1
      have kY4 := Cells10.c4 CY1
      have kY5 := Cells10.c5 CY1
      have kY6 := Cells10.c6 CY1
      have kY7 := Cells10.c7 CY1
      have kY8 := Cells10.c8 CY1
      have kY9 := Cells10.c9 CY1
      have kZ0 := Cells10.c0 CZ1
      have kZ1 := Cells10.c1 CZ1
      have kZ2 := Cells10.c2 CZ1
      have kZ3 := Cells10.c3 CZ1
      have kZ4 := Cells10.c4 CZ1
      have kZ5 := Cells10.c5 CZ1
      have kZ6 := Cells10.c6 CZ1
      have kZ7 := Cells10.c7 CZ1
      have kZ8 := Cells10.c8 CZ1
      have kZ9 := Cells10.c9 CZ1
      go_wp2_with fail
      refine (rightID y.n y.l y.s y.d y.a0 y.a1 y.b0 y.b1 y.c0 y.c1 _ fy).mono ?_
      rintro e W2 ⟨rfl, h2⟩
      rw [Hy.out]
      clear kX0 kX1 kX2 kX3 kX4 kX5 kX6 kX7 kX8 kX9 kY0 kY1 kY2 kY3 kY4 kY5 kY6 kY7 kY8 kY9 kZ0 kZ1 kZ2 kZ3 kZ4 kZ5 kZ6 kZ7 kZ8 kZ9
      have CX2 := Holds10.kept CX1 lX1 h2
      have lX2 := Nat.lt_of_lt_of_le lX1 h2.size
      have CY2 := Holds10.kept CY1 lY1 h2
      have lY2 := Nat.lt_of_lt_of_le lY1 h2.size
      have CZ2 := Holds10.kept CZ1 lZ1 h2
      have lZ2 := Nat.lt_of_lt_of_le lZ1 h2.size
      have B2 := Lib.hid (B1.out.trans (h2.mono B1.out.size))
      clear h2 CX1 lX1 CY1 lY1 CZ1 lZ1 B1
      have kX0 := Cells10.c0 CX2
      have kX1 := Cells10.c1 CX2
      have kX2 := Cells10.c2 CX2
      have kX3 := Cells10.c3 CX2
      have kX4 := Cells10.c4 CX2
      have kX5 := Cells10.c5 CX2
      have kX6 := Cells10.c6 CX2
      have kX7 := Cells10.c7 CX2
      have kX8 := Cells10.c8 CX2
      have kX9 := Cells10.c9 CX2
      have kY0 := Cells10.c0 CY2
      have kY1 := Cells10.c1 CY2
      have kY2 := Cells10.c2 CY2
      have kY3 := Cells10.c3 CY2
      have kY4 := Cells10.c4 CY2
      have kY5 := Cells10.c5 CY2
      have kY6 := Cells10.c6 CY2
      have kY7 := Cells10.c7 CY2
      have kY8 := Cells10.c8 CY2
      have kY9 := Cells10.c9 CY2
      have kZ0 := Cells10.c0 CZ2
      have kZ1 := Cells10.c1 CZ2
      have kZ2 := Cells10.c2 CZ2
      have kZ3 := Cells10.c3 CZ2
      have kZ4 := Cells10.c4 CZ2
      have kZ5 := Cells10.c5 CZ2
      have kZ6 := Cells10.c6 CZ2
      have kZ7 := Cells10.c7 CZ2
      have kZ8 := Cells10.c8 CZ2
      have kZ9 := Cells10.c9 CZ2
      go_wp2_with (go_at_call 22; refine (knows _).mono ?_; rintro e w' ⟨rfl, hk⟩)
      go_ret
      exact ⟨rfl, B2.out.trans (hk.mono B2.out.size)⟩
    by_cases hz : z.ok = true
    rotate_left
    · have hx' : rI x.n x.l x.s x.d x.a0 x.a1 x.b0 x.b1 x.c0 x.c1 = true := hx
      have Hx := Lib.hid hx'
      have hy' : rI y.n y.l y.s y.d y.a0 y.a1 y.b0 y.b1 y.c0 y.c1 = true := hy
      have Hy := Lib.hid hy'
      have hz' : rI z.n z.l z.s z.d z.a0 z.a1 z.b0 z.b1 z.c0 z.c1 = false := by simpa [I10.ok] using hz
      have Hz := Lib.hid hz'
      clear hx hx' hy hy' hz hz'
      go_wp2_with fail
      refine (rightID x.n x.l x.s x.d x.a0 x.a1 x.b0 x.b1 x.c0 x.c1 _ fx).mono ?_
      rintro e W1 ⟨rfl, h1⟩
      rw [Hx.out]
      clear kX0 kX1 kX2 kX3 kX4 kX5 kX6 kX7 kX8 kX9 kY0 kY1 kY2 kY3 kY4 kY5 kY6 kY7 kY8 kY9 kZ0 kZ1 kZ2 kZ3 kZ4 kZ5 kZ6 kZ7 kZ8 kZ9
      have CX1 := Holds10.kept CX0 lX0 h1
      have lX1 := Nat.lt_of_lt_of_le lX0 h1.size
      have CY1 := Holds10.kept CY0 lY0 h1
      have lY1 := Nat.lt_of_lt_of_le lY0 h1.size
      have CZ1 := Holds10.kept CZ0 lZ0 h1
      have lZ1 := Nat.lt_of_lt_of_le lZ0 h1.size
      have B1 := Lib.hid (B0.out.trans (h1.mono B0.out.size))
      clear h1 CX0 lX0 CY0 lY0 CZ0 lZ0 B0
      have kX0 := Cells10.c0 CX1
      have kX1 := Cells10.c1 CX1
      have kX2 := Cells10.c2 CX1
      have kX3 := Cells10.c3 CX1
      have kX4 := Cells10.c4 CX1
      have kX5 := Cells10.c5 CX1
      have kX6 := Cells10.c6 CX1
      have kX7 := Cells10.c7 CX1
      have kX8 := Cells10.c8 CX1
      have kX9 := Cells10.c9 CX1
      have kY0 := Cells10.c0 CY1
      have kY1 := Cells10.c1 CY1
      have kY2 := Cells10.c2 CY1
      have kY3 := Cells10.c3 CY1
      have kY4 := Cells10.c4 CY1
      have kY5 := Cells10.c5 CY1
      have kY6 := Cells10.c6 CY1
      have kY7 := Cells10.c7 CY1
      have kY8 := Cells10.c8 CY1
      have kY9 := Cells10.c9 CY1
      have kZ0 := Cells10.c0 CZ1
      have kZ1 := Cells10.c1 CZ1
      have kZ2 := Cells10.c2 CZ1
      have kZ3 := Cells10.c3 CZ1
      have kZ4 := Cells10.c4 CZ1
      have kZ5 := Cells10.c5 CZ1
      have kZ6 := Cells10.c6 CZ1
      have kZ7 := Cells10.c7 CZ1
      have kZ8 := Cells10.c8 CZ1
      have kZ9 := Cells10.c9 CZ1
      go_wp2_with fail
      refine (rightID y.n y.l y.s y.d y.a0 y.a1 y.b0 y.b1 y.c0 y.c1 _ fy).mono ?_
      rintro e W2 ⟨rfl, h2⟩
      rw [Hy.out]
      clear kX0 kX1 kX2 kX3 kX4 kX5 kX6 kX7 kX8 kX9 kY0 kY1 kY2 kY3 kY4 kY5 kY6 kY7 kY8 kY9 kZ0 kZ1 kZ2 kZ3 kZ4 kZ5 kZ6 kZ7 kZ8 kZ9
      have CX2 := Holds10.kept CX1 lX1 h2
      have lX2 := Nat.lt_of_lt_of_le lX1 h2.size
      have CY2 := Holds10.kept CY1 lY1 h2
      have lY2 := Nat.lt_of_lt_of_le lY1 h2.size
      have CZ2 := Holds10.kept CZ1 lZ1 h2
      have lZ2 := Nat.lt_of_lt_of_le lZ1 h2.size
      have B2 := Lib.hid (B1.out.trans (h2.mono B1.out.size))
      clear h2 CX1 lX1 CY1 lY1 CZ1 lZ1 B1
      have kX0 := Cells10.c0 CX2
      have kX1 := Cells10.c1 CX2
      have kX2 := Cells10.c2 CX2
      have kX3 := Cells10.c3 CX2
      have kX4 := Cells10.c4 CX2
      have kX5 := Cells10.c5 CX2
      have kX6 := Cells10.c6 CX2
      have kX7 := Cells10.c7 CX2
      have kX8 := Cells10.c8 CX2
      have kX9 := Cells10.c9 CX2
      have kY0 := Cells10.c0 CY2
      have kY1 := Cells10.c1 CY2
      have kY2 := Cells10.c2 CY2
      have kY3 := Cells10.c3 CY2
      have kY4 := Cells10.c4 CY2
      have kY5 := Cells10.c5 CY2
      have kY6 := Cells10.c6 CY2
      have kY7 := Cells10.c7 CY2
      have kY8 := Cells10.c8 CY2
      have kY9 := Cells10.c9 CY2
      have kZ0 := Cells10.c0 CZ2
      have kZ1 := Cells10.c1 CZ2
      have kZ2 := Cells10.c2 CZ2
      have kZ3 := Cells10.c3 CZ2
      have kZ4 := Cells10.c4 CZ2
      have kZ5 := Cells10.c5 CZ2
      have kZ6 := Cells10.c6 CZ2
      have kZ7 := Cells10.c7 CZ2
      have kZ8 := Cells10.c8 CZ2
      have kZ9 := Cells10.c9 CZ2
      go_wp2_with fail
      refine (rightID z.n z.l z.s z.d z.a0 z.a1 z.b0 z.b1 z.c0 z.c1 _ fz).mono ?_
      rintro e W3 ⟨rfl, h3⟩
      rw [Hz.out]
      clear kX0 kX1 kX2 kX3 kX4 kX5 kX6 kX7 kX8 kX9 kY0 kY1 kY2 kY3 kY4 kY5 kY6 kY7 kY8 kY9 kZ0 kZ1 kZ2 kZ3 kZ4 kZ5 kZ6 kZ7 kZ8 kZ9
      have CX3 := Holds10.kept CX2 lX2 h3
      have lX3 := Nat.lt_of_lt_of_le lX2 h3.size
      have CY3 := Holds10.kept CY2 lY2 h3
      have lY3 := Nat.lt_of_lt_of_le lY2 h3.size
      have CZ3 := Holds10.kept CZ2 lZ2 h3
      have lZ3 := Nat.lt_of_lt_of_le lZ2 h3.size
      have B3 := Lib.hid (B2.out.trans (h3.mono B2.out.size))
      clear h3 CX2 lX2 CY2 lY2 CZ2 lZ2 B2
      have kX0 := Cells10.c0 CX3
      have kX1 := Cells10.c1 CX3
      have kX2 := Cells10.c2 CX3
      have kX3 := Cells10.c3 CX3
      have kX4 := Cells10.c4 CX3
      have kX5 := Cells10.c5 CX3
      have kX6 := Cells10.c6 CX3
      have kX7 := Cells10.c7 CX3
      have kX8 := Cells10.c8 CX3
      have kX9 := Cells10.c9 CX3
      have kY0 := Cells10.c0 CY3
      have kY1 := Cells10.c1 CY3
      have kY2 := Cells10.c2 CY3
      have kY3 := Cells10.c3 CY3
      have kY4 := Cells10.c4 CY3
      have kY5 := Cells10.c5 CY3
      have kY6 := Cells10.c6 CY3
      have kY7 := Cells10.c7 CY3
      have kY8 := Cells10.c8 CY3
      have kY9 := Cells10.c9 CY3
      have kZ0 := Cells10.c0 CZ3
      have kZ1 := Cells10.c1 CZ3
      have kZ2 := Cells10.c2 CZ3
      have kZ3 := Cells10.c3 CZ3
      have kZ4 := Cells10.c4 CZ3
      have kZ5 := Cells10.c5 CZ3
      have kZ6 := Cells10.c6 CZ3
      have kZ7 := Cells10.c7 CZ3
      have kZ8 := Cells10.c8 CZ3
      have kZ9 := Cells10.c9 CZ3
      go_wp2_with (go_at_call 22; refine (knows _).mono ?_; rintro e w' ⟨rfl, hk⟩)
      go_ret
      exact ⟨rfl, B3.out.trans (hk.mono B3.out.size)⟩
    have Fx := Lib.hid (fit_of_ok fx hx)
    have Fy := Lib.hid (fit_of_ok fy hy)
    have Fz := Lib.hid (fit_of_ok fz hz)
    have Hx : Hid (rI x.n x.l x.s x.d x.a0 x.a1 x.b0 x.b1 x.c0 x.c1 = true) := Lib.hid hx
    have Hy : Hid (rI y.n y.l y.s y.d y.a0 y.a1 y.b0 y.b1 y.c0 y.c1 = true) := Lib.hid hy
    have Hz : Hid (rI z.n z.l z.s z.d z.a0 z.a1 z.b0 z.b1 z.c0 z.c1 = true) := Lib.hid hz
    clear hx hy hz
    have hXY := cmp_range Fx.out Fy.out
    have hYZ := cmp_range Fy.out Fz.out
    obtain ⟨xy, exy⟩ : ∃ v, ci x.n x.l x.s x.d x.a0 x.a1 x.b0 x.b1 x.c0 x.c1 y.n y.l y.s y.d y.a0 y.a1 y.b0 y.b1 y.c0 y.c1 = v := ⟨_, rfl⟩
    obtain ⟨yz, eyz⟩ : ∃ v, ci y.n y.l y.s y.d y.a0 y.a1 y.b0 y.b1 y.c0 y.c1 z.n z.l z.s z.d z.a0 z.a1 z.b0 z.b1 z.c0 z.c1 = v := ⟨_, rfl⟩
    rw [show x.cmp y = xy from exy] at hXY
    rw [show y.cmp z = yz from eyz] at hYZ
    have EXY := Lib.hid exy
    have EYZ := Lib.hid eyz
    clear exy eyz
    have HXY := Lib.hid hXY
    have HYZ := Lib.hid hYZ
    clear hXY hYZ
    go_wp2_with fail
    refine (rightID x.n x.l x.s x.d x.a0 x.a1 x.b0 x.b1 x.c0 x.c1 _ fx).mono ?_
    rintro e W1 ⟨rfl, h1⟩
    rw [Hx.out]
    clear kX0 kX1 kX2 kX3 kX4 kX5 kX6 kX7 kX8 kX9 kY0 kY1 kY2 kY3 kY4 kY5 kY6 kY7 kY8 kY9 kZ0 kZ1 kZ2 kZ3 kZ4 kZ5 kZ6 kZ7 kZ8 kZ9
    have CX1 := Holds10.kept CX0 lX0 h1
    have lX1 := Nat.lt_of_lt_of_le lX0 h1.size
    have CY1 := Holds10.kept CY0 lY0 h1
    have lY1 := Nat.lt_of_lt_of_le lY0 h1.size
    have CZ1 := Holds10.kept CZ0 lZ0 h1
    have lZ1 := Nat.lt_of_lt_of_le lZ0 h1.size
    have B1 := Lib.hid (B0.out.trans (h1.mono B0.out.size))
    clear h1 CX0 lX0 CY0 lY0 CZ0 lZ0 B0
    have kX0 := Cells10.c0 CX1
    have kX1 := Cells10.c1 CX1
    have kX2 := Cells10.c2 CX1
    have kX3 := Cells10.c3 CX1
    have kX4 := Cells10.c4 CX1
    have kX5 := Cells10.c5 CX1
    have kX6 := Cells10.c6 CX1
    have kX7 := Cells10.c7 CX1
    have kX8 := Cells10.c8 CX1
    have kX9 := Cells10.c9 CX1
    have kY0 := Cells10.c0 CY1
    have kY1 := Cells10.c1 CY1
    have kY2 := Cells10.c2 CY1
    have kY3 := Cells10.c3 CY1
    have kY4 := Cells10.c4 CY1
    have kY5 := Cells10.c5 CY1
    have kY6 := Cells10.c6 CY1
    have kY7 := Cells10.c7 CY1
    have kY8 := Cells10.c8 CY1
    have kY9 := Cells10.c9 CY1
    have kZ0 := Cells10.c0 CZ1
    have kZ1 := Cells10.c1 CZ1
    have kZ2 := Cells10.c2 CZ1
    have kZ3 := Cells10.c3 CZ1
    have kZ4 := Cells10.c4 CZ1
    have kZ5 := Cells10.c5 CZ1
    have kZ6 := Cells10.c6 CZ1
    have kZ7 := Cells10.c7 CZ1
    have kZ8 := Cells10.c8 CZ1
    have kZ9 := Cells10.c9 CZ1
    go_wp2_with fail
    refine (rightID y.n y.l y.s y.d y.a0 y.a1 y.b0 y.b1 y.c0 y.c1 _ fy).mono ?_
    rintro e W2 ⟨rfl, h2⟩
    rw [Hy.out]
    clear kX0 kX1 kX2 kX3 kX4 kX5 kX6 kX7 kX8 kX9 kY0 kY1 kY2 kY3 kY4 kY5 kY6 kY7 kY8 kY9 kZ0 kZ1 kZ2 kZ3 kZ4 kZ5 kZ6 kZ7 kZ8 kZ9
    have CX2 := Holds10.kept CX1 lX1 h2
    have lX2 := Nat.lt_of_lt_of_le lX1 h2.size
    have CY2 := Holds10.kept CY1 lY1 h2
    have lY2 := Nat.lt_of_lt_of_le lY1 h2.size
    have CZ2 := Holds10.kept CZ1 lZ1 h2
    have lZ2 := Nat.lt_of_lt_of_le lZ1 h2.size
    have B2 := Lib.hid (B1.out.trans (h2.mono B1.out.size))
    clear h2 CX1 lX1 CY1 lY1 CZ1 lZ1 B1
    have kX0 := Cells10.c0 CX2
    have kX1 := Cells10.c1 CX2
    have kX2 := Cells10.c2 CX2
    have kX3 := Cells10.c3 CX2
    have kX4 := Cells10.c4 CX2
    have kX5 := Cells10.c5 CX2
    have kX6 := Cells10.c6 CX2
    have kX7 := Cells10.c7 CX2
    have kX8 := Cells10.c8 CX2
    have kX9 := Cells10.c9 CX2
    have kY0 := Cells10.c0 CY2
    have kY1 := Cells10.c1 CY2
    have kY2 := Cells10.c2 CY2
    have kY3 := Cells10.c3 CY2
    have kY4 := Cells10.c4 CY2
    have kY5 := Cells10.c5 CY2
    have kY6 := Cells10.c6 CY2
    have kY7 := Cells10.c7 CY2
    have kY8 := Cells10.c8 CY2
    have kY9 := Cells10.c9 CY2
    have kZ0 := Cells10.c0 CZ2
    have kZ1 := Cells10.c1 CZ2
    have kZ2 := Cells10.c2 CZ2
    have kZ3 := Cells10.c3 CZ2
    have kZ4 := Cells10.c4 CZ2
    have kZ5 := Cells10.c5 CZ2
    have kZ6 := Cells10.c6 CZ2
    have kZ7 := Cells10.c7 CZ2
    have kZ8 := Cells10.c8 CZ2
    have kZ9 := Cells10.c9 CZ2
    go_wp2_with fail
    refine (rightID z.n z.l z.s z.d z.a0 z.a1 z.b0 z.b1 z.c0 z.c1 _ fz).mono ?_
    rintro e W3 ⟨rfl, h3⟩
    rw [Hz.out]
    clear kX0 kX1 kX2 kX3 kX4 kX5 kX6 kX7 kX8 kX9 kY0 kY1 kY2 kY3 kY4 kY5 kY6 kY7 kY8 kY9 kZ0 kZ1 kZ2 kZ3 kZ4 kZ5 kZ6 kZ7 kZ8 kZ9
    have CX3 := Holds10.kept CX2 lX2 h3
    have lX3 := Nat.lt_of_lt_of_le lX2 h3.size
    have CY3 := Holds10.kept CY2 lY2 h3
    have lY3 := Nat.lt_of_lt_of_le lY2 h3.size
    have CZ3 := Holds10.kept CZ2 lZ2 h3
    have lZ3 := Nat.lt_of_lt_of_le lZ2 h3.size
    have B3 := Lib.hid (B2.out.trans (h3.mono B2.out.size))
    clear h3 CX2 lX2 CY2 lY2 CZ2 lZ2 B2
    have kX0 := Cells10.c0 CX3
    have kX1 := Cells10.c1 CX3
    have kX2 := Cells10.c2 CX3
    have kX3 := Cells10.c3 CX3
    have kX4 := Cells10.c4 CX3
    have kX5 := Cells10.c5 CX3
    have kX6 := Cells10.c6 CX3
    have kX7 := Cells10.c7 CX3
    have kX8 := Cells10.c8 CX3
    have kX9 := Cells10.c9 CX3
    have kY0 := Cells10.c0 CY3
    have kY1 := Cells10.c1 CY3
    have kY2 := Cells10.c2 CY3
    have kY3 := Cells10.c3 CY3
    have kY4 := Cells10.c4 CY3
    have kY5 := Cells10.c5 CY3
    have kY6 := Cells10.c6 CY3
    have kY7 := Cells10.c7 CY3
    have kY8 := Cells10.c8 CY3
    have kY9 := Cells10.c9 CY3
    have kZ0 := Cells10.c0 CZ3
    have kZ1 := Cells10.c1 CZ3
    have kZ2 := Cells10.c2 CZ3
    have kZ3 := Cells10.c3 CZ3
    have kZ4 := Cells10.c4 CZ3
    have kZ5 := Cells10.c5 CZ3
    have kZ6 := Cells10.c6 CZ3
    have kZ7 := Cells10.c7 CZ3
    have kZ8 := Cells10.c8 CZ3
    have kZ9 := Cells10.c9 CZ3
    go_wp2_with fail
    refine (knows _).mono ?_
    rintro e W4 ⟨rfl, h4⟩
    clear kX0 kX1 kX2 kX3 kX4 kX5 kX6 kX7 kX8 kX9 kY0 kY1 kY2 kY3 kY4 kY5 kY6 kY7 kY8 kY9 kZ0 kZ1 kZ2 kZ3 kZ4 kZ5 kZ6 kZ7 kZ8 kZ9
    have CX4 := Holds10.kept CX3 lX3 h4
    have lX4 := Nat.lt_of_lt_of_le lX3 h4.size
    have CY4 := Holds10.kept CY3 lY3 h4
    have lY4 := Nat.lt_of_lt_of_le lY3 h4.size
    have CZ4 := Holds10.kept CZ3 lZ3 h4
    have lZ4 := Nat.lt_of_lt_of_le lZ3 h4.size
    have B4 := Lib.hid (B3.out.trans (h4.mono B3.out.size))
    clear h4 CX3 lX3 CY3 lY3 CZ3 lZ3 B3
    have kX0 := Cells10.c0 CX4
    have kX1 := Cells10.c1 CX4
    have kX2 := Cells10.c2 CX4
    have kX3 := Cells10.c3 CX4
    have kX4 := Cells10.c4 CX4
    have kX5 := Cells10.c5 CX4
    have kX6 := Cells10.c6 CX4
    have kX7 := Cells10.c7 CX4
    have kX8 := Cells10.c8 CX4
    have kX9 := Cells10.c9 CX4
    have kY0 := Cells10.c0 CY4
    have kY1 := Cells10.c1 CY4
    have kY2 := Cells10.c2 CY4
    have kY3 := Cells10.c3 CY4
    have kY4 := Cells10.c4 CY4
    have kY5 := Cells10.c5 CY4
    have kY6 := Cells10.c6 CY4
    have kY7 := Cells10.c7 CY4
    have kY8 := Cells10.c8 CY4
    have kY9 := Cells10.c9 CY4
    have kZ0 := Cells10.c0 CZ4
    have kZ1 := Cells10.c1 CZ4
    have kZ2 := Cells10.c2 CZ4
    have kZ3 := Cells10.c3 CZ4
    have kZ4 := Cells10.c4 CZ4
    have kZ5 := Cells10.c5 CZ4
    have kZ6 := Cells10.c6 CZ4
    have kZ7 := Cells10.c7 CZ4
    have kZ8 := Cells10.c8 CZ4
    have kZ9 := Cells10.c9 CZ4
    go_wp2_with fail
    refine (compare x.n x.l x.s x.d x.a0 x.a1 x.b0 x.b1 x.c0 x.c1 y.n y.l y.s y.d y.a0 y.a1 y.b0 y.b1 y.c0 y.c1 _ fx fy).mono ?_
    rintro e W5 ⟨rfl, h5⟩
    rw [EXY.out]
    clear kX0 kX1 kX2 kX3 kX4 kX5 kX6 kX7 kX8 kX9 kY0 kY1 kY2 kY3 kY4 kY5 kY6 kY7 kY8 kY9 kZ0 kZ1 kZ2 kZ3 kZ4 kZ5 kZ6 kZ7 kZ8 kZ9
    have CX5 := Holds10.kept CX4 lX4 h5
    have lX5 := Nat.lt_of_lt_of_le lX4 h5.size
    have CY5 := Holds10.kept CY4 lY4 h5
    have lY5 := Nat.lt_of_lt_of_le lY4 h5.size
    have CZ5 := Holds10.kept CZ4 lZ4 h5
    have lZ5 := Nat.lt_of_lt_of_le lZ4 h5.size
    have B5 := Lib.hid (B4.out.trans (h5.mono B4.out.size))
    clear h5 CX4 lX4 CY4 lY4 CZ4 lZ4 B4
    have kX0 := Cells10.c0 CX5
    have kX1 := Cells10.c1 CX5
    have kX2 := Cells10.c2 CX5
    have kX3 := Cells10.c3 CX5
    have kX4 := Cells10.c4 CX5
    have kX5 := Cells10.c5 CX5
    have kX6 := Cells10.c6 CX5
    have kX7 := Cells10.c7 CX5
    have kX8 := Cells10.c8 CX5
    have kX9 := Cells10.c9 CX5
    have kY0 := Cells10.c0 CY5
    have kY1 := Cells10.c1 CY5
    have kY2 := Cells10.c2 CY5
    have kY3 := Cells10.c3 CY5
    have kY4 := Cells10.c4 CY5
    have kY5 := Cells10.c5 CY5
    have kY6 := Cells10.c6 CY5
    have kY7 := Cells10.c7 CY5
    have kY8 := Cells10.c8 CY5
    have kY9 := Cells10.c9 CY5
    have kZ0 := Cells10.c0 CZ5
    have kZ1 := Cells10.c1 CZ5
    have kZ2 := Cells10.c2 CZ5
    have kZ3 := Cells10.c3 CZ5
    have kZ4 := Cells10.c4 CZ5
    have kZ5 := Cells10.c5 CZ5
    have kZ6 := Cells10.c6 CZ5
    have kZ7 := Cells10.c7 CZ5
    have kZ8 := Cells10.c8 CZ5
    have kZ9 := Cells10.c9 CZ5
    go_wp2_with fail
    refine (compare y.n y.l y.s y.d y.a0 y.a1 y.b0 y.b1 y.c0 y.c1 z.n z.l z.s z.d z.a0 z.a1 z.b0 z.b1 z.c0 z.c1 _ fy fz).mono ?_
    rintro e W6 ⟨rfl, h6⟩
    rw [EYZ.out]
    clear kX0 kX1 kX2 kX3 kX4 kX5 kX6 kX7 kX8 kX9 kY0 kY1 kY2 kY3 kY4 kY5 kY6 kY7 kY8 kY9 kZ0 kZ1 kZ2 kZ3 kZ4 kZ5 kZ6 kZ7 kZ8 kZ9
    have CX6 := Holds10.kept CX5 lX5 h6
    have lX6 := Nat.lt_of_lt_of_le lX5 h6.size
    have CY6 := Holds10.kept CY5 lY5 h6
    have lY6 := Nat.lt_of_lt_of_le lY5 h6.size
    have CZ6 := Holds10.kept CZ5 lZ5 h6
    have lZ6 := Nat.lt_of_lt_of_le lZ5 h6.size
    have B6 := Lib.hid (B5.out.trans (h6.mono B5.out.size))
    clear h6 CX5 lX5 CY5 lY5 CZ5 lZ5 B5
    have kX0 := Cells10.c0 CX6
    have kX1 := Cells10.c1 CX6
    have kX2 := Cells10.c2 CX6
    have kX3 := Cells10.c3 CX6
    have kX4 := Cells10.c4 CX6
    have kX5 := Cells10.c5 CX6
    have kX6 := Cells10.c6 CX6
    have kX7 := Cells10.c7 CX6
    have kX8 := Cells10.c8 CX6
    have kX9 := Cells10.c9 CX6
    have kY0 := Cells10.c0 CY6
    have kY1 := Cells10.c1 CY6
    have kY2 := Cells10.c2 CY6
    have kY3 := Cells10.c3 CY6
    have kY4 := Cells10.c4 CY6
    have kY5 := Cells10.c5 CY6
    have kY6 := Cells10.c6 CY6
    have kY7 := Cells10.c7 CY6
    have kY8 := Cells10.c8 CY6
    have kY9 := Cells10.c9 CY6
    have kZ0 := Cells10.c0 CZ6
    have kZ1 := Cells10.c1 CZ6
    have kZ2 := Cells10.c2 CZ6
    have kZ3 := Cells10.c3 CZ6
    have kZ4 := Cells10.c4 CZ6
    have kZ5 := Cells10.c5 CZ6
    have kZ6 := Cells10.c6 CZ6
    have kZ7 := Cells10.c7 CZ6
    have kZ8 := Cells10.c8 CZ6
    have kZ9 := Cells10.c9 CZ6
    rcases HXY.out with rfl | rfl | rfl
    · rcases HYZ.out with rfl | rfl | rfl
      · have hne : eqI x y = false := by
          cases he : eqI x y with
          | false => rfl
          | true =>
            have := (cmp_zero Fx.out Fy.out).2 (eqI_iff.1 he)
            have h2 : x.cmp y = (-1) := EXY.out
            omega
        have hE : ∀ W, (Op.equalIn (9999 + 1) 35 (.agg #[.int .u8 x.n, .int .u16 x.l, .int .u32 x.s, .int .u8 x.d, .int .u8 x.a0, .int .u8 x.a1, .int .u8 x.b0, .int .u8 x.b1, .int .u8 x.c0, .int .u8 x.c1]) (.agg #[.int .u8 y.n, .int .u16 y.l, .int .u32 y.s, .int .u8 y.d, .int .u8 y.a0, .int .u8 y.a1, .int .u8 y.b0, .int .u8 y.b1, .int .u8 y.c0, .int .u8 y.c1])).run Try.prog W = .ok false W := fun W => by rw [eqIDrun]; exact congrArg (fun b => Result.ok b W) hne
        clear hne
        have eyx : y.cmp x = 1 := by
          have := cmp_anti Fx.out Fy.out
          have h2 : x.cmp y = (-1) := EXY.out
          omega
        have EYX := Lib.hid eyx
        clear eyx
        go_wp2_with fail
        refine (compare y.n y.l y.s y.d y.a0 y.a1 y.b0 y.b1 y.c0 y.c1 x.n x.l x.s x.d x.a0 x.a1 x.b0 x.b1 x.c0 x.c1 _ fy fx).mono ?_
        rintro e W7 ⟨rfl, h7⟩
        rw [show ci _ _ _ _ _ _ _ _ _ _ _ _ _ _ _ _ _ _ _ _ = _ from EYX.out]
        clear kX0 kX1 kX2 kX3 kX4 kX5 kX6 kX7 kX8 kX9 kY0 kY1 kY2 kY3 kY4 kY5 kY6 kY7 kY8 kY9 kZ0 kZ1 kZ2 kZ3 kZ4 kZ5 kZ6 kZ7 kZ8 kZ9
        have CX7 := Holds10.kept CX6 lX6 h7
        have lX7 := Nat.lt_of_lt_of_le lX6 h7.size
        have CY7 := Holds10.kept CY6 lY6 h7
        have lY7 := Nat.lt_of_lt_of_le lY6 h7.size
        have CZ7 := Holds10.kept CZ6 lZ6 h7
        have lZ7 := Nat.lt_of_lt_of_le lZ6 h7.size
        have B7 := Lib.hid (B6.out.trans (h7.mono B6.out.size))
        clear h7 CX6 lX6 CY6 lY6 CZ6 lZ6 B6
        have kX0 := Cells10.c0 CX7
        have kX1 := Cells10.c1 CX7
        have kX2 := Cells10.c2 CX7
        have kX3 := Cells10.c3 CX7
        have kX4 := Cells10.c4 CX7
        have kX5 := Cells10.c5 CX7
        have kX6 := Cells10.c6 CX7
        have kX7 := Cells10.c7 CX7
        have kX8 := Cells10.c8 CX7
        have kX9 := Cells10.c9 CX7
        have kY0 := Cells10.c0 CY7
        have kY1 := Cells10.c1 CY7
        have kY2 := Cells10.c2 CY7
        have kY3 := Cells10.c3 CY7
        have kY4 := Cells10.c4 CY7
        have kY5 := Cells10.c5 CY7
        have kY6 := Cells10.c6 CY7
        have kY7 := Cells10.c7 CY7
        have kY8 := Cells10.c8 CY7
        have kY9 := Cells10.c9 CY7
        have kZ0 := Cells10.c0 CZ7
        have kZ1 := Cells10.c1 CZ7
        have kZ2 := Cells10.c2 CZ7
        have kZ3 := Cells10.c3 CZ7
        have kZ4 := Cells10.c4 CZ7
        have kZ5 := Cells10.c5 CZ7
        have kZ6 := Cells10.c6 CZ7
        have kZ7 := Cells10.c7 CZ7
        have kZ8 := Cells10.c8 CZ7
        have kZ9 := Cells10.c9 CZ7
        have exz : x.cmp z ≤ 0 := by
          have h1 : x.cmp y = (-1) := EXY.out
          have h2 : y.cmp z = (-1) := EYZ.out
          exact cmp_trans Fx.out Fy.out Fz.out (by omega) (by omega)
        have exz' : x.cmp z = ci x.n x.l x.s x.d x.a0 x.a1 x.b0 x.b1 x.c0 x.c1 z.n z.l z.s z.d z.a0 z.a1 z.b0 z.b1 z.c0 z.c1 := rfl
        obtain ⟨v, hv⟩ : ∃ v, v = x.cmp z := ⟨_, rfl⟩
        rw [← hv] at exz exz'
        have EV := Lib.hid exz'
        clear exz' hv
        go_wp2_with fail
        refine (compare x.n x.l x.s x.d x.a0 x.a1 x.b0 x.b1 x.c0 x.c1 z.n z.l z.s z.d z.a0 z.a1 z.b0 z.b1 z.c0 z.c1 _ fx fz).mono ?_
        rintro e W8 ⟨rfl, h8⟩
        rw [← EV.out]
        clear kX0 kX1 kX2 kX3 kX4 kX5 kX6 kX7 kX8 kX9 kY0 kY1 kY2 kY3 kY4 kY5 kY6 kY7 kY8 kY9 kZ0 kZ1 kZ2 kZ3 kZ4 kZ5 kZ6 kZ7 kZ8 kZ9
        have CX8 := Holds10.kept CX7 lX7 h8
        have lX8 := Nat.lt_of_lt_of_le lX7 h8.size
        have CY8 := Holds10.kept CY7 lY7 h8
        have lY8 := Nat.lt_of_lt_of_le lY7 h8.size
        have CZ8 := Holds10.kept CZ7 lZ7 h8
        have lZ8 := Nat.lt_of_lt_of_le lZ7 h8.size
        have B8 := Lib.hid (B7.out.trans (h8.mono B7.out.size))
        clear h8 CX7 lX7 CY7 lY7 CZ7 lZ7 B7
        have kX0 := Cells10.c0 CX8
        have kX1 := Cells10.c1 CX8
        have kX2 := Cells10.c2 CX8
        have kX3 := Cells10.c3 CX8
        have kX4 := Cells10.c4 CX8
        have kX5 := Cells10.c5 CX8
        have kX6 := Cells10.c6 CX8
        have kX7 := Cells10.c7 CX8
        have kX8 := Cells10.c8 CX8
        have kX9 := Cells10.c9 CX8
        have kY0 := Cells10.c0 CY8
        have kY1 := Cells10.c1 CY8
        have kY2 := Cells10.c2 CY8
        have kY3 := Cells10.c3 CY8
        have kY4 := Cells10.c4 CY8
        have kY5 := Cells10.c5 CY8
        have kY6 := Cells10.c6 CY8
        have kY7 := Cells10.c7 CY8
        have kY8 := Cells10.c8 CY8
        have kY9 := Cells10.c9 CY8
        have kZ0 := Cells10.c0 CZ8
        have kZ1 := Cells10.c1 CZ8
        have kZ2 := Cells10.c2 CZ8
        have kZ3 := Cells10.c3 CZ8
        have kZ4 := Cells10.c4 CZ8
        have kZ5 := Cells10.c5 CZ8
        have kZ6 := Cells10.c6 CZ8
        have kZ7 := Cells10.c7 CZ8
        have kZ8 := Cells10.c8 CZ8
        have kZ9 := Cells10.c9 CZ8
        by_cases u1 : und x z = true
        rotate_left
        · have u1' : und x z = false := by simpa using u1
          clear u1
          have U1 := Lib.hid u1'
          clear u1'
          go_wp2_with fail
          refine (under x z _ Hx.out Fx.out Fz.out).mono ?_
          rintro e W9 ⟨rfl, h9⟩
          rw [U1.out]
          clear kX0 kX1 kX2 kX3 kX4 kX5 kX6 kX7 kX8 kX9 kY0 kY1 kY2 kY3 kY4 kY5 kY6 kY7 kY8 kY9 kZ0 kZ1 kZ2 kZ3 kZ4 kZ5 kZ6 kZ7 kZ8 kZ9
          have CX9 := Holds10.kept CX8 lX8 h9
          have lX9 := Nat.lt_of_lt_of_le lX8 h9.size
          have CY9 := Holds10.kept CY8 lY8 h9
          have lY9 := Nat.lt_of_lt_of_le lY8 h9.size
          have CZ9 := Holds10.kept CZ8 lZ8 h9
          have lZ9 := Nat.lt_of_lt_of_le lZ8 h9.size
          have B9 := Lib.hid (B8.out.trans (h9.mono B8.out.size))
          clear h9 CX8 lX8 CY8 lY8 CZ8 lZ8 B8
          have kX0 := Cells10.c0 CX9
          have kX1 := Cells10.c1 CX9
          have kX2 := Cells10.c2 CX9
          have kX3 := Cells10.c3 CX9
          have kX4 := Cells10.c4 CX9
          have kX5 := Cells10.c5 CX9
          have kX6 := Cells10.c6 CX9
          have kX7 := Cells10.c7 CX9
          have kX8 := Cells10.c8 CX9
          have kX9 := Cells10.c9 CX9
          have kY0 := Cells10.c0 CY9
          have kY1 := Cells10.c1 CY9
          have kY2 := Cells10.c2 CY9
          have kY3 := Cells10.c3 CY9
          have kY4 := Cells10.c4 CY9
          have kY5 := Cells10.c5 CY9
          have kY6 := Cells10.c6 CY9
          have kY7 := Cells10.c7 CY9
          have kY8 := Cells10.c8 CY9
          have kY9 := Cells10.c9 CY9
          have kZ0 := Cells10.c0 CZ9
          have kZ1 := Cells10.c1 CZ9
          have kZ2 := Cells10.c2 CZ9
          have kZ3 := Cells10.c3 CZ9
          have kZ4 := Cells10.c4 CZ9
          have kZ5 := Cells10.c5 CZ9
          have kZ6 := Cells10.c6 CZ9
          have kZ7 := Cells10.c7 CZ9
          have kZ8 := Cells10.c8 CZ9
          have kZ9 := Cells10.c9 CZ9
          go_wp2
          go_ret
          exact ⟨rfl, B9.out⟩
        have U1 := Lib.hid u1
        clear u1
        go_wp2_with fail
        refine (under x z _ Hx.out Fx.out Fz.out).mono ?_
        rintro e W9 ⟨rfl, h9⟩
        rw [U1.out]
        clear kX0 kX1 kX2 kX3 kX4 kX5 kX6 kX7 kX8 kX9 kY0 kY1 kY2 kY3 kY4 kY5 kY6 kY7 kY8 kY9 kZ0 kZ1 kZ2 kZ3 kZ4 kZ5 kZ6 kZ7 kZ8 kZ9
        have CX9 := Holds10.kept CX8 lX8 h9
        have lX9 := Nat.lt_of_lt_of_le lX8 h9.size
        have CY9 := Holds10.kept CY8 lY8 h9
        have lY9 := Nat.lt_of_lt_of_le lY8 h9.size
        have CZ9 := Holds10.kept CZ8 lZ8 h9
        have lZ9 := Nat.lt_of_lt_of_le lZ8 h9.size
        have B9 := Lib.hid (B8.out.trans (h9.mono B8.out.size))
        clear h9 CX8 lX8 CY8 lY8 CZ8 lZ8 B8
        have kX0 := Cells10.c0 CX9
        have kX1 := Cells10.c1 CX9
        have kX2 := Cells10.c2 CX9
        have kX3 := Cells10.c3 CX9
        have kX4 := Cells10.c4 CX9
        have kX5 := Cells10.c5 CX9
        have kX6 := Cells10.c6 CX9
        have kX7 := Cells10.c7 CX9
        have kX8 := Cells10.c8 CX9
        have kX9 := Cells10.c9 CX9
        have kY0 := Cells10.c0 CY9
        have kY1 := Cells10.c1 CY9
        have kY2 := Cells10.c2 CY9
        have kY3 := Cells10.c3 CY9
        have kY4 := Cells10.c4 CY9
        have kY5 := Cells10.c5 CY9
        have kY6 := Cells10.c6 CY9
        have kY7 := Cells10.c7 CY9
        have kY8 := Cells10.c8 CY9
        have kY9 := Cells10.c9 CY9
        have kZ0 := Cells10.c0 CZ9
        have kZ1 := Cells10.c1 CZ9
        have kZ2 := Cells10.c2 CZ9
        have kZ3 := Cells10.c3 CZ9
        have kZ4 := Cells10.c4 CZ9
        have kZ5 := Cells10.c5 CZ9
        have kZ6 := Cells10.c6 CZ9
        have kZ7 := Cells10.c7 CZ9
        have kZ8 := Cells10.c8 CZ9
        have kZ9 := Cells10.c9 CZ9
        by_cases u2 : und y z = true
        · have U2 := Lib.hid u2
          clear u2
          go_wp2_with fail
          refine (under y z _ Hy.out Fy.out Fz.out).mono ?_
          rintro e W10 ⟨rfl, h10⟩
          rw [U2.out]
          clear kX0 kX1 kX2 kX3 kX4 kX5 kX6 kX7 kX8 kX9 kY0 kY1 kY2 kY3 kY4 kY5 kY6 kY7 kY8 kY9 kZ0 kZ1 kZ2 kZ3 kZ4 kZ5 kZ6 kZ7 kZ8 kZ9
          have CX10 := Holds10.kept CX9 lX9 h10
          have lX10 := Nat.lt_of_lt_of_le lX9 h10.size
          have CY10 := Holds10.kept CY9 lY9 h10
          have lY10 := Nat.lt_of_lt_of_le lY9 h10.size
          have CZ10 := Holds10.kept CZ9 lZ9 h10
          have lZ10 := Nat.lt_of_lt_of_le lZ9 h10.size
          have B10 := Lib.hid (B9.out.trans (h10.mono B9.out.size))
          clear h10 CX9 lX9 CY9 lY9 CZ9 lZ9 B9
          have kX0 := Cells10.c0 CX10
          have kX1 := Cells10.c1 CX10
          have kX2 := Cells10.c2 CX10
          have kX3 := Cells10.c3 CX10
          have kX4 := Cells10.c4 CX10
          have kX5 := Cells10.c5 CX10
          have kX6 := Cells10.c6 CX10
          have kX7 := Cells10.c7 CX10
          have kX8 := Cells10.c8 CX10
          have kX9 := Cells10.c9 CX10
          have kY0 := Cells10.c0 CY10
          have kY1 := Cells10.c1 CY10
          have kY2 := Cells10.c2 CY10
          have kY3 := Cells10.c3 CY10
          have kY4 := Cells10.c4 CY10
          have kY5 := Cells10.c5 CY10
          have kY6 := Cells10.c6 CY10
          have kY7 := Cells10.c7 CY10
          have kY8 := Cells10.c8 CY10
          have kY9 := Cells10.c9 CY10
          have kZ0 := Cells10.c0 CZ10
          have kZ1 := Cells10.c1 CZ10
          have kZ2 := Cells10.c2 CZ10
          have kZ3 := Cells10.c3 CZ10
          have kZ4 := Cells10.c4 CZ10
          have kZ5 := Cells10.c5 CZ10
          have kZ6 := Cells10.c6 CZ10
          have kZ7 := Cells10.c7 CZ10
          have kZ8 := Cells10.c8 CZ10
          have kZ9 := Cells10.c9 CZ10
          go_wp2
          go_ret
          exact ⟨rfl, B10.out⟩
        have u2' : und y z = false := by simpa using u2
        clear u2
        have U2 := Lib.hid u2'
        clear u2'
        have ezy : z.cmp y = 1 := by
          have := cmp_anti Fy.out Fz.out
          have h2 : y.cmp z = (-1) := EYZ.out
          omega
        have EZY := Lib.hid ezy
        clear ezy
        go_wp2_with fail
        refine (under y z _ Hy.out Fy.out Fz.out).mono ?_
        rintro e W10 ⟨rfl, h10⟩
        rw [U2.out]
        clear kX0 kX1 kX2 kX3 kX4 kX5 kX6 kX7 kX8 kX9 kY0 kY1 kY2 kY3 kY4 kY5 kY6 kY7 kY8 kY9 kZ0 kZ1 kZ2 kZ3 kZ4 kZ5 kZ6 kZ7 kZ8 kZ9
        have CX10 := Holds10.kept CX9 lX9 h10
        have lX10 := Nat.lt_of_lt_of_le lX9 h10.size
        have CY10 := Holds10.kept CY9 lY9 h10
        have lY10 := Nat.lt_of_lt_of_le lY9 h10.size
        have CZ10 := Holds10.kept CZ9 lZ9 h10
        have lZ10 := Nat.lt_of_lt_of_le lZ9 h10.size
        have B10 := Lib.hid (B9.out.trans (h10.mono B9.out.size))
        clear h10 CX9 lX9 CY9 lY9 CZ9 lZ9 B9
        have kX0 := Cells10.c0 CX10
        have kX1 := Cells10.c1 CX10
        have kX2 := Cells10.c2 CX10
        have kX3 := Cells10.c3 CX10
        have kX4 := Cells10.c4 CX10
        have kX5 := Cells10.c5 CX10
        have kX6 := Cells10.c6 CX10
        have kX7 := Cells10.c7 CX10
        have kX8 := Cells10.c8 CX10
        have kX9 := Cells10.c9 CX10
        have kY0 := Cells10.c0 CY10
        have kY1 := Cells10.c1 CY10
        have kY2 := Cells10.c2 CY10
        have kY3 := Cells10.c3 CY10
        have kY4 := Cells10.c4 CY10
        have kY5 := Cells10.c5 CY10
        have kY6 := Cells10.c6 CY10
        have kY7 := Cells10.c7 CY10
        have kY8 := Cells10.c8 CY10
        have kY9 := Cells10.c9 CY10
        have kZ0 := Cells10.c0 CZ10
        have kZ1 := Cells10.c1 CZ10
        have kZ2 := Cells10.c2 CZ10
        have kZ3 := Cells10.c3 CZ10
        have kZ4 := Cells10.c4 CZ10
        have kZ5 := Cells10.c5 CZ10
        have kZ6 := Cells10.c6 CZ10
        have kZ7 := Cells10.c7 CZ10
        have kZ8 := Cells10.c8 CZ10
        have kZ9 := Cells10.c9 CZ10
        go_wp2_with fail
        refine (compare z.n z.l z.s z.d z.a0 z.a1 z.b0 z.b1 z.c0 z.c1 y.n y.l y.s y.d y.a0 y.a1 y.b0 y.b1 y.c0 y.c1 _ fz fy).mono ?_
        rintro e W11 ⟨rfl, h11⟩
        rw [show ci _ _ _ _ _ _ _ _ _ _ _ _ _ _ _ _ _ _ _ _ = _ from EZY.out]
        clear kX0 kX1 kX2 kX3 kX4 kX5 kX6 kX7 kX8 kX9 kY0 kY1 kY2 kY3 kY4 kY5 kY6 kY7 kY8 kY9 kZ0 kZ1 kZ2 kZ3 kZ4 kZ5 kZ6 kZ7 kZ8 kZ9
        have CX11 := Holds10.kept CX10 lX10 h11
        have lX11 := Nat.lt_of_lt_of_le lX10 h11.size
        have CY11 := Holds10.kept CY10 lY10 h11
        have lY11 := Nat.lt_of_lt_of_le lY10 h11.size
        have CZ11 := Holds10.kept CZ10 lZ10 h11
        have lZ11 := Nat.lt_of_lt_of_le lZ10 h11.size
        have B11 := Lib.hid (B10.out.trans (h11.mono B10.out.size))
        clear h11 CX10 lX10 CY10 lY10 CZ10 lZ10 B10
        have kX0 := Cells10.c0 CX11
        have kX1 := Cells10.c1 CX11
        have kX2 := Cells10.c2 CX11
        have kX3 := Cells10.c3 CX11
        have kX4 := Cells10.c4 CX11
        have kX5 := Cells10.c5 CX11
        have kX6 := Cells10.c6 CX11
        have kX7 := Cells10.c7 CX11
        have kX8 := Cells10.c8 CX11
        have kX9 := Cells10.c9 CX11
        have kY0 := Cells10.c0 CY11
        have kY1 := Cells10.c1 CY11
        have kY2 := Cells10.c2 CY11
        have kY3 := Cells10.c3 CY11
        have kY4 := Cells10.c4 CY11
        have kY5 := Cells10.c5 CY11
        have kY6 := Cells10.c6 CY11
        have kY7 := Cells10.c7 CY11
        have kY8 := Cells10.c8 CY11
        have kY9 := Cells10.c9 CY11
        have kZ0 := Cells10.c0 CZ11
        have kZ1 := Cells10.c1 CZ11
        have kZ2 := Cells10.c2 CZ11
        have kZ3 := Cells10.c3 CZ11
        have kZ4 := Cells10.c4 CZ11
        have kZ5 := Cells10.c5 CZ11
        have kZ6 := Cells10.c6 CZ11
        have kZ7 := Cells10.c7 CZ11
        have kZ8 := Cells10.c8 CZ11
        have kZ9 := Cells10.c9 CZ11
        go_wp2
        go_ret
        exact ⟨rfl, B11.out⟩
      · have hne : eqI x y = false := by
          cases he : eqI x y with
          | false => rfl
          | true =>
            have := (cmp_zero Fx.out Fy.out).2 (eqI_iff.1 he)
            have h2 : x.cmp y = (-1) := EXY.out
            omega
        have hE : ∀ W, (Op.equalIn (9999 + 1) 35 (.agg #[.int .u8 x.n, .int .u16 x.l, .int .u32 x.s, .int .u8 x.d, .int .u8 x.a0, .int .u8 x.a1, .int .u8 x.b0, .int .u8 x.b1, .int .u8 x.c0, .int .u8 x.c1]) (.agg #[.int .u8 y.n, .int .u16 y.l, .int .u32 y.s, .int .u8 y.d, .int .u8 y.a0, .int .u8 y.a1, .int .u8 y.b0, .int .u8 y.b1, .int .u8 y.c0, .int .u8 y.c1])).run Try.prog W = .ok false W := fun W => by rw [eqIDrun]; exact congrArg (fun b => Result.ok b W) hne
        clear hne
        have eyx : y.cmp x = 1 := by
          have := cmp_anti Fx.out Fy.out
          have h2 : x.cmp y = (-1) := EXY.out
          omega
        have EYX := Lib.hid eyx
        clear eyx
        go_wp2_with fail
        refine (compare y.n y.l y.s y.d y.a0 y.a1 y.b0 y.b1 y.c0 y.c1 x.n x.l x.s x.d x.a0 x.a1 x.b0 x.b1 x.c0 x.c1 _ fy fx).mono ?_
        rintro e W7 ⟨rfl, h7⟩
        rw [show ci _ _ _ _ _ _ _ _ _ _ _ _ _ _ _ _ _ _ _ _ = _ from EYX.out]
        clear kX0 kX1 kX2 kX3 kX4 kX5 kX6 kX7 kX8 kX9 kY0 kY1 kY2 kY3 kY4 kY5 kY6 kY7 kY8 kY9 kZ0 kZ1 kZ2 kZ3 kZ4 kZ5 kZ6 kZ7 kZ8 kZ9
        have CX7 := Holds10.kept CX6 lX6 h7
        have lX7 := Nat.lt_of_lt_of_le lX6 h7.size
        have CY7 := Holds10.kept CY6 lY6 h7
        have lY7 := Nat.lt_of_lt_of_le lY6 h7.size
        have CZ7 := Holds10.kept CZ6 lZ6 h7
        have lZ7 := Nat.lt_of_lt_of_le lZ6 h7.size
        have B7 := Lib.hid (B6.out.trans (h7.mono B6.out.size))
        clear h7 CX6 lX6 CY6 lY6 CZ6 lZ6 B6
        have kX0 := Cells10.c0 CX7
        have kX1 := Cells10.c1 CX7
        have kX2 := Cells10.c2 CX7
        have kX3 := Cells10.c3 CX7
        have kX4 := Cells10.c4 CX7
        have kX5 := Cells10.c5 CX7
        have kX6 := Cells10.c6 CX7
        have kX7 := Cells10.c7 CX7
        have kX8 := Cells10.c8 CX7
        have kX9 := Cells10.c9 CX7
        have kY0 := Cells10.c0 CY7
        have kY1 := Cells10.c1 CY7
        have kY2 := Cells10.c2 CY7
        have kY3 := Cells10.c3 CY7
        have kY4 := Cells10.c4 CY7
        have kY5 := Cells10.c5 CY7
        have kY6 := Cells10.c6 CY7
        have kY7 := Cells10.c7 CY7
        have kY8 := Cells10.c8 CY7
        have kY9 := Cells10.c9 CY7
        have kZ0 := Cells10.c0 CZ7
        have kZ1 := Cells10.c1 CZ7
        have kZ2 := Cells10.c2 CZ7
        have kZ3 := Cells10.c3 CZ7
        have kZ4 := Cells10.c4 CZ7
        have kZ5 := Cells10.c5 CZ7
        have kZ6 := Cells10.c6 CZ7
        have kZ7 := Cells10.c7 CZ7
        have kZ8 := Cells10.c8 CZ7
        have kZ9 := Cells10.c9 CZ7
        have exz : x.cmp z ≤ 0 := by
          have h1 : x.cmp y = (-1) := EXY.out
          have h2 : y.cmp z = 0 := EYZ.out
          exact cmp_trans Fx.out Fy.out Fz.out (by omega) (by omega)
        have exz' : x.cmp z = ci x.n x.l x.s x.d x.a0 x.a1 x.b0 x.b1 x.c0 x.c1 z.n z.l z.s z.d z.a0 z.a1 z.b0 z.b1 z.c0 z.c1 := rfl
        obtain ⟨v, hv⟩ : ∃ v, v = x.cmp z := ⟨_, rfl⟩
        rw [← hv] at exz exz'
        have EV := Lib.hid exz'
        clear exz' hv
        go_wp2_with fail
        refine (compare x.n x.l x.s x.d x.a0 x.a1 x.b0 x.b1 x.c0 x.c1 z.n z.l z.s z.d z.a0 z.a1 z.b0 z.b1 z.c0 z.c1 _ fx fz).mono ?_
        rintro e W8 ⟨rfl, h8⟩
        rw [← EV.out]
        clear kX0 kX1 kX2 kX3 kX4 kX5 kX6 kX7 kX8 kX9 kY0 kY1 kY2 kY3 kY4 kY5 kY6 kY7 kY8 kY9 kZ0 kZ1 kZ2 kZ3 kZ4 kZ5 kZ6 kZ7 kZ8 kZ9
        have CX8 := Holds10.kept CX7 lX7 h8
        have lX8 := Nat.lt_of_lt_of_le lX7 h8.size
        have CY8 := Holds10.kept CY7 lY7 h8
        have lY8 := Nat.lt_of_lt_of_le lY7 h8.size
        have CZ8 := Holds10.kept CZ7 lZ7 h8
        have lZ8 := Nat.lt_of_lt_of_le lZ7 h8.size
        have B8 := Lib.hid (B7.out.trans (h8.mono B7.out.size))
        clear h8 CX7 lX7 CY7 lY7 CZ7 lZ7 B7
        have kX0 := Cells10.c0 CX8
        have kX1 := Cells10.c1 CX8
        have kX2 := Cells10.c2 CX8
        have kX3 := Cells10.c3 CX8
        have kX4 := Cells10.c4 CX8
        have kX5 := Cells10.c5 CX8
        have kX6 := Cells10.c6 CX8
        have kX7 := Cells10.c7 CX8
        have kX8 := Cells10.c8 CX8
        have kX9 := Cells10.c9 CX8
        have kY0 := Cells10.c0 CY8
        have kY1 := Cells10.c1 CY8
        have kY2 := Cells10.c2 CY8
        have kY3 := Cells10.c3 CY8
        have kY4 := Cells10.c4 CY8
        have kY5 := Cells10.c5 CY8
        have kY6 := Cells10.c6 CY8
        have kY7 := Cells10.c7 CY8
        have kY8 := Cells10.c8 CY8
        have kY9 := Cells10.c9 CY8
        have kZ0 := Cells10.c0 CZ8
        have kZ1 := Cells10.c1 CZ8
        have kZ2 := Cells10.c2 CZ8
        have kZ3 := Cells10.c3 CZ8
        have kZ4 := Cells10.c4 CZ8
        have kZ5 := Cells10.c5 CZ8
        have kZ6 := Cells10.c6 CZ8
        have kZ7 := Cells10.c7 CZ8
        have kZ8 := Cells10.c8 CZ8
        have kZ9 := Cells10.c9 CZ8
        by_cases u1 : und x z = true
        rotate_left
        · have u1' : und x z = false := by simpa using u1
          clear u1
          have U1 := Lib.hid u1'
          clear u1'
          go_wp2_with fail
          refine (under x z _ Hx.out Fx.out Fz.out).mono ?_
          rintro e W9 ⟨rfl, h9⟩
          rw [U1.out]
          clear kX0 kX1 kX2 kX3 kX4 kX5 kX6 kX7 kX8 kX9 kY0 kY1 kY2 kY3 kY4 kY5 kY6 kY7 kY8 kY9 kZ0 kZ1 kZ2 kZ3 kZ4 kZ5 kZ6 kZ7 kZ8 kZ9
          have CX9 := Holds10.kept CX8 lX8 h9
          have lX9 := Nat.lt_of_lt_of_le lX8 h9.size
          have CY9 := Holds10.kept CY8 lY8 h9
          have lY9 := Nat.lt_of_lt_of_le lY8 h9.size
          have CZ9 := Holds10.kept CZ8 lZ8 h9
          have lZ9 := Nat.lt_of_lt_of_le lZ8 h9.size
          have B9 := Lib.hid (B8.out.trans (h9.mono B8.out.size))
          clear h9 CX8 lX8 CY8 lY8 CZ8 lZ8 B8
          have kX0 := Cells10.c0 CX9
          have kX1 := Cells10.c1 CX9
          have kX2 := Cells10.c2 CX9
          have kX3 := Cells10.c3 CX9
          have kX4 := Cells10.c4 CX9
          have kX5 := Cells10.c5 CX9
          have kX6 := Cells10.c6 CX9
          have kX7 := Cells10.c7 CX9
          have kX8 := Cells10.c8 CX9
          have kX9 := Cells10.c9 CX9
          have kY0 := Cells10.c0 CY9
          have kY1 := Cells10.c1 CY9
          have kY2 := Cells10.c2 CY9
          have kY3 := Cells10.c3 CY9
          have kY4 := Cells10.c4 CY9
          have kY5 := Cells10.c5 CY9
          have kY6 := Cells10.c6 CY9
          have kY7 := Cells10.c7 CY9
          have kY8 := Cells10.c8 CY9
          have kY9 := Cells10.c9 CY9
          have kZ0 := Cells10.c0 CZ9
          have kZ1 := Cells10.c1 CZ9
          have kZ2 := Cells10.c2 CZ9
          have kZ3 := Cells10.c3 CZ9
          have kZ4 := Cells10.c4 CZ9
          have kZ5 := Cells10.c5 CZ9
          have kZ6 := Cells10.c6 CZ9
          have kZ7 := Cells10.c7 CZ9
          have kZ8 := Cells10.c8 CZ9
          have kZ9 := Cells10.c9 CZ9
          go_wp2
          go_ret
          exact ⟨rfl, B9.out⟩
        have U1 := Lib.hid u1
        clear u1
        go_wp2_with fail
        refine (under x z _ Hx.out Fx.out Fz.out).mono ?_
        rintro e W9 ⟨rfl, h9⟩
        rw [U1.out]
        clear kX0 kX1 kX2 kX3 kX4 kX5 kX6 kX7 kX8 kX9 kY0 kY1 kY2 kY3 kY4 kY5 kY6 kY7 kY8 kY9 kZ0 kZ1 kZ2 kZ3 kZ4 kZ5 kZ6 kZ7 kZ8 kZ9
        have CX9 := Holds10.kept CX8 lX8 h9
        have lX9 := Nat.lt_of_lt_of_le lX8 h9.size
        have CY9 := Holds10.kept CY8 lY8 h9
        have lY9 := Nat.lt_of_lt_of_le lY8 h9.size
        have CZ9 := Holds10.kept CZ8 lZ8 h9
        have lZ9 := Nat.lt_of_lt_of_le lZ8 h9.size
        have B9 := Lib.hid (B8.out.trans (h9.mono B8.out.size))
        clear h9 CX8 lX8 CY8 lY8 CZ8 lZ8 B8
        have kX0 := Cells10.c0 CX9
        have kX1 := Cells10.c1 CX9
        have kX2 := Cells10.c2 CX9
        have kX3 := Cells10.c3 CX9
        have kX4 := Cells10.c4 CX9
        have kX5 := Cells10.c5 CX9
        have kX6 := Cells10.c6 CX9
        have kX7 := Cells10.c7 CX9
        have kX8 := Cells10.c8 CX9
        have kX9 := Cells10.c9 CX9
        have kY0 := Cells10.c0 CY9
        have kY1 := Cells10.c1 CY9
        have kY2 := Cells10.c2 CY9
        have kY3 := Cells10.c3 CY9
        have kY4 := Cells10.c4 CY9
        have kY5 := Cells10.c5 CY9
        have kY6 := Cells10.c6 CY9
        have kY7 := Cells10.c7 CY9
        have kY8 := Cells10.c8 CY9
        have kY9 := Cells10.c9 CY9
        have kZ0 := Cells10.c0 CZ9
        have kZ1 := Cells10.c1 CZ9
        have kZ2 := Cells10.c2 CZ9
        have kZ3 := Cells10.c3 CZ9
        have kZ4 := Cells10.c4 CZ9
        have kZ5 := Cells10.c5 CZ9
        have kZ6 := Cells10.c6 CZ9
        have kZ7 := Cells10.c7 CZ9
        have kZ8 := Cells10.c8 CZ9
        have kZ9 := Cells10.c9 CZ9
        by_cases u2 : und y z = true
        · have U2 := Lib.hid u2
          clear u2
          go_wp2_with fail
          refine (under y z _ Hy.out Fy.out Fz.out).mono ?_
          rintro e W10 ⟨rfl, h10⟩
          rw [U2.out]
          clear kX0 kX1 kX2 kX3 kX4 kX5 kX6 kX7 kX8 kX9 kY0 kY1 kY2 kY3 kY4 kY5 kY6 kY7 kY8 kY9 kZ0 kZ1 kZ2 kZ3 kZ4 kZ5 kZ6 kZ7 kZ8 kZ9
          have CX10 := Holds10.kept CX9 lX9 h10
          have lX10 := Nat.lt_of_lt_of_le lX9 h10.size
          have CY10 := Holds10.kept CY9 lY9 h10
          have lY10 := Nat.lt_of_lt_of_le lY9 h10.size
          have CZ10 := Holds10.kept CZ9 lZ9 h10
          have lZ10 := Nat.lt_of_lt_of_le lZ9 h10.size
          have B10 := Lib.hid (B9.out.trans (h10.mono B9.out.size))
          clear h10 CX9 lX9 CY9 lY9 CZ9 lZ9 B9
          have kX0 := Cells10.c0 CX10
          have kX1 := Cells10.c1 CX10
          have kX2 := Cells10.c2 CX10
          have kX3 := Cells10.c3 CX10
          have kX4 := Cells10.c4 CX10
          have kX5 := Cells10.c5 CX10
          have kX6 := Cells10.c6 CX10
          have kX7 := Cells10.c7 CX10
          have kX8 := Cells10.c8 CX10
          have kX9 := Cells10.c9 CX10
          have kY0 := Cells10.c0 CY10
          have kY1 := Cells10.c1 CY10
          have kY2 := Cells10.c2 CY10
          have kY3 := Cells10.c3 CY10
          have kY4 := Cells10.c4 CY10
          have kY5 := Cells10.c5 CY10
          have kY6 := Cells10.c6 CY10
          have kY7 := Cells10.c7 CY10
          have kY8 := Cells10.c8 CY10
          have kY9 := Cells10.c9 CY10
          have kZ0 := Cells10.c0 CZ10
          have kZ1 := Cells10.c1 CZ10
          have kZ2 := Cells10.c2 CZ10
          have kZ3 := Cells10.c3 CZ10
          have kZ4 := Cells10.c4 CZ10
          have kZ5 := Cells10.c5 CZ10
          have kZ6 := Cells10.c6 CZ10
          have kZ7 := Cells10.c7 CZ10
          have kZ8 := Cells10.c8 CZ10
          have kZ9 := Cells10.c9 CZ10
          go_wp2
          go_ret
          exact ⟨rfl, B10.out⟩
        have u2' : und y z = false := by simpa using u2
        clear u2
        have U2 := Lib.hid u2'
        clear u2'
        have ezy : z.cmp y = 0 := by
          have := cmp_anti Fy.out Fz.out
          have h2 : y.cmp z = 0 := EYZ.out
          omega
        have EZY := Lib.hid ezy
        clear ezy
        go_wp2_with fail
        refine (under y z _ Hy.out Fy.out Fz.out).mono ?_
        rintro e W10 ⟨rfl, h10⟩
        rw [U2.out]
        clear kX0 kX1 kX2 kX3 kX4 kX5 kX6 kX7 kX8 kX9 kY0 kY1 kY2 kY3 kY4 kY5 kY6 kY7 kY8 kY9 kZ0 kZ1 kZ2 kZ3 kZ4 kZ5 kZ6 kZ7 kZ8 kZ9
        have CX10 := Holds10.kept CX9 lX9 h10
        have lX10 := Nat.lt_of_lt_of_le lX9 h10.size
        have CY10 := Holds10.kept CY9 lY9 h10
        have lY10 := Nat.lt_of_lt_of_le lY9 h10.size
        have CZ10 := Holds10.kept CZ9 lZ9 h10
        have lZ10 := Nat.lt_of_lt_of_le lZ9 h10.size
        have B10 := Lib.hid (B9.out.trans (h10.mono B9.out.size))
        clear h10 CX9 lX9 CY9 lY9 CZ9 lZ9 B9
        have kX0 := Cells10.c0 CX10
        have kX1 := Cells10.c1 CX10
        have kX2 := Cells10.c2 CX10
        have kX3 := Cells10.c3 CX10
        have kX4 := Cells10.c4 CX10
        have kX5 := Cells10.c5 CX10
        have kX6 := Cells10.c6 CX10
        have kX7 := Cells10.c7 CX10
        have kX8 := Cells10.c8 CX10
        have kX9 := Cells10.c9 CX10
        have kY0 := Cells10.c0 CY10
        have kY1 := Cells10.c1 CY10
        have kY2 := Cells10.c2 CY10
        have kY3 := Cells10.c3 CY10
        have kY4 := Cells10.c4 CY10
        have kY5 := Cells10.c5 CY10
        have kY6 := Cells10.c6 CY10
        have kY7 := Cells10.c7 CY10
        have kY8 := Cells10.c8 CY10
        have kY9 := Cells10.c9 CY10
        have kZ0 := Cells10.c0 CZ10
        have kZ1 := Cells10.c1 CZ10
        have kZ2 := Cells10.c2 CZ10
        have kZ3 := Cells10.c3 CZ10
        have kZ4 := Cells10.c4 CZ10
        have kZ5 := Cells10.c5 CZ10
        have kZ6 := Cells10.c6 CZ10
        have kZ7 := Cells10.c7 CZ10
        have kZ8 := Cells10.c8 CZ10
        have kZ9 := Cells10.c9 CZ10
        go_wp2_with fail
        refine (compare z.n z.l z.s z.d z.a0 z.a1 z.b0 z.b1 z.c0 z.c1 y.n y.l y.s y.d y.a0 y.a1 y.b0 y.b1 y.c0 y.c1 _ fz fy).mono ?_
        rintro e W11 ⟨rfl, h11⟩
        rw [show ci _ _ _ _ _ _ _ _ _ _ _ _ _ _ _ _ _ _ _ _ = _ from EZY.out]
        clear kX0 kX1 kX2 kX3 kX4 kX5 kX6 kX7 kX8 kX9 kY0 kY1 kY2 kY3 kY4 kY5 kY6 kY7 kY8 kY9 kZ0 kZ1 kZ2 kZ3 kZ4 kZ5 kZ6 kZ7 kZ8 kZ9
        have CX11 := Holds10.kept CX10 lX10 h11
        have lX11 := Nat.lt_of_lt_of_le lX10 h11.size
        have CY11 := Holds10.kept CY10 lY10 h11
        have lY11 := Nat.lt_of_lt_of_le lY10 h11.size
        have CZ11 := Holds10.kept CZ10 lZ10 h11
        have lZ11 := Nat.lt_of_lt_of_le lZ10 h11.size
        have B11 := Lib.hid (B10.out.trans (h11.mono B10.out.size))
        clear h11 CX10 lX10 CY10 lY10 CZ10 lZ10 B10
        have kX0 := Cells10.c0 CX11
        have kX1 := Cells10.c1 CX11
        have kX2 := Cells10.c2 CX11
        have kX3 := Cells10.c3 CX11
        have kX4 := Cells10.c4 CX11
        have kX5 := Cells10.c5 CX11
        have kX6 := Cells10.c6 CX11
        have kX7 := Cells10.c7 CX11
        have kX8 := Cells10.c8 CX11
        have kX9 := Cells10.c9 CX11
        have kY0 := Cells10.c0 CY11
        have kY1 := Cells10.c1 CY11
        have kY2 := Cells10.c2 CY11
        have kY3 := Cells10.c3 CY11
        have kY4 := Cells10.c4 CY11
        have kY5 := Cells10.c5 CY11
        have kY6 := Cells10.c6 CY11
        have kY7 := Cells10.c7 CY11
        have kY8 := Cells10.c8 CY11
        have kY9 := Cells10.c9 CY11
        have kZ0 := Cells10.c0 CZ11
        have kZ1 := Cells10.c1 CZ11
        have kZ2 := Cells10.c2 CZ11
        have kZ3 := Cells10.c3 CZ11
        have kZ4 := Cells10.c4 CZ11
        have kZ5 := Cells10.c5 CZ11
        have kZ6 := Cells10.c6 CZ11
        have kZ7 := Cells10.c7 CZ11
        have kZ8 := Cells10.c8 CZ11
        have kZ9 := Cells10.c9 CZ11
        go_wp2
        go_ret
        exact ⟨rfl, B11.out⟩
      · have hne : eqI x y = false := by
          cases he : eqI x y with
          | false => rfl
          | true =>
            have := (cmp_zero Fx.out Fy.out).2 (eqI_iff.1 he)
            have h2 : x.cmp y = (-1) := EXY.out
            omega
        have hE : ∀ W, (Op.equalIn (9999 + 1) 35 (.agg #[.int .u8 x.n, .int .u16 x.l, .int .u32 x.s, .int .u8 x.d, .int .u8 x.a0, .int .u8 x.a1, .int .u8 x.b0, .int .u8 x.b1, .int .u8 x.c0, .int .u8 x.c1]) (.agg #[.int .u8 y.n, .int .u16 y.l, .int .u32 y.s, .int .u8 y.d, .int .u8 y.a0, .int .u8 y.a1, .int .u8 y.b0, .int .u8 y.b1, .int .u8 y.c0, .int .u8 y.c1])).run Try.prog W = .ok false W := fun W => by rw [eqIDrun]; exact congrArg (fun b => Result.ok b W) hne
        clear hne
        have eyx : y.cmp x = 1 := by
          have := cmp_anti Fx.out Fy.out
          have h2 : x.cmp y = (-1) := EXY.out
          omega
        have EYX := Lib.hid eyx
        clear eyx
        go_wp2_with fail
        refine (compare y.n y.l y.s y.d y.a0 y.a1 y.b0 y.b1 y.c0 y.c1 x.n x.l x.s x.d x.a0 x.a1 x.b0 x.b1 x.c0 x.c1 _ fy fx).mono ?_
        rintro e W7 ⟨rfl, h7⟩
        rw [show ci _ _ _ _ _ _ _ _ _ _ _ _ _ _ _ _ _ _ _ _ = _ from EYX.out]
        clear kX0 kX1 kX2 kX3 kX4 kX5 kX6 kX7 kX8 kX9 kY0 kY1 kY2 kY3 kY4 kY5 kY6 kY7 kY8 kY9 kZ0 kZ1 kZ2 kZ3 kZ4 kZ5 kZ6 kZ7 kZ8 kZ9
        have CX7 := Holds10.kept CX6 lX6 h7
        have lX7 := Nat.lt_of_lt_of_le lX6 h7.size
        have CY7 := Holds10.kept CY6 lY6 h7
        have lY7 := Nat.lt_of_lt_of_le lY6 h7.size
        have CZ7 := Holds10.kept CZ6 lZ6 h7
        have lZ7 := Nat.lt_of_lt_of_le lZ6 h7.size
        have B7 := Lib.hid (B6.out.trans (h7.mono B6.out.size))
        clear h7 CX6 lX6 CY6 lY6 CZ6 lZ6 B6
        have kX0 := Cells10.c0 CX7
        have kX1 := Cells10.c1 CX7
        have kX2 := Cells10.c2 CX7
        have kX3 := Cells10.c3 CX7
        have kX4 := Cells10.c4 CX7
        have kX5 := Cells10.c5 CX7
        have kX6 := Cells10.c6 CX7
        have kX7 := Cells10.c7 CX7
        have kX8 := Cells10.c8 CX7
        have kX9 := Cells10.c9 CX7
        have kY0 := Cells10.c0 CY7
        have kY1 := Cells10.c1 CY7
        have kY2 := Cells10.c2 CY7
        have kY3 := Cells10.c3 CY7
        have kY4 := Cells10.c4 CY7
        have kY5 := Cells10.c5 CY7
        have kY6 := Cells10.c6 CY7
        have kY7 := Cells10.c7 CY7
        have kY8 := Cells10.c8 CY7
        have kY9 := Cells10.c9 CY7
        have kZ0 := Cells10.c0 CZ7
        have kZ1 := Cells10.c1 CZ7
        have kZ2 := Cells10.c2 CZ7
        have kZ3 := Cells10.c3 CZ7
        have kZ4 := Cells10.c4 CZ7
        have kZ5 := Cells10.c5 CZ7
        have kZ6 := Cells10.c6 CZ7
        have kZ7 := Cells10.c7 CZ7
        have kZ8 := Cells10.c8 CZ7
        have kZ9 := Cells10.c9 CZ7
        by_cases u1 : und x z = true
        rotate_left
        · have u1' : und x z = false := by simpa using u1
          clear u1
          have U1 := Lib.hid u1'
          clear u1'
          go_wp2_with fail
          refine (under x z _ Hx.out Fx.out Fz.out).mono ?_
          rintro e W8 ⟨rfl, h8⟩
          rw [U1.out]
          clear kX0 kX1 kX2 kX3 kX4 kX5 kX6 kX7 kX8 kX9 kY0 kY1 kY2 kY3 kY4 kY5 kY6 kY7 kY8 kY9 kZ0 kZ1 kZ2 kZ3 kZ4 kZ5 kZ6 kZ7 kZ8 kZ9
          have CX8 := Holds10.kept CX7 lX7 h8
          have lX8 := Nat.lt_of_lt_of_le lX7 h8.size
          have CY8 := Holds10.kept CY7 lY7 h8
          have lY8 := Nat.lt_of_lt_of_le lY7 h8.size
          have CZ8 := Holds10.kept CZ7 lZ7 h8
          have lZ8 := Nat.lt_of_lt_of_le lZ7 h8.size
          have B8 := Lib.hid (B7.out.trans (h8.mono B7.out.size))
          clear h8 CX7 lX7 CY7 lY7 CZ7 lZ7 B7
          have kX0 := Cells10.c0 CX8
          have kX1 := Cells10.c1 CX8
          have kX2 := Cells10.c2 CX8
          have kX3 := Cells10.c3 CX8
          have kX4 := Cells10.c4 CX8
          have kX5 := Cells10.c5 CX8
          have kX6 := Cells10.c6 CX8
          have kX7 := Cells10.c7 CX8
          have kX8 := Cells10.c8 CX8
          have kX9 := Cells10.c9 CX8
          have kY0 := Cells10.c0 CY8
          have kY1 := Cells10.c1 CY8
          have kY2 := Cells10.c2 CY8
          have kY3 := Cells10.c3 CY8
          have kY4 := Cells10.c4 CY8
          have kY5 := Cells10.c5 CY8
          have kY6 := Cells10.c6 CY8
          have kY7 := Cells10.c7 CY8
          have kY8 := Cells10.c8 CY8
          have kY9 := Cells10.c9 CY8
          have kZ0 := Cells10.c0 CZ8
          have kZ1 := Cells10.c1 CZ8
          have kZ2 := Cells10.c2 CZ8
          have kZ3 := Cells10.c3 CZ8
          have kZ4 := Cells10.c4 CZ8
          have kZ5 := Cells10.c5 CZ8
          have kZ6 := Cells10.c6 CZ8
          have kZ7 := Cells10.c7 CZ8
          have kZ8 := Cells10.c8 CZ8
          have kZ9 := Cells10.c9 CZ8
          go_wp2
          go_ret
          exact ⟨rfl, B8.out⟩
        have U1 := Lib.hid u1
        clear u1
        go_wp2_with fail
        refine (under x z _ Hx.out Fx.out Fz.out).mono ?_
        rintro e W8 ⟨rfl, h8⟩
        rw [U1.out]
        clear kX0 kX1 kX2 kX3 kX4 kX5 kX6 kX7 kX8 kX9 kY0 kY1 kY2 kY3 kY4 kY5 kY6 kY7 kY8 kY9 kZ0 kZ1 kZ2 kZ3 kZ4 kZ5 kZ6 kZ7 kZ8 kZ9
        have CX8 := Holds10.kept CX7 lX7 h8
        have lX8 := Nat.lt_of_lt_of_le lX7 h8.size
        have CY8 := Holds10.kept CY7 lY7 h8
        have lY8 := Nat.lt_of_lt_of_le lY7 h8.size
        have CZ8 := Holds10.kept CZ7 lZ7 h8
        have lZ8 := Nat.lt_of_lt_of_le lZ7 h8.size
        have B8 := Lib.hid (B7.out.trans (h8.mono B7.out.size))
        clear h8 CX7 lX7 CY7 lY7 CZ7 lZ7 B7
        have kX0 := Cells10.c0 CX8
        have kX1 := Cells10.c1 CX8
        have kX2 := Cells10.c2 CX8
        have kX3 := Cells10.c3 CX8
        have kX4 := Cells10.c4 CX8
        have kX5 := Cells10.c5 CX8
        have kX6 := Cells10.c6 CX8
        have kX7 := Cells10.c7 CX8
        have kX8 := Cells10.c8 CX8
        have kX9 := Cells10.c9 CX8
        have kY0 := Cells10.c0 CY8
        have kY1 := Cells10.c1 CY8
        have kY2 := Cells10.c2 CY8
        have kY3 := Cells10.c3 CY8
        have kY4 := Cells10.c4 CY8
        have kY5 := Cells10.c5 CY8
        have kY6 := Cells10.c6 CY8
        have kY7 := Cells10.c7 CY8
        have kY8 := Cells10.c8 CY8
        have kY9 := Cells10.c9 CY8
        have kZ0 := Cells10.c0 CZ8
        have kZ1 := Cells10.c1 CZ8
        have kZ2 := Cells10.c2 CZ8
        have kZ3 := Cells10.c3 CZ8
        have kZ4 := Cells10.c4 CZ8
        have kZ5 := Cells10.c5 CZ8
        have kZ6 := Cells10.c6 CZ8
        have kZ7 := Cells10.c7 CZ8
        have kZ8 := Cells10.c8 CZ8
        have kZ9 := Cells10.c9 CZ8
        by_cases u2 : und y z = true
        · have U2 := Lib.hid u2
          clear u2
          go_wp2_with fail
          refine (under y z _ Hy.out Fy.out Fz.out).mono ?_
          rintro e W9 ⟨rfl, h9⟩
          rw [U2.out]
          clear kX0 kX1 kX2 kX3 kX4 kX5 kX6 kX7 kX8 kX9 kY0 kY1 kY2 kY3 kY4 kY5 kY6 kY7 kY8 kY9 kZ0 kZ1 kZ2 kZ3 kZ4 kZ5 kZ6 kZ7 kZ8 kZ9
          have CX9 := Holds10.kept CX8 lX8 h9
          have lX9 := Nat.lt_of_lt_of_le lX8 h9.size
          have CY9 := Holds10.kept CY8 lY8 h9
          have lY9 := Nat.lt_of_lt_of_le lY8 h9.size
          have CZ9 := Holds10.kept CZ8 lZ8 h9
          have lZ9 := Nat.lt_of_lt_of_le lZ8 h9.size
          have B9 := Lib.hid (B8.out.trans (h9.mono B8.out.size))
          clear h9 CX8 lX8 CY8 lY8 CZ8 lZ8 B8
          have kX0 := Cells10.c0 CX9
          have kX1 := Cells10.c1 CX9
          have kX2 := Cells10.c2 CX9
          have kX3 := Cells10.c3 CX9
          have kX4 := Cells10.c4 CX9
          have kX5 := Cells10.c5 CX9
          have kX6 := Cells10.c6 CX9
          have kX7 := Cells10.c7 CX9
          have kX8 := Cells10.c8 CX9
          have kX9 := Cells10.c9 CX9
          have kY0 := Cells10.c0 CY9
          have kY1 := Cells10.c1 CY9
          have kY2 := Cells10.c2 CY9
          have kY3 := Cells10.c3 CY9
          have kY4 := Cells10.c4 CY9
          have kY5 := Cells10.c5 CY9
          have kY6 := Cells10.c6 CY9
          have kY7 := Cells10.c7 CY9
          have kY8 := Cells10.c8 CY9
          have kY9 := Cells10.c9 CY9
          have kZ0 := Cells10.c0 CZ9
          have kZ1 := Cells10.c1 CZ9
          have kZ2 := Cells10.c2 CZ9
          have kZ3 := Cells10.c3 CZ9
          have kZ4 := Cells10.c4 CZ9
          have kZ5 := Cells10.c5 CZ9
          have kZ6 := Cells10.c6 CZ9
          have kZ7 := Cells10.c7 CZ9
          have kZ8 := Cells10.c8 CZ9
          have kZ9 := Cells10.c9 CZ9
          go_wp2
          go_ret
          exact ⟨rfl, B9.out⟩
        have u2' : und y z = false := by simpa using u2
        clear u2
        have U2 := Lib.hid u2'
        clear u2'
        have ezy : z.cmp y = (-1) := by
          have := cmp_anti Fy.out Fz.out
          have h2 : y.cmp z = 1 := EYZ.out
          omega
        have EZY := Lib.hid ezy
        clear ezy
        go_wp2_with fail
        refine (under y z _ Hy.out Fy.out Fz.out).mono ?_
        rintro e W9 ⟨rfl, h9⟩
        rw [U2.out]
        clear kX0 kX1 kX2 kX3 kX4 kX5 kX6 kX7 kX8 kX9 kY0 kY1 kY2 kY3 kY4 kY5 kY6 kY7 kY8 kY9 kZ0 kZ1 kZ2 kZ3 kZ4 kZ5 kZ6 kZ7 kZ8 kZ9
        have CX9 := Holds10.kept CX8 lX8 h9
        have lX9 := Nat.lt_of_lt_of_le lX8 h9.size
        have CY9 := Holds10.kept CY8 lY8 h9
        have lY9 := Nat.lt_of_lt_of_le lY8 h9.size
        have CZ9 := Holds10.kept CZ8 lZ8 h9
        have lZ9 := Nat.lt_of_lt_of_le lZ8 h9.size
        have B9 := Lib.hid (B8.out.trans (h9.mono B8.out.size))
        clear h9 CX8 lX8 CY8 lY8 CZ8 lZ8 B8
        have kX0 := Cells10.c0 CX9
        have kX1 := Cells10.c1 CX9
        have kX2 := Cells10.c2 CX9
        have kX3 := Cells10.c3 CX9
        have kX4 := Cells10.c4 CX9
        have kX5 := Cells10.c5 CX9
        have kX6 := Cells10.c6 CX9
        have kX7 := Cells10.c7 CX9
        have kX8 := Cells10.c8 CX9
        have kX9 := Cells10.c9 CX9
        have kY0 := Cells10.c0 CY9
        have kY1 := Cells10.c1 CY9
        have kY2 := Cells10.c2 CY9
        have kY3 := Cells10.c3 CY9
        have kY4 := Cells10.c4 CY9
        have kY5 := Cells10.c5 CY9
        have kY6 := Cells10.c6 CY9
        have kY7 := Cells10.c7 CY9
        have kY8 := Cells10.c8 CY9
        have kY9 := Cells10.c9 CY9
        have kZ0 := Cells10.c0 CZ9
        have kZ1 := Cells10.c1 CZ9
        have kZ2 := Cells10.c2 CZ9
        have kZ3 := Cells10.c3 CZ9
        have kZ4 := Cells10.c4 CZ9
        have kZ5 := Cells10.c5 CZ9
        have kZ6 := Cells10.c6 CZ9
        have kZ7 := Cells10.c7 CZ9
        have kZ8 := Cells10.c8 CZ9
        have kZ9 := Cells10.c9 CZ9
        go_wp2_with fail
        refine (compare z.n z.l z.s z.d z.a0 z.a1 z.b0 z.b1 z.c0 z.c1 y.n y.l y.s y.d y.a0 y.a1 y.b0 y.b1 y.c0 y.c1 _ fz fy).mono ?_
        rintro e W10 ⟨rfl, h10⟩
        rw [show ci _ _ _ _ _ _ _ _ _ _ _ _ _ _ _ _ _ _ _ _ = _ from EZY.out]
        clear kX0 kX1 kX2 kX3 kX4 kX5 kX6 kX7 kX8 kX9 kY0 kY1 kY2 kY3 kY4 kY5 kY6 kY7 kY8 kY9 kZ0 kZ1 kZ2 kZ3 kZ4 kZ5 kZ6 kZ7 kZ8 kZ9
        have CX10 := Holds10.kept CX9 lX9 h10
        have lX10 := Nat.lt_of_lt_of_le lX9 h10.size
        have CY10 := Holds10.kept CY9 lY9 h10
        have lY10 := Nat.lt_of_lt_of_le lY9 h10.size
        have CZ10 := Holds10.kept CZ9 lZ9 h10
        have lZ10 := Nat.lt_of_lt_of_le lZ9 h10.size
        have B10 := Lib.hid (B9.out.trans (h10.mono B9.out.size))
        clear h10 CX9 lX9 CY9 lY9 CZ9 lZ9 B9
        have kX0 := Cells10.c0 CX10
        have kX1 := Cells10.c1 CX10
        have kX2 := Cells10.c2 CX10
        have kX3 := Cells10.c3 CX10
        have kX4 := Cells10.c4 CX10
        have kX5 := Cells10.c5 CX10
        have kX6 := Cells10.c6 CX10
        have kX7 := Cells10.c7 CX10
        have kX8 := Cells10.c8 CX10
        have kX9 := Cells10.c9 CX10
        have kY0 := Cells10.c0 CY10
        have kY1 := Cells10.c1 CY10
        have kY2 := Cells10.c2 CY10
        have kY3 := Cells10.c3 CY10
        have kY4 := Cells10.c4 CY10
        have kY5 := Cells10.c5 CY10
        have kY6 := Cells10.c6 CY10
        have kY7 := Cells10.c7 CY10
        have kY8 := Cells10.c8 CY10
        have kY9 := Cells10.c9 CY10
        have kZ0 := Cells10.c0 CZ10
        have kZ1 := Cells10.c1 CZ10
        have kZ2 := Cells10.c2 CZ10
        have kZ3 := Cells10.c3 CZ10
        have kZ4 := Cells10.c4 CZ10
        have kZ5 := Cells10.c5 CZ10
        have kZ6 := Cells10.c6 CZ10
        have kZ7 := Cells10.c7 CZ10
        have kZ8 := Cells10.c8 CZ10
        have kZ9 := Cells10.c9 CZ10
        go_wp2
        go_ret
        exact ⟨rfl, B10.out⟩
    · rcases HYZ.out with rfl | rfl | rfl
      · obtain rfl : x = y := (cmp_zero Fx.out Fy.out).1 (show ci _ _ _ _ _ _ _ _ _ _ _ _ _ _ _ _ _ _ _ _ = 0 from EXY.out)
        have hE := eqArrID
        have eyx : x.cmp x = 0 := by
          have := cmp_anti Fx.out Fx.out
          have h2 : x.cmp x = 0 := EXY.out
          omega
        have EYX := Lib.hid eyx
        clear eyx
        go_wp2_with fail
        refine (compare x.n x.l x.s x.d x.a0 x.a1 x.b0 x.b1 x.c0 x.c1 x.n x.l x.s x.d x.a0 x.a1 x.b0 x.b1 x.c0 x.c1 _ fx fx).mono ?_
        rintro e W7 ⟨rfl, h7⟩
        rw [show ci _ _ _ _ _ _ _ _ _ _ _ _ _ _ _ _ _ _ _ _ = _ from EYX.out]
        clear kX0 kX1 kX2 kX3 kX4 kX5 kX6 kX7 kX8 kX9 kY0 kY1 kY2 kY3 kY4 kY5 kY6 kY7 kY8 kY9 kZ0 kZ1 kZ2 kZ3 kZ4 kZ5 kZ6 kZ7 kZ8 kZ9
        have CX7 := Holds10.kept CX6 lX6 h7
        have lX7 := Nat.lt_of_lt_of_le lX6 h7.size
        have CY7 := Holds10.kept CY6 lY6 h7
        have lY7 := Nat.lt_of_lt_of_le lY6 h7.size
        have CZ7 := Holds10.kept CZ6 lZ6 h7
        have lZ7 := Nat.lt_of_lt_of_le lZ6 h7.size
        have B7 := Lib.hid (B6.out.trans (h7.mono B6.out.size))
        clear h7 CX6 lX6 CY6 lY6 CZ6 lZ6 B6
        have kX0 := Cells10.c0 CX7
        have kX1 := Cells10.c1 CX7
        have kX2 := Cells10.c2 CX7
        have kX3 := Cells10.c3 CX7
        have kX4 := Cells10.c4 CX7
        have kX5 := Cells10.c5 CX7
        have kX6 := Cells10.c6 CX7
        have kX7 := Cells10.c7 CX7
        have kX8 := Cells10.c8 CX7
        have kX9 := Cells10.c9 CX7
        have kY0 := Cells10.c0 CY7
        have kY1 := Cells10.c1 CY7
        have kY2 := Cells10.c2 CY7
        have kY3 := Cells10.c3 CY7
        have kY4 := Cells10.c4 CY7
        have kY5 := Cells10.c5 CY7
        have kY6 := Cells10.c6 CY7
        have kY7 := Cells10.c7 CY7
        have kY8 := Cells10.c8 CY7
        have kY9 := Cells10.c9 CY7
        have kZ0 := Cells10.c0 CZ7
        have kZ1 := Cells10.c1 CZ7
        have kZ2 := Cells10.c2 CZ7
        have kZ3 := Cells10.c3 CZ7
        have kZ4 := Cells10.c4 CZ7
        have kZ5 := Cells10.c5 CZ7
        have kZ6 := Cells10.c6 CZ7
        have kZ7 := Cells10.c7 CZ7
        have kZ8 := Cells10.c8 CZ7
        have kZ9 := Cells10.c9 CZ7
        have exz : x.cmp z ≤ 0 := by
          have h1 : x.cmp x = 0 := EXY.out
          have h2 : x.cmp z = (-1) := EYZ.out
          exact cmp_trans Fx.out Fx.out Fz.out (by omega) (by omega)
        have exz' : x.cmp z = ci x.n x.l x.s x.d x.a0 x.a1 x.b0 x.b1 x.c0 x.c1 z.n z.l z.s z.d z.a0 z.a1 z.b0 z.b1 z.c0 z.c1 := rfl
        obtain ⟨v, hv⟩ : ∃ v, v = x.cmp z := ⟨_, rfl⟩
        rw [← hv] at exz exz'
        have EV := Lib.hid exz'
        clear exz' hv
        go_wp2_with fail
        refine (compare x.n x.l x.s x.d x.a0 x.a1 x.b0 x.b1 x.c0 x.c1 z.n z.l z.s z.d z.a0 z.a1 z.b0 z.b1 z.c0 z.c1 _ fx fz).mono ?_
        rintro e W8 ⟨rfl, h8⟩
        rw [← EV.out]
        clear kX0 kX1 kX2 kX3 kX4 kX5 kX6 kX7 kX8 kX9 kY0 kY1 kY2 kY3 kY4 kY5 kY6 kY7 kY8 kY9 kZ0 kZ1 kZ2 kZ3 kZ4 kZ5 kZ6 kZ7 kZ8 kZ9
        have CX8 := Holds10.kept CX7 lX7 h8
        have lX8 := Nat.lt_of_lt_of_le lX7 h8.size
        have CY8 := Holds10.kept CY7 lY7 h8
        have lY8 := Nat.lt_of_lt_of_le lY7 h8.size
        have CZ8 := Holds10.kept CZ7 lZ7 h8
        have lZ8 := Nat.lt_of_lt_of_le lZ7 h8.size
        have B8 := Lib.hid (B7.out.trans (h8.mono B7.out.size))
        clear h8 CX7 lX7 CY7 lY7 CZ7 lZ7 B7
        have kX0 := Cells10.c0 CX8
        have kX1 := Cells10.c1 CX8
        have kX2 := Cells10.c2 CX8
        have kX3 := Cells10.c3 CX8
        have kX4 := Cells10.c4 CX8
        have kX5 := Cells10.c5 CX8
        have kX6 := Cells10.c6 CX8
        have kX7 := Cells10.c7 CX8
        have kX8 := Cells10.c8 CX8
        have kX9 := Cells10.c9 CX8
        have kY0 := Cells10.c0 CY8
        have kY1 := Cells10.c1 CY8
        have kY2 := Cells10.c2 CY8
        have kY3 := Cells10.c3 CY8
        have kY4 := Cells10.c4 CY8
        have kY5 := Cells10.c5 CY8
        have kY6 := Cells10.c6 CY8
        have kY7 := Cells10.c7 CY8
        have kY8 := Cells10.c8 CY8
        have kY9 := Cells10.c9 CY8
        have kZ0 := Cells10.c0 CZ8
        have kZ1 := Cells10.c1 CZ8
        have kZ2 := Cells10.c2 CZ8
        have kZ3 := Cells10.c3 CZ8
        have kZ4 := Cells10.c4 CZ8
        have kZ5 := Cells10.c5 CZ8
        have kZ6 := Cells10.c6 CZ8
        have kZ7 := Cells10.c7 CZ8
        have kZ8 := Cells10.c8 CZ8
        have kZ9 := Cells10.c9 CZ8
        by_cases u1 : und x z = true
        rotate_left
        · have u1' : und x z = false := by simpa using u1
          clear u1
          have U1 := Lib.hid u1'
          clear u1'
          go_wp2_with fail
          refine (under x z _ Hx.out Fx.out Fz.out).mono ?_
          rintro e W9 ⟨rfl, h9⟩
          rw [U1.out]
          clear kX0 kX1 kX2 kX3 kX4 kX5 kX6 kX7 kX8 kX9 kY0 kY1 kY2 kY3 kY4 kY5 kY6 kY7 kY8 kY9 kZ0 kZ1 kZ2 kZ3 kZ4 kZ5 kZ6 kZ7 kZ8 kZ9
          have CX9 := Holds10.kept CX8 lX8 h9
          have lX9 := Nat.lt_of_lt_of_le lX8 h9.size
          have CY9 := Holds10.kept CY8 lY8 h9
          have lY9 := Nat.lt_of_lt_of_le lY8 h9.size
          have CZ9 := Holds10.kept CZ8 lZ8 h9
          have lZ9 := Nat.lt_of_lt_of_le lZ8 h9.size
          have B9 := Lib.hid (B8.out.trans (h9.mono B8.out.size))
          clear h9 CX8 lX8 CY8 lY8 CZ8 lZ8 B8
          have kX0 := Cells10.c0 CX9
          have kX1 := Cells10.c1 CX9
          have kX2 := Cells10.c2 CX9
          have kX3 := Cells10.c3 CX9
          have kX4 := Cells10.c4 CX9
          have kX5 := Cells10.c5 CX9
          have kX6 := Cells10.c6 CX9
          have kX7 := Cells10.c7 CX9
          have kX8 := Cells10.c8 CX9
          have kX9 := Cells10.c9 CX9
          have kY0 := Cells10.c0 CY9
          have kY1 := Cells10.c1 CY9
          have kY2 := Cells10.c2 CY9
          have kY3 := Cells10.c3 CY9
          have kY4 := Cells10.c4 CY9
          have kY5 := Cells10.c5 CY9
          have kY6 := Cells10.c6 CY9
          have kY7 := Cells10.c7 CY9
          have kY8 := Cells10.c8 CY9
          have kY9 := Cells10.c9 CY9
          have kZ0 := Cells10.c0 CZ9
          have kZ1 := Cells10.c1 CZ9
          have kZ2 := Cells10.c2 CZ9
          have kZ3 := Cells10.c3 CZ9
          have kZ4 := Cells10.c4 CZ9
          have kZ5 := Cells10.c5 CZ9
          have kZ6 := Cells10.c6 CZ9
          have kZ7 := Cells10.c7 CZ9
          have kZ8 := Cells10.c8 CZ9
          have kZ9 := Cells10.c9 CZ9
          go_wp2
          go_ret
          exact ⟨rfl, B9.out⟩
        have U1 := Lib.hid u1
        clear u1
        go_wp2_with fail
        refine (under x z _ Hx.out Fx.out Fz.out).mono ?_
        rintro e W9 ⟨rfl, h9⟩
        rw [U1.out]
        clear kX0 kX1 kX2 kX3 kX4 kX5 kX6 kX7 kX8 kX9 kY0 kY1 kY2 kY3 kY4 kY5 kY6 kY7 kY8 kY9 kZ0 kZ1 kZ2 kZ3 kZ4 kZ5 kZ6 kZ7 kZ8 kZ9
        have CX9 := Holds10.kept CX8 lX8 h9
        have lX9 := Nat.lt_of_lt_of_le lX8 h9.size
        have CY9 := Holds10.kept CY8 lY8 h9
        have lY9 := Nat.lt_of_lt_of_le lY8 h9.size
        have CZ9 := Holds10.kept CZ8 lZ8 h9
        have lZ9 := Nat.lt_of_lt_of_le lZ8 h9.size
        have B9 := Lib.hid (B8.out.trans (h9.mono B8.out.size))
        clear h9 CX8 lX8 CY8 lY8 CZ8 lZ8 B8
        have kX0 := Cells10.c0 CX9
        have kX1 := Cells10.c1 CX9
        have kX2 := Cells10.c2 CX9
        have kX3 := Cells10.c3 CX9
        have kX4 := Cells10.c4 CX9
        have kX5 := Cells10.c5 CX9
        have kX6 := Cells10.c6 CX9
        have kX7 := Cells10.c7 CX9
        have kX8 := Cells10.c8 CX9
        have kX9 := Cells10.c9 CX9
        have kY0 := Cells10.c0 CY9
        have kY1 := Cells10.c1 CY9
        have kY2 := Cells10.c2 CY9
        have kY3 := Cells10.c3 CY9
        have kY4 := Cells10.c4 CY9
        have kY5 := Cells10.c5 CY9
        have kY6 := Cells10.c6 CY9
        have kY7 := Cells10.c7 CY9
        have kY8 := Cells10.c8 CY9
        have kY9 := Cells10.c9 CY9
        have kZ0 := Cells10.c0 CZ9
        have kZ1 := Cells10.c1 CZ9
        have kZ2 := Cells10.c2 CZ9
        have kZ3 := Cells10.c3 CZ9
        have kZ4 := Cells10.c4 CZ9
        have kZ5 := Cells10.c5 CZ9
        have kZ6 := Cells10.c6 CZ9
        have kZ7 := Cells10.c7 CZ9
        have kZ8 := Cells10.c8 CZ9
        have kZ9 := Cells10.c9 CZ9
        go_wp2_with fail
        refine (under x z _ Hx.out Fx.out Fz.out).mono ?_
        rintro e W10 ⟨rfl, h10⟩
        rw [U1.out]
        clear kX0 kX1 kX2 kX3 kX4 kX5 kX6 kX7 kX8 kX9 kY0 kY1 kY2 kY3 kY4 kY5 kY6 kY7 kY8 kY9 kZ0 kZ1 kZ2 kZ3 kZ4 kZ5 kZ6 kZ7 kZ8 kZ9
        have CX10 := Holds10.kept CX9 lX9 h10
        have lX10 := Nat.lt_of_lt_of_le lX9 h10.size
        have CY10 := Holds10.kept CY9 lY9 h10
        have lY10 := Nat.lt_of_lt_of_le lY9 h10.size
        have CZ10 := Holds10.kept CZ9 lZ9 h10
        have lZ10 := Nat.lt_of_lt_of_le lZ9 h10.size
        have B10 := Lib.hid (B9.out.trans (h10.mono B9.out.size))
        clear h10 CX9 lX9 CY9 lY9 CZ9 lZ9 B9
        have kX0 := Cells10.c0 CX10
        have kX1 := Cells10.c1 CX10
        have kX2 := Cells10.c2 CX10
        have kX3 := Cells10.c3 CX10
        have kX4 := Cells10.c4 CX10
        have kX5 := Cells10.c5 CX10
        have kX6 := Cells10.c6 CX10
        have kX7 := Cells10.c7 CX10
        have kX8 := Cells10.c8 CX10
        have kX9 := Cells10.c9 CX10
        have kY0 := Cells10.c0 CY10
        have kY1 := Cells10.c1 CY10
        have kY2 := Cells10.c2 CY10
        have kY3 := Cells10.c3 CY10
        have kY4 := Cells10.c4 CY10
        have kY5 := Cells10.c5 CY10
        have kY6 := Cells10.c6 CY10
        have kY7 := Cells10.c7 CY10
        have kY8 := Cells10.c8 CY10
        have kY9 := Cells10.c9 CY10
        have kZ0 := Cells10.c0 CZ10
        have kZ1 := Cells10.c1 CZ10
        have kZ2 := Cells10.c2 CZ10
        have kZ3 := Cells10.c3 CZ10
        have kZ4 := Cells10.c4 CZ10
        have kZ5 := Cells10.c5 CZ10
        have kZ6 := Cells10.c6 CZ10
        have kZ7 := Cells10.c7 CZ10
        have kZ8 := Cells10.c8 CZ10
        have kZ9 := Cells10.c9 CZ10
        go_wp2
        go_ret
        exact ⟨rfl, B10.out⟩
      · obtain rfl : x = y := (cmp_zero Fx.out Fy.out).1 (show ci _ _ _ _ _ _ _ _ _ _ _ _ _ _ _ _ _ _ _ _ = 0 from EXY.out)
        have hE := eqArrID
        have eyx : x.cmp x = 0 := by
          have := cmp_anti Fx.out Fx.out
          have h2 : x.cmp x = 0 := EXY.out
          omega
        have EYX := Lib.hid eyx
        clear eyx
        go_wp2_with fail
        refine (compare x.n x.l x.s x.d x.a0 x.a1 x.b0 x.b1 x.c0 x.c1 x.n x.l x.s x.d x.a0 x.a1 x.b0 x.b1 x.c0 x.c1 _ fx fx).mono ?_
        rintro e W7 ⟨rfl, h7⟩
        rw [show ci _ _ _ _ _ _ _ _ _ _ _ _ _ _ _ _ _ _ _ _ = _ from EYX.out]
        clear kX0 kX1 kX2 kX3 kX4 kX5 kX6 kX7 kX8 kX9 kY0 kY1 kY2 kY3 kY4 kY5 kY6 kY7 kY8 kY9 kZ0 kZ1 kZ2 kZ3 kZ4 kZ5 kZ6 kZ7 kZ8 kZ9
        have CX7 := Holds10.kept CX6 lX6 h7
        have lX7 := Nat.lt_of_lt_of_le lX6 h7.size
        have CY7 := Holds10.kept CY6 lY6 h7
        have lY7 := Nat.lt_of_lt_of_le lY6 h7.size
        have CZ7 := Holds10.kept CZ6 lZ6 h7
        have lZ7 := Nat.lt_of_lt_of_le lZ6 h7.size
        have B7 := Lib.hid (B6.out.trans (h7.mono B6.out.size))
        clear h7 CX6 lX6 CY6 lY6 CZ6 lZ6 B6
        have kX0 := Cells10.c0 CX7
        have kX1 := Cells10.c1 CX7
        have kX2 := Cells10.c2 CX7
        have kX3 := Cells10.c3 CX7
        have kX4 := Cells10.c4 CX7
        have kX5 := Cells10.c5 CX7
        have kX6 := Cells10.c6 CX7
        have kX7 := Cells10.c7 CX7
        have kX8 := Cells10.c8 CX7
        have kX9 := Cells10.c9 CX7
        have kY0 := Cells10.c0 CY7
        have kY1 := Cells10.c1 CY7
        have kY2 := Cells10.c2 CY7
        have kY3 := Cells10.c3 CY7
        have kY4 := Cells10.c4 CY7
        have kY5 := Cells10.c5 CY7
        have kY6 := Cells10.c6 CY7
        have kY7 := Cells10.c7 CY7
        have kY8 := Cells10.c8 CY7
        have kY9 := Cells10.c9 CY7
        have kZ0 := Cells10.c0 CZ7
        have kZ1 := Cells10.c1 CZ7
        have kZ2 := Cells10.c2 CZ7
        have kZ3 := Cells10.c3 CZ7
        have kZ4 := Cells10.c4 CZ7
        have kZ5 := Cells10.c5 CZ7
        have kZ6 := Cells10.c6 CZ7
        have kZ7 := Cells10.c7 CZ7
        have kZ8 := Cells10.c8 CZ7
        have kZ9 := Cells10.c9 CZ7
        have exz : x.cmp z ≤ 0 := by
          have h1 : x.cmp x = 0 := EXY.out
          have h2 : x.cmp z = 0 := EYZ.out
          exact cmp_trans Fx.out Fx.out Fz.out (by omega) (by omega)
        have exz' : x.cmp z = ci x.n x.l x.s x.d x.a0 x.a1 x.b0 x.b1 x.c0 x.c1 z.n z.l z.s z.d z.a0 z.a1 z.b0 z.b1 z.c0 z.c1 := rfl
        obtain ⟨v, hv⟩ : ∃ v, v = x.cmp z := ⟨_, rfl⟩
        rw [← hv] at exz exz'
        have EV := Lib.hid exz'
        clear exz' hv
        go_wp2_with fail
        refine (compare x.n x.l x.s x.d x.a0 x.a1 x.b0 x.b1 x.c0 x.c1 z.n z.l z.s z.d z.a0 z.a1 z.b0 z.b1 z.c0 z.c1 _ fx fz).mono ?_
        rintro e W8 ⟨rfl, h8⟩
        rw [← EV.out]
        clear kX0 kX1 kX2 kX3 kX4 kX5 kX6 kX7 kX8 kX9 kY0 kY1 kY2 kY3 kY4 kY5 kY6 kY7 kY8 kY9 kZ0 kZ1 kZ2 kZ3 kZ4 kZ5 kZ6 kZ7 kZ8 kZ9
        have CX8 := Holds10.kept CX7 lX7 h8
        have lX8 := Nat.lt_of_lt_of_le lX7 h8.size
        have CY8 := Holds10.kept CY7 lY7 h8
        have lY8 := Nat.lt_of_lt_of_le lY7 h8.size
        have CZ8 := Holds10.kept CZ7 lZ7 h8
        have lZ8 := Nat.lt_of_lt_of_le lZ7 h8.size
        have B8 := Lib.hid (B7.out.trans (h8.mono B7.out.size))
        clear h8 CX7 lX7 CY7 lY7 CZ7 lZ7 B7
        have kX0 := Cells10.c0 CX8
        have kX1 := Cells10.c1 CX8
        have kX2 := Cells10.c2 CX8
        have kX3 := Cells10.c3 CX8
        have kX4 := Cells10.c4 CX8
        have kX5 := Cells10.c5 CX8
        have kX6 := Cells10.c6 CX8
        have kX7 := Cells10.c7 CX8
        have kX8 := Cells10.c8 CX8
        have kX9 := Cells10.c9 CX8
        have kY0 := Cells10.c0 CY8
        have kY1 := Cells10.c1 CY8
        have kY2 := Cells10.c2 CY8
        have kY3 := Cells10.c3 CY8
        have kY4 := Cells10.c4 CY8
        have kY5 := Cells10.c5 CY8
        have kY6 := Cells10.c6 CY8
        have kY7 := Cells10.c7 CY8
        have kY8 := Cells10.c8 CY8
        have kY9 := Cells10.c9 CY8
        have kZ0 := Cells10.c0 CZ8
        have kZ1 := Cells10.c1 CZ8
        have kZ2 := Cells10.c2 CZ8
        have kZ3 := Cells10.c3 CZ8
        have kZ4 := Cells10.c4 CZ8
        have kZ5 := Cells10.c5 CZ8
        have kZ6 := Cells10.c6 CZ8
        have kZ7 := Cells10.c7 CZ8
        have kZ8 := Cells10.c8 CZ8
        have kZ9 := Cells10.c9 CZ8
        by_cases u1 : und x z = true
        rotate_left
        · have u1' : und x z = false := by simpa using u1
          clear u1
          have U1 := Lib.hid u1'
          clear u1'
          go_wp2_with fail
          refine (under x z _ Hx.out Fx.out Fz.out).mono ?_
          rintro e W9 ⟨rfl, h9⟩
          rw [U1.out]
          clear kX0 kX1 kX2 kX3 kX4 kX5 kX6 kX7 kX8 kX9 kY0 kY1 kY2 kY3 kY4 kY5 kY6 kY7 kY8 kY9 kZ0 kZ1 kZ2 kZ3 kZ4 kZ5 kZ6 kZ7 kZ8 kZ9
          have CX9 := Holds10.kept CX8 lX8 h9
          have lX9 := Nat.lt_of_lt_of_le lX8 h9.size
          have CY9 := Holds10.kept CY8 lY8 h9
          have lY9 := Nat.lt_of_lt_of_le lY8 h9.size
          have CZ9 := Holds10.kept CZ8 lZ8 h9
          have lZ9 := Nat.lt_of_lt_of_le lZ8 h9.size
          have B9 := Lib.hid (B8.out.trans (h9.mono B8.out.size))
          clear h9 CX8 lX8 CY8 lY8 CZ8 lZ8 B8
          have kX0 := Cells10.c0 CX9
          have kX1 := Cells10.c1 CX9
          have kX2 := Cells10.c2 CX9
          have kX3 := Cells10.c3 CX9
          have kX4 := Cells10.c4 CX9
          have kX5 := Cells10.c5 CX9
          have kX6 := Cells10.c6 CX9
          have kX7 := Cells10.c7 CX9
          have kX8 := Cells10.c8 CX9
          have kX9 := Cells10.c9 CX9
          have kY0 := Cells10.c0 CY9
          have kY1 := Cells10.c1 CY9
          have kY2 := Cells10.c2 CY9
          have kY3 := Cells10.c3 CY9
          have kY4 := Cells10.c4 CY9
          have kY5 := Cells10.c5 CY9
          have kY6 := Cells10.c6 CY9
          have kY7 := Cells10.c7 CY9
          have kY8 := Cells10.c8 CY9
          have kY9 := Cells10.c9 CY9
          have kZ0 := Cells10.c0 CZ9
          have kZ1 := Cells10.c1 CZ9
          have kZ2 := Cells10.c2 CZ9
          have kZ3 := Cells10.c3 CZ9
          have kZ4 := Cells10.c4 CZ9
          have kZ5 := Cells10.c5 CZ9
          have kZ6 := Cells10.c6 CZ9
          have kZ7 := Cells10.c7 CZ9
          have kZ8 := Cells10.c8 CZ9
          have kZ9 := Cells10.c9 CZ9
          go_wp2
          go_ret
          exact ⟨rfl, B9.out⟩
        have U1 := Lib.hid u1
        clear u1
        go_wp2_with fail
        refine (under x z _ Hx.out Fx.out Fz.out).mono ?_
        rintro e W9 ⟨rfl, h9⟩
        rw [U1.out]
        clear kX0 kX1 kX2 kX3 kX4 kX5 kX6 kX7 kX8 kX9 kY0 kY1 kY2 kY3 kY4 kY5 kY6 kY7 kY8 kY9 kZ0 kZ1 kZ2 kZ3 kZ4 kZ5 kZ6 kZ7 kZ8 kZ9
        have CX9 := Holds10.kept CX8 lX8 h9
        have lX9 := Nat.lt_of_lt_of_le lX8 h9.size
        have CY9 := Holds10.kept CY8 lY8 h9
        have lY9 := Nat.lt_of_lt_of_le lY8 h9.size
        have CZ9 := Holds10.kept CZ8 lZ8 h9
        have lZ9 := Nat.lt_of_lt_of_le lZ8 h9.size
        have B9 := Lib.hid (B8.out.trans (h9.mono B8.out.size))
        clear h9 CX8 lX8 CY8 lY8 CZ8 lZ8 B8
        have kX0 := Cells10.c0 CX9
        have kX1 := Cells10.c1 CX9
        have kX2 := Cells10.c2 CX9
        have kX3 := Cells10.c3 CX9
        have kX4 := Cells10.c4 CX9
        have kX5 := Cells10.c5 CX9
        have kX6 := Cells10.c6 CX9
        have kX7 := Cells10.c7 CX9
        have kX8 := Cells10.c8 CX9
        have kX9 := Cells10.c9 CX9
        have kY0 := Cells10.c0 CY9
        have kY1 := Cells10.c1 CY9
        have kY2 := Cells10.c2 CY9
        have kY3 := Cells10.c3 CY9
        have kY4 := Cells10.c4 CY9
        have kY5 := Cells10.c5 CY9
        have kY6 := Cells10.c6 CY9
        have kY7 := Cells10.c7 CY9
        have kY8 := Cells10.c8 CY9
        have kY9 := Cells10.c9 CY9
        have kZ0 := Cells10.c0 CZ9
        have kZ1 := Cells10.c1 CZ9
        have kZ2 := Cells10.c2 CZ9
        have kZ3 := Cells10.c3 CZ9
        have kZ4 := Cells10.c4 CZ9
        have kZ5 := Cells10.c5 CZ9
        have kZ6 := Cells10.c6 CZ9
        have kZ7 := Cells10.c7 CZ9
        have kZ8 := Cells10.c8 CZ9
        have kZ9 := Cells10.c9 CZ9
        go_wp2_with fail
        refine (under x z _ Hx.out Fx.out Fz.out).mono ?_
        rintro e W10 ⟨rfl, h10⟩
        rw [U1.out]
        clear kX0 kX1 kX2 kX3 kX4 kX5 kX6 kX7 kX8 kX9 kY0 kY1 kY2 kY3 kY4 kY5 kY6 kY7 kY8 kY9 kZ0 kZ1 kZ2 kZ3 kZ4 kZ5 kZ6 kZ7 kZ8 kZ9
        have CX10 := Holds10.kept CX9 lX9 h10
        have lX10 := Nat.lt_of_lt_of_le lX9 h10.size
        have CY10 := Holds10.kept CY9 lY9 h10
        have lY10 := Nat.lt_of_lt_of_le lY9 h10.size
        have CZ10 := Holds10.kept CZ9 lZ9 h10
        have lZ10 := Nat.lt_of_lt_of_le lZ9 h10.size
        have B10 := Lib.hid (B9.out.trans (h10.mono B9.out.size))
        clear h10 CX9 lX9 CY9 lY9 CZ9 lZ9 B9
        have kX0 := Cells10.c0 CX10
        have kX1 := Cells10.c1 CX10
        have kX2 := Cells10.c2 CX10
        have kX3 := Cells10.c3 CX10
        have kX4 := Cells10.c4 CX10
        have kX5 := Cells10.c5 CX10
        have kX6 := Cells10.c6 CX10
        have kX7 := Cells10.c7 CX10
        have kX8 := Cells10.c8 CX10
        have kX9 := Cells10.c9 CX10
        have kY0 := Cells10.c0 CY10
        have kY1 := Cells10.c1 CY10
        have kY2 := Cells10.c2 CY10
        have kY3 := Cells10.c3 CY10
        have kY4 := Cells10.c4 CY10
        have kY5 := Cells10.c5 CY10
        have kY6 := Cells10.c6 CY10
        have kY7 := Cells10.c7 CY10
        have kY8 := Cells10.c8 CY10
        have kY9 := Cells10.c9 CY10
        have kZ0 := Cells10.c0 CZ10
        have kZ1 := Cells10.c1 CZ10
        have kZ2 := Cells10.c2 CZ10
        have kZ3 := Cells10.c3 CZ10
        have kZ4 := Cells10.c4 CZ10
        have kZ5 := Cells10.c5 CZ10
        have kZ6 := Cells10.c6 CZ10
        have kZ7 := Cells10.c7 CZ10
        have kZ8 := Cells10.c8 CZ10
        have kZ9 := Cells10.c9 CZ10
        go_wp2
        go_ret
        exact ⟨rfl, B10.out⟩
      · obtain rfl : x = y := (cmp_zero Fx.out Fy.out).1 (show ci _ _ _ _ _ _ _ _ _ _ _ _ _ _ _ _ _ _ _ _ = 0 from EXY.out)
        have hE := eqArrID
        have eyx : x.cmp x = 0 := by
          have := cmp_anti Fx.out Fx.out
          have h2 : x.cmp x = 0 := EXY.out
          omega
        have EYX := Lib.hid eyx
        clear eyx
        go_wp2_with fail
        refine (compare x.n x.l x.s x.d x.a0 x.a1 x.b0 x.b1 x.c0 x.c1 x.n x.l x.s x.d x.a0 x.a1 x.b0 x.b1 x.c0 x.c1 _ fx fx).mono ?_
        rintro e W7 ⟨rfl, h7⟩
        rw [show ci _ _ _ _ _ _ _ _ _ _ _ _ _ _ _ _ _ _ _ _ = _ from EYX.out]
        clear kX0 kX1 kX2 kX3 kX4 kX5 kX6 kX7 kX8 kX9 kY0 kY1 kY2 kY3 kY4 kY5 kY6 kY7 kY8 kY9 kZ0 kZ1 kZ2 kZ3 kZ4 kZ5 kZ6 kZ7 kZ8 kZ9
        have CX7 := Holds10.kept CX6 lX6 h7
        have lX7 := Nat.lt_of_lt_of_le lX6 h7.size
        have CY7 := Holds10.kept CY6 lY6 h7
        have lY7 := Nat.lt_of_lt_of_le lY6 h7.size
        have CZ7 := Holds10.kept CZ6 lZ6 h7
        have lZ7 := Nat.lt_of_lt_of_le lZ6 h7.size
        have B7 := Lib.hid (B6.out.trans (h7.mono B6.out.size))
        clear h7 CX6 lX6 CY6 lY6 CZ6 lZ6 B6
        have kX0 := Cells10.c0 CX7
        have kX1 := Cells10.c1 CX7
        have kX2 := Cells10.c2 CX7
        have kX3 := Cells10.c3 CX7
        have kX4 := Cells10.c4 CX7
        have kX5 := Cells10.c5 CX7
        have kX6 := Cells10.c6 CX7
        have kX7 := Cells10.c7 CX7
        have kX8 := Cells10.c8 CX7
        have kX9 := Cells10.c9 CX7
        have kY0 := Cells10.c0 CY7
        have kY1 := Cells10.c1 CY7
        have kY2 := Cells10.c2 CY7
        have kY3 := Cells10.c3 CY7
        have kY4 := Cells10.c4 CY7
        have kY5 := Cells10.c5 CY7
        have kY6 := Cells10.c6 CY7
        have kY7 := Cells10.c7 CY7
        have kY8 := Cells10.c8 CY7
        have kY9 := Cells10.c9 CY7
        have kZ0 := Cells10.c0 CZ7
        have kZ1 := Cells10.c1 CZ7
        have kZ2 := Cells10.c2 CZ7
        have kZ3 := Cells10.c3 CZ7
        have kZ4 := Cells10.c4 CZ7
        have kZ5 := Cells10.c5 CZ7
        have kZ6 := Cells10.c6 CZ7
        have kZ7 := Cells10.c7 CZ7
        have kZ8 := Cells10.c8 CZ7
        have kZ9 := Cells10.c9 CZ7
        by_cases u1 : und x z = true
        rotate_left
        · have u1' : und x z = false := by simpa using u1
          clear u1
          have U1 := Lib.hid u1'
          clear u1'
          go_wp2_with fail
          refine (under x z _ Hx.out Fx.out Fz.out).mono ?_
          rintro e W8 ⟨rfl, h8⟩
          rw [U1.out]
          clear kX0 kX1 kX2 kX3 kX4 kX5 kX6 kX7 kX8 kX9 kY0 kY1 kY2 kY3 kY4 kY5 kY6 kY7 kY8 kY9 kZ0 kZ1 kZ2 kZ3 kZ4 kZ5 kZ6 kZ7 kZ8 kZ9
          have CX8 := Holds10.kept CX7 lX7 h8
          have lX8 := Nat.lt_of_lt_of_le lX7 h8.size
          have CY8 := Holds10.kept CY7 lY7 h8
          have lY8 := Nat.lt_of_lt_of_le lY7 h8.size
          have CZ8 := Holds10.kept CZ7 lZ7 h8
          have lZ8 := Nat.lt_of_lt_of_le lZ7 h8.size
          have B8 := Lib.hid (B7.out.trans (h8.mono B7.out.size))
          clear h8 CX7 lX7 CY7 lY7 CZ7 lZ7 B7
          have kX0 := Cells10.c0 CX8
          have kX1 := Cells10.c1 CX8
          have kX2 := Cells10.c2 CX8
          have kX3 := Cells10.c3 CX8
          have kX4 := Cells10.c4 CX8
          have kX5 := Cells10.c5 CX8
          have kX6 := Cells10.c6 CX8
          have kX7 := Cells10.c7 CX8
          have kX8 := Cells10.c8 CX8
          have kX9 := Cells10.c9 CX8
          have kY0 := Cells10.c0 CY8
          have kY1 := Cells10.c1 CY8
          have kY2 := Cells10.c2 CY8
          have kY3 := Cells10.c3 CY8
          have kY4 := Cells10.c4 CY8
          have kY5 := Cells10.c5 CY8
          have kY6 := Cells10.c6 CY8
          have kY7 := Cells10.c7 CY8
          have kY8 := Cells10.c8 CY8
          have kY9 := Cells10.c9 CY8
          have kZ0 := Cells10.c0 CZ8
          have kZ1 := Cells10.c1 CZ8
          have kZ2 := Cells10.c2 CZ8
          have kZ3 := Cells10.c3 CZ8
          have kZ4 := Cells10.c4 CZ8
          have kZ5 := Cells10.c5 CZ8
          have kZ6 := Cells10.c6 CZ8
          have kZ7 := Cells10.c7 CZ8
          have kZ8 := Cells10.c8 CZ8
          have kZ9 := Cells10.c9 CZ8
          go_wp2
          go_ret
          exact ⟨rfl, B8.out⟩
        have U1 := Lib.hid u1
        clear u1
        go_wp2_with fail
        refine (under x z _ Hx.out Fx.out Fz.out).mono ?_
        rintro e W8 ⟨rfl, h8⟩
        rw [U1.out]
        clear kX0 kX1 kX2 kX3 kX4 kX5 kX6 kX7 kX8 kX9 kY0 kY1 kY2 kY3 kY4 kY5 kY6 kY7 kY8 kY9 kZ0 kZ1 kZ2 kZ3 kZ4 kZ5 kZ6 kZ7 kZ8 kZ9
        have CX8 := Holds10.kept CX7 lX7 h8
        have lX8 := Nat.lt_of_lt_of_le lX7 h8.size
        have CY8 := Holds10.kept CY7 lY7 h8
        have lY8 := Nat.lt_of_lt_of_le lY7 h8.size
        have CZ8 := Holds10.kept CZ7 lZ7 h8
        have lZ8 := Nat.lt_of_lt_of_le lZ7 h8.size
        have B8 := Lib.hid (B7.out.trans (h8.mono B7.out.size))
        clear h8 CX7 lX7 CY7 lY7 CZ7 lZ7 B7
        have kX0 := Cells10.c0 CX8
        have kX1 := Cells10.c1 CX8
        have kX2 := Cells10.c2 CX8
        have kX3 := Cells10.c3 CX8
        have kX4 := Cells10.c4 CX8
        have kX5 := Cells10.c5 CX8
        have kX6 := Cells10.c6 CX8
        have kX7 := Cells10.c7 CX8
        have kX8 := Cells10.c8 CX8
        have kX9 := Cells10.c9 CX8
        have kY0 := Cells10.c0 CY8
        have kY1 := Cells10.c1 CY8
        have kY2 := Cells10.c2 CY8
        have kY3 := Cells10.c3 CY8
        have kY4 := Cells10.c4 CY8
        have kY5 := Cells10.c5 CY8
        have kY6 := Cells10.c6 CY8
        have kY7 := Cells10.c7 CY8
        have kY8 := Cells10.c8 CY8
        have kY9 := Cells10.c9 CY8
        have kZ0 := Cells10.c0 CZ8
        have kZ1 := Cells10.c1 CZ8
        have kZ2 := Cells10.c2 CZ8
        have kZ3 := Cells10.c3 CZ8
        have kZ4 := Cells10.c4 CZ8
        have kZ5 := Cells10.c5 CZ8
        have kZ6 := Cells10.c6 CZ8
        have kZ7 := Cells10.c7 CZ8
        have kZ8 := Cells10.c8 CZ8
        have kZ9 := Cells10.c9 CZ8
        go_wp2_with fail
        refine (under x z _ Hx.out Fx.out Fz.out).mono ?_
        rintro e W9 ⟨rfl, h9⟩
        rw [U1.out]
        clear kX0 kX1 kX2 kX3 kX4 kX5 kX6 kX7 kX8 kX9 kY0 kY1 kY2 kY3 kY4 kY5 kY6 kY7 kY8 kY9 kZ0 kZ1 kZ2 kZ3 kZ4 kZ5 kZ6 kZ7 kZ8 kZ9
        have CX9 := Holds10.kept CX8 lX8 h9
        have lX9 := Nat.lt_of_lt_of_le lX8 h9.size
        have CY9 := Holds10.kept CY8 lY8 h9
        have lY9 := Nat.lt_of_lt_of_le lY8 h9.size
        have CZ9 := Holds10.kept CZ8 lZ8 h9
        have lZ9 := Nat.lt_of_lt_of_le lZ8 h9.size
        have B9 := Lib.hid (B8.out.trans (h9.mono B8.out.size))
        clear h9 CX8 lX8 CY8 lY8 CZ8 lZ8 B8
        have kX0 := Cells10.c0 CX9
        have kX1 := Cells10.c1 CX9
        have kX2 := Cells10.c2 CX9
        have kX3 := Cells10.c3 CX9
        have kX4 := Cells10.c4 CX9
        have kX5 := Cells10.c5 CX9
        have kX6 := Cells10.c6 CX9
        have kX7 := Cells10.c7 CX9
        have kX8 := Cells10.c8 CX9
        have kX9 := Cells10.c9 CX9
        have kY0 := Cells10.c0 CY9
        have kY1 := Cells10.c1 CY9
        have kY2 := Cells10.c2 CY9
        have kY3 := Cells10.c3 CY9
        have kY4 := Cells10.c4 CY9
        have kY5 := Cells10.c5 CY9
        have kY6 := Cells10.c6 CY9
        have kY7 := Cells10.c7 CY9
        have kY8 := Cells10.c8 CY9
        have kY9 := Cells10.c9 CY9
        have kZ0 := Cells10.c0 CZ9
        have kZ1 := Cells10.c1 CZ9
        have kZ2 := Cells10.c2 CZ9
        have kZ3 := Cells10.c3 CZ9
        have kZ4 := Cells10.c4 CZ9
        have kZ5 := Cells10.c5 CZ9
        have kZ6 := Cells10.c6 CZ9
        have kZ7 := Cells10.c7 CZ9
        have kZ8 := Cells10.c8 CZ9
        have kZ9 := Cells10.c9 CZ9
        go_wp2
        go_ret
        exact ⟨rfl, B9.out⟩
    · rcases HYZ.out with rfl | rfl | rfl
      · have hne : eqI x y = false := by
          cases he : eqI x y with
          | false => rfl
          | true =>
            have := (cmp_zero Fx.out Fy.out).2 (eqI_iff.1 he)
            have h2 : x.cmp y = (1) := EXY.out
            omega
        have hE : ∀ W, (Op.equalIn (9999 + 1) 35 (.agg #[.int .u8 x.n, .int .u16 x.l, .int .u32 x.s, .int .u8 x.d, .int .u8 x.a0, .int .u8 x.a1, .int .u8 x.b0, .int .u8 x.b1, .int .u8 x.c0, .int .u8 x.c1]) (.agg #[.int .u8 y.n, .int .u16 y.l, .int .u32 y.s, .int .u8 y.d, .int .u8 y.a0, .int .u8 y.a1, .int .u8 y.b0, .int .u8 y.b1, .int .u8 y.c0, .int .u8 y.c1])).run Try.prog W = .ok false W := fun W => by rw [eqIDrun]; exact congrArg (fun b => Result.ok b W) hne
        clear hne
        have eyx : y.cmp x = (-1) := by
          have := cmp_anti Fx.out Fy.out
          have h2 : x.cmp y = 1 := EXY.out
          omega
        have EYX := Lib.hid eyx
        clear eyx
        go_wp2_with fail
        refine (compare y.n y.l y.s y.d y.a0 y.a1 y.b0 y.b1 y.c0 y.c1 x.n x.l x.s x.d x.a0 x.a1 x.b0 x.b1 x.c0 x.c1 _ fy fx).mono ?_
        rintro e W7 ⟨rfl, h7⟩
        rw [show ci _ _ _ _ _ _ _ _ _ _ _ _ _ _ _ _ _ _ _ _ = _ from EYX.out]
        clear kX0 kX1 kX2 kX3 kX4 kX5 kX6 kX7 kX8 kX9 kY0 kY1 kY2 kY3 kY4 kY5 kY6 kY7 kY8 kY9 kZ0 kZ1 kZ2 kZ3 kZ4 kZ5 kZ6 kZ7 kZ8 kZ9
        have CX7 := Holds10.kept CX6 lX6 h7
        have lX7 := Nat.lt_of_lt_of_le lX6 h7.size
        have CY7 := Holds10.kept CY6 lY6 h7
        have lY7 := Nat.lt_of_lt_of_le lY6 h7.size
        have CZ7 := Holds10.kept CZ6 lZ6 h7
        have lZ7 := Nat.lt_of_lt_of_le lZ6 h7.size
        have B7 := Lib.hid (B6.out.trans (h7.mono B6.out.size))
        clear h7 CX6 lX6 CY6 lY6 CZ6 lZ6 B6
        have kX0 := Cells10.c0 CX7
        have kX1 := Cells10.c1 CX7
        have kX2 := Cells10.c2 CX7
        have kX3 := Cells10.c3 CX7
        have kX4 := Cells10.c4 CX7
        have kX5 := Cells10.c5 CX7
        have kX6 := Cells10.c6 CX7
        have kX7 := Cells10.c7 CX7
        have kX8 := Cells10.c8 CX7
        have kX9 := Cells10.c9 CX7
        have kY0 := Cells10.c0 CY7
        have kY1 := Cells10.c1 CY7
        have kY2 := Cells10.c2 CY7
        have kY3 := Cells10.c3 CY7
        have kY4 := Cells10.c4 CY7
        have kY5 := Cells10.c5 CY7
        have kY6 := Cells10.c6 CY7
        have kY7 := Cells10.c7 CY7
        have kY8 := Cells10.c8 CY7
        have kY9 := Cells10.c9 CY7
        have kZ0 := Cells10.c0 CZ7
        have kZ1 := Cells10.c1 CZ7
        have kZ2 := Cells10.c2 CZ7
        have kZ3 := Cells10.c3 CZ7
        have kZ4 := Cells10.c4 CZ7
        have kZ5 := Cells10.c5 CZ7
        have kZ6 := Cells10.c6 CZ7
        have kZ7 := Cells10.c7 CZ7
        have kZ8 := Cells10.c8 CZ7
        have kZ9 := Cells10.c9 CZ7
        by_cases u1 : und x z = true
        rotate_left
        · have u1' : und x z = false := by simpa using u1
          clear u1
          have U1 := Lib.hid u1'
          clear u1'
          go_wp2_with fail
          refine (under x z _ Hx.out Fx.out Fz.out).mono ?_
          rintro e W8 ⟨rfl, h8⟩
          rw [U1.out]
          clear kX0 kX1 kX2 kX3 kX4 kX5 kX6 kX7 kX8 kX9 kY0 kY1 kY2 kY3 kY4 kY5 kY6 kY7 kY8 kY9 kZ0 kZ1 kZ2 kZ3 kZ4 kZ5 kZ6 kZ7 kZ8 kZ9
          have CX8 := Holds10.kept CX7 lX7 h8
          have lX8 := Nat.lt_of_lt_of_le lX7 h8.size
          have CY8 := Holds10.kept CY7 lY7 h8
          have lY8 := Nat.lt_of_lt_of_le lY7 h8.size
          have CZ8 := Holds10.kept CZ7 lZ7 h8
          have lZ8 := Nat.lt_of_lt_of_le lZ7 h8.size
          have B8 := Lib.hid (B7.out.trans (h8.mono B7.out.size))
          clear h8 CX7 lX7 CY7 lY7 CZ7 lZ7 B7
          have kX0 := Cells10.c0 CX8
          have kX1 := Cells10.c1 CX8
          have kX2 := Cells10.c2 CX8
          have kX3 := Cells10.c3 CX8
          have kX4 := Cells10.c4 CX8
          have kX5 := Cells10.c5 CX8
          have kX6 := Cells10.c6 CX8
          have kX7 := Cells10.c7 CX8
          have kX8 := Cells10.c8 CX8
          have kX9 := Cells10.c9 CX8
          have kY0 := Cells10.c0 CY8
          have kY1 := Cells10.c1 CY8
          have kY2 := Cells10.c2 CY8
          have kY3 := Cells10.c3 CY8
          have kY4 := Cells10.c4 CY8
          have kY5 := Cells10.c5 CY8
          have kY6 := Cells10.c6 CY8
          have kY7 := Cells10.c7 CY8
          have kY8 := Cells10.c8 CY8
          have kY9 := Cells10.c9 CY8
          have kZ0 := Cells10.c0 CZ8
          have kZ1 := Cells10.c1 CZ8
          have kZ2 := Cells10.c2 CZ8
          have kZ3 := Cells10.c3 CZ8
          have kZ4 := Cells10.c4 CZ8
          have kZ5 := Cells10.c5 CZ8
          have kZ6 := Cells10.c6 CZ8
          have kZ7 := Cells10.c7 CZ8
          have kZ8 := Cells10.c8 CZ8
          have kZ9 := Cells10.c9 CZ8
          go_wp2
          go_ret
          exact ⟨rfl, B8.out⟩
        have U1 := Lib.hid u1
        clear u1
        go_wp2_with fail
        refine (under x z _ Hx.out Fx.out Fz.out).mono ?_
        rintro e W8 ⟨rfl, h8⟩
        rw [U1.out]
        clear kX0 kX1 kX2 kX3 kX4 kX5 kX6 kX7 kX8 kX9 kY0 kY1 kY2 kY3 kY4 kY5 kY6 kY7 kY8 kY9 kZ0 kZ1 kZ2 kZ3 kZ4 kZ5 kZ6 kZ7 kZ8 kZ9
        have CX8 := Holds10.kept CX7 lX7 h8
        have lX8 := Nat.lt_of_lt_of_le lX7 h8.size
        have CY8 := Holds10.kept CY7 lY7 h8
        have lY8 := Nat.lt_of_lt_of_le lY7 h8.size
        have CZ8 := Holds10.kept CZ7 lZ7 h8
        have lZ8 := Nat.lt_of_lt_of_le lZ7 h8.size
        have B8 := Lib.hid (B7.out.trans (h8.mono B7.out.size))
        clear h8 CX7 lX7 CY7 lY7 CZ7 lZ7 B7
        have kX0 := Cells10.c0 CX8
        have kX1 := Cells10.c1 CX8
        have kX2 := Cells10.c2 CX8
        have kX3 := Cells10.c3 CX8
        have kX4 := Cells10.c4 CX8
        have kX5 := Cells10.c5 CX8
        have kX6 := Cells10.c6 CX8
        have kX7 := Cells10.c7 CX8
        have kX8 := Cells10.c8 CX8
        have kX9 := Cells10.c9 CX8
        have kY0 := Cells10.c0 CY8
        have kY1 := Cells10.c1 CY8
        have kY2 := Cells10.c2 CY8
        have kY3 := Cells10.c3 CY8
        have kY4 := Cells10.c4 CY8
        have kY5 := Cells10.c5 CY8
        have kY6 := Cells10.c6 CY8
        have kY7 := Cells10.c7 CY8
        have kY8 := Cells10.c8 CY8
        have kY9 := Cells10.c9 CY8
        have kZ0 := Cells10.c0 CZ8
        have kZ1 := Cells10.c1 CZ8
        have kZ2 := Cells10.c2 CZ8
        have kZ3 := Cells10.c3 CZ8
        have kZ4 := Cells10.c4 CZ8
        have kZ5 := Cells10.c5 CZ8
        have kZ6 := Cells10.c6 CZ8
        have kZ7 := Cells10.c7 CZ8
        have kZ8 := Cells10.c8 CZ8
        have kZ9 := Cells10.c9 CZ8
        by_cases u2 : und y z = true
        · have U2 := Lib.hid u2
          clear u2
          go_wp2_with fail
          refine (under y z _ Hy.out Fy.out Fz.out).mono ?_
          rintro e W9 ⟨rfl, h9⟩
          rw [U2.out]
          clear kX0 kX1 kX2 kX3 kX4 kX5 kX6 kX7 kX8 kX9 kY0 kY1 kY2 kY3 kY4 kY5 kY6 kY7 kY8 kY9 kZ0 kZ1 kZ2 kZ3 kZ4 kZ5 kZ6 kZ7 kZ8 kZ9
          have CX9 := Holds10.kept CX8 lX8 h9
          have lX9 := Nat.lt_of_lt_of_le lX8 h9.size
          have CY9 := Holds10.kept CY8 lY8 h9
          have lY9 := Nat.lt_of_lt_of_le lY8 h9.size
          have CZ9 := Holds10.kept CZ8 lZ8 h9
          have lZ9 := Nat.lt_of_lt_of_le lZ8 h9.size
          have B9 := Lib.hid (B8.out.trans (h9.mono B8.out.size))
          clear h9 CX8 lX8 CY8 lY8 CZ8 lZ8 B8
          have kX0 := Cells10.c0 CX9
          have kX1 := Cells10.c1 CX9
          have kX2 := Cells10.c2 CX9
          have kX3 := Cells10.c3 CX9
          have kX4 := Cells10.c4 CX9
          have kX5 := Cells10.c5 CX9
          have kX6 := Cells10.c6 CX9
          have kX7 := Cells10.c7 CX9
          have kX8 := Cells10.c8 CX9
          have kX9 := Cells10.c9 CX9
          have kY0 := Cells10.c0 CY9
          have kY1 := Cells10.c1 CY9
          have kY2 := Cells10.c2 CY9
          have kY3 := Cells10.c3 CY9
          have kY4 := Cells10.c4 CY9
          have kY5 := Cells10.c5 CY9
          have kY6 := Cells10.c6 CY9
          have kY7 := Cells10.c7 CY9
          have kY8 := Cells10.c8 CY9
          have kY9 := Cells10.c9 CY9
          have kZ0 := Cells10.c0 CZ9
          have kZ1 := Cells10.c1 CZ9
          have kZ2 := Cells10.c2 CZ9
          have kZ3 := Cells10.c3 CZ9
          have kZ4 := Cells10.c4 CZ9
          have kZ5 := Cells10.c5 CZ9
          have kZ6 := Cells10.c6 CZ9
          have kZ7 := Cells10.c7 CZ9
          have kZ8 := Cells10.c8 CZ9
          have kZ9 := Cells10.c9 CZ9
          go_wp2
          go_ret
          exact ⟨rfl, B9.out⟩
        have u2' : und y z = false := by simpa using u2
        clear u2
        have U2 := Lib.hid u2'
        clear u2'
        have ezy : z.cmp y = 1 := by
          have := cmp_anti Fy.out Fz.out
          have h2 : y.cmp z = (-1) := EYZ.out
          omega
        have EZY := Lib.hid ezy
        clear ezy
        go_wp2_with fail
        refine (under y z _ Hy.out Fy.out Fz.out).mono ?_
        rintro e W9 ⟨rfl, h9⟩
        rw [U2.out]
        clear kX0 kX1 kX2 kX3 kX4 kX5 kX6 kX7 kX8 kX9 kY0 kY1 kY2 kY3 kY4 kY5 kY6 kY7 kY8 kY9 kZ0 kZ1 kZ2 kZ3 kZ4 kZ5 kZ6 kZ7 kZ8 kZ9
        have CX9 := Holds10.kept CX8 lX8 h9
        have lX9 := Nat.lt_of_lt_of_le lX8 h9.size
        have CY9 := Holds10.kept CY8 lY8 h9
        have lY9 := Nat.lt_of_lt_of_le lY8 h9.size
        have CZ9 := Holds10.kept CZ8 lZ8 h9
        have lZ9 := Nat.lt_of_lt_of_le lZ8 h9.size
        have B9 := Lib.hid (B8.out.trans (h9.mono B8.out.size))
        clear h9 CX8 lX8 CY8 lY8 CZ8 lZ8 B8
        have kX0 := Cells10.c0 CX9
        have kX1 := Cells10.c1 CX9
        have kX2 := Cells10.c2 CX9
        have kX3 := Cells10.c3 CX9
        have kX4 := Cells10.c4 CX9
        have kX5 := Cells10.c5 CX9
        have kX6 := Cells10.c6 CX9
        have kX7 := Cells10.c7 CX9
        have kX8 := Cells10.c8 CX9
        have kX9 := Cells10.c9 CX9
        have kY0 := Cells10.c0 CY9
        have kY1 := Cells10.c1 CY9
        have kY2 := Cells10.c2 CY9
        have kY3 := Cells10.c3 CY9
        have kY4 := Cells10.c4 CY9
        have kY5 := Cells10.c5 CY9
        have kY6 := Cells10.c6 CY9
        have kY7 := Cells10.c7 CY9
        have kY8 := Cells10.c8 CY9
        have kY9 := Cells10.c9 CY9
        have kZ0 := Cells10.c0 CZ9
        have kZ1 := Cells10.c1 CZ9
        have kZ2 := Cells10.c2 CZ9
        have kZ3 := Cells10.c3 CZ9
        have kZ4 := Cells10.c4 CZ9
        have kZ5 := Cells10.c5 CZ9
        have kZ6 := Cells10.c6 CZ9
        have kZ7 := Cells10.c7 CZ9
        have kZ8 := Cells10.c8 CZ9
        have kZ9 := Cells10.c9 CZ9
        go_wp2_with fail
        refine (compare z.n z.l z.s z.d z.a0 z.a1 z.b0 z.b1 z.c0 z.c1 y.n y.l y.s y.d y.a0 y.a1 y.b0 y.b1 y.c0 y.c1 _ fz fy).mono ?_
        rintro e W10 ⟨rfl, h10⟩
        rw [show ci _ _ _ _ _ _ _ _ _ _ _ _ _ _ _ _ _ _ _ _ = _ from EZY.out]
        clear kX0 kX1 kX2 kX3 kX4 kX5 kX6 kX7 kX8 kX9 kY0 kY1 kY2 kY3 kY4 kY5 kY6 kY7 kY8 kY9 kZ0 kZ1 kZ2 kZ3 kZ4 kZ5 kZ6 kZ7 kZ8 kZ9
        have CX10 := Holds10.kept CX9 lX9 h10
        have lX10 := Nat.lt_of_lt_of_le lX9 h10.size
        have CY10 := Holds10.kept CY9 lY9 h10
        have lY10 := Nat.lt_of_lt_of_le lY9 h10.size
        have CZ10 := Holds10.kept CZ9 lZ9 h10
        have lZ10 := Nat.lt_of_lt_of_le lZ9 h10.size
        have B10 := Lib.hid (B9.out.trans (h10.mono B9.out.size))
        clear h10 CX9 lX9 CY9 lY9 CZ9 lZ9 B9
        have kX0 := Cells10.c0 CX10
        have kX1 := Cells10.c1 CX10
        have kX2 := Cells10.c2 CX10
        have kX3 := Cells10.c3 CX10
        have kX4 := Cells10.c4 CX10
        have kX5 := Cells10.c5 CX10
        have kX6 := Cells10.c6 CX10
        have kX7 := Cells10.c7 CX10
        have kX8 := Cells10.c8 CX10
        have kX9 := Cells10.c9 CX10
        have kY0 := Cells10.c0 CY10
        have kY1 := Cells10.c1 CY10
        have kY2 := Cells10.c2 CY10
        have kY3 := Cells10.c3 CY10
        have kY4 := Cells10.c4 CY10
        have kY5 := Cells10.c5 CY10
        have kY6 := Cells10.c6 CY10
        have kY7 := Cells10.c7 CY10
        have kY8 := Cells10.c8 CY10
        have kY9 := Cells10.c9 CY10
        have kZ0 := Cells10.c0 CZ10
        have kZ1 := Cells10.c1 CZ10
        have kZ2 := Cells10.c2 CZ10
        have kZ3 := Cells10.c3 CZ10
        have kZ4 := Cells10.c4 CZ10
        have kZ5 := Cells10.c5 CZ10
        have kZ6 := Cells10.c6 CZ10
        have kZ7 := Cells10.c7 CZ10
        have kZ8 := Cells10.c8 CZ10
        have kZ9 := Cells10.c9 CZ10
        go_wp2
        go_ret
        exact ⟨rfl, B10.out⟩
      · have hne : eqI x y = false := by
          cases he : eqI x y with
          | false => rfl
          | true =>
            have := (cmp_zero Fx.out Fy.out).2 (eqI_iff.1 he)
            have h2 : x.cmp y = (1) := EXY.out
            omega
        have hE : ∀ W, (Op.equalIn (9999 + 1) 35 (.agg #[.int .u8 x.n, .int .u16 x.l, .int .u32 x.s, .int .u8 x.d, .int .u8 x.a0, .int .u8 x.a1, .int .u8 x.b0, .int .u8 x.b1, .int .u8 x.c0, .int .u8 x.c1]) (.agg #[.int .u8 y.n, .int .u16 y.l, .int .u32 y.s, .int .u8 y.d, .int .u8 y.a0, .int .u8 y.a1, .int .u8 y.b0, .int .u8 y.b1, .int .u8 y.c0, .int .u8 y.c1])).run Try.prog W = .ok false W := fun W => by rw [eqIDrun]; exact congrArg (fun b => Result.ok b W) hne
        clear hne
        have eyx : y.cmp x = (-1) := by
          have := cmp_anti Fx.out Fy.out
          have h2 : x.cmp y = 1 := EXY.out
          omega
        have EYX := Lib.hid eyx
        clear eyx
        go_wp2_with fail
        refine (compare y.n y.l y.s y.d y.a0 y.a1 y.b0 y.b1 y.c0 y.c1 x.n x.l x.s x.d x.a0 x.a1 x.b0 x.b1 x.c0 x.c1 _ fy fx).mono ?_
        rintro e W7 ⟨rfl, h7⟩
        rw [show ci _ _ _ _ _ _ _ _ _ _ _ _ _ _ _ _ _ _ _ _ = _ from EYX.out]
        clear kX0 kX1 kX2 kX3 kX4 kX5 kX6 kX7 kX8 kX9 kY0 kY1 kY2 kY3 kY4 kY5 kY6 kY7 kY8 kY9 kZ0 kZ1 kZ2 kZ3 kZ4 kZ5 kZ6 kZ7 kZ8 kZ9
        have CX7 := Holds10.kept CX6 lX6 h7
        have lX7 := Nat.lt_of_lt_of_le lX6 h7.size
        have CY7 := Holds10.kept CY6 lY6 h7
        have lY7 := Nat.lt_of_lt_of_le lY6 h7.size
        have CZ7 := Holds10.kept CZ6 lZ6 h7
        have lZ7 := Nat.lt_of_lt_of_le lZ6 h7.size
        have B7 := Lib.hid (B6.out.trans (h7.mono B6.out.size))
        clear h7 CX6 lX6 CY6 lY6 CZ6 lZ6 B6
        have kX0 := Cells10.c0 CX7
        have kX1 := Cells10.c1 CX7
        have kX2 := Cells10.c2 CX7
        have kX3 := Cells10.c3 CX7
        have kX4 := Cells10.c4 CX7
        have kX5 := Cells10.c5 CX7
        have kX6 := Cells10.c6 CX7
        have kX7 := Cells10.c7 CX7
        have kX8 := Cells10.c8 CX7
        have kX9 := Cells10.c9 CX7
        have kY0 := Cells10.c0 CY7
        have kY1 := Cells10.c1 CY7
        have kY2 := Cells10.c2 CY7
        have kY3 := Cells10.c3 CY7
        have kY4 := Cells10.c4 CY7
        have kY5 := Cells10.c5 CY7
        have kY6 := Cells10.c6 CY7
        have kY7 := Cells10.c7 CY7
        have kY8 := Cells10.c8 CY7
        have kY9 := Cells10.c9 CY7
        have kZ0 := Cells10.c0 CZ7
        have kZ1 := Cells10.c1 CZ7
        have kZ2 := Cells10.c2 CZ7
        have kZ3 := Cells10.c3 CZ7
        have kZ4 := Cells10.c4 CZ7
        have kZ5 := Cells10.c5 CZ7
        have kZ6 := Cells10.c6 CZ7
        have kZ7 := Cells10.c7 CZ7
        have kZ8 := Cells10.c8 CZ7
        have kZ9 := Cells10.c9 CZ7
        by_cases u1 : und x z = true
        rotate_left
        · have u1' : und x z = false := by simpa using u1
          clear u1
          have U1 := Lib.hid u1'
          clear u1'
          go_wp2_with fail
          refine (under x z _ Hx.out Fx.out Fz.out).mono ?_
          rintro e W8 ⟨rfl, h8⟩
          rw [U1.out]
          clear kX0 kX1 kX2 kX3 kX4 kX5 kX6 kX7 kX8 kX9 kY0 kY1 kY2 kY3 kY4 kY5 kY6 kY7 kY8 kY9 kZ0 kZ1 kZ2 kZ3 kZ4 kZ5 kZ6 kZ7 kZ8 kZ9
          have CX8 := Holds10.kept CX7 lX7 h8
          have lX8 := Nat.lt_of_lt_of_le lX7 h8.size
          have CY8 := Holds10.kept CY7 lY7 h8
          have lY8 := Nat.lt_of_lt_of_le lY7 h8.size
          have CZ8 := Holds10.kept CZ7 lZ7 h8
          have lZ8 := Nat.lt_of_lt_of_le lZ7 h8.size
          have B8 := Lib.hid (B7.out.trans (h8.mono B7.out.size))
          clear h8 CX7 lX7 CY7 lY7 CZ7 lZ7 B7
          have kX0 := Cells10.c0 CX8
          have kX1 := Cells10.c1 CX8
          have kX2 := Cells10.c2 CX8
          have kX3 := Cells10.c3 CX8
          have kX4 := Cells10.c4 CX8
          have kX5 := Cells10.c5 CX8
          have kX6 := Cells10.c6 CX8
          have kX7 := Cells10.c7 CX8
          have kX8 := Cells10.c8 CX8
          have kX9 := Cells10.c9 CX8
          have kY0 := Cells10.c0 CY8
          have kY1 := Cells10.c1 CY8
          have kY2 := Cells10.c2 CY8
          have kY3 := Cells10.c3 CY8
          have kY4 := Cells10.c4 CY8
          have kY5 := Cells10.c5 CY8
          have kY6 := Cells10.c6 CY8
          have kY7 := Cells10.c7 CY8
          have kY8 := Cells10.c8 CY8
          have kY9 := Cells10.c9 CY8
          have kZ0 := Cells10.c0 CZ8
          have kZ1 := Cells10.c1 CZ8
          have kZ2 := Cells10.c2 CZ8
          have kZ3 := Cells10.c3 CZ8
          have kZ4 := Cells10.c4 CZ8
          have kZ5 := Cells10.c5 CZ8
          have kZ6 := Cells10.c6 CZ8
          have kZ7 := Cells10.c7 CZ8
          have kZ8 := Cells10.c8 CZ8
          have kZ9 := Cells10.c9 CZ8
          go_wp2
          go_ret
          exact ⟨rfl, B8.out⟩
        have U1 := Lib.hid u1
        clear u1
        go_wp2_with fail
        refine (under x z _ Hx.out Fx.out Fz.out).mono ?_
        rintro e W8 ⟨rfl, h8⟩
        rw [U1.out]
        clear kX0 kX1 kX2 kX3 kX4 kX5 kX6 kX7 kX8 kX9 kY0 kY1 kY2 kY3 kY4 kY5 kY6 kY7 kY8 kY9 kZ0 kZ1 kZ2 kZ3 kZ4 kZ5 kZ6 kZ7 kZ8 kZ9
        have CX8 := Holds10.kept CX7 lX7 h8
        have lX8 := Nat.lt_of_lt_of_le lX7 h8.size
        have CY8 := Holds10.kept CY7 lY7 h8
        have lY8 := Nat.lt_of_lt_of_le lY7 h8.size
        have CZ8 := Holds10.kept CZ7 lZ7 h8
        have lZ8 := Nat.lt_of_lt_of_le lZ7 h8.size
        have B8 := Lib.hid (B7.out.trans (h8.mono B7.out.size))
        clear h8 CX7 lX7 CY7 lY7 CZ7 lZ7 B7
        have kX0 := Cells10.c0 CX8
        have kX1 := Cells10.c1 CX8
        have kX2 := Cells10.c2 CX8
        have kX3 := Cells10.c3 CX8
        have kX4 := Cells10.c4 CX8
        have kX5 := Cells10.c5 CX8
        have kX6 := Cells10.c6 CX8
        have kX7 := Cells10.c7 CX8
        have kX8 := Cells10.c8 CX8
        have kX9 := Cells10.c9 CX8
        have kY0 := Cells10.c0 CY8
        have kY1 := Cells10.c1 CY8
        have kY2 := Cells10.c2 CY8
        have kY3 := Cells10.c3 CY8
        have kY4 := Cells10.c4 CY8
        have kY5 := Cells10.c5 CY8
        have kY6 := Cells10.c6 CY8
        have kY7 := Cells10.c7 CY8
        have kY8 := Cells10.c8 CY8
        have kY9 := Cells10.c9 CY8
        have kZ0 := Cells10.c0 CZ8
        have kZ1 := Cells10.c1 CZ8
        have kZ2 := Cells10.c2 CZ8
        have kZ3 := Cells10.c3 CZ8
        have kZ4 := Cells10.c4 CZ8
        have kZ5 := Cells10.c5 CZ8
        have kZ6 := Cells10.c6 CZ8
        have kZ7 := Cells10.c7 CZ8
        have kZ8 := Cells10.c8 CZ8
        have kZ9 := Cells10.c9 CZ8
        by_cases u2 : und y z = true
        · have U2 := Lib.hid u2
          clear u2
          go_wp2_with fail
          refine (under y z _ Hy.out Fy.out Fz.out).mono ?_
          rintro e W9 ⟨rfl, h9⟩
          rw [U2.out]
          clear kX0 kX1 kX2 kX3 kX4 kX5 kX6 kX7 kX8 kX9 kY0 kY1 kY2 kY3 kY4 kY5 kY6 kY7 kY8 kY9 kZ0 kZ1 kZ2 kZ3 kZ4 kZ5 kZ6 kZ7 kZ8 kZ9
          have CX9 := Holds10.kept CX8 lX8 h9
          have lX9 := Nat.lt_of_lt_of_le lX8 h9.size
          have CY9 := Holds10.kept CY8 lY8 h9
          have lY9 := Nat.lt_of_lt_of_le lY8 h9.size
          have CZ9 := Holds10.kept CZ8 lZ8 h9
          have lZ9 := Nat.lt_of_lt_of_le lZ8 h9.size
          have B9 := Lib.hid (B8.out.trans (h9.mono B8.out.size))
          clear h9 CX8 lX8 CY8 lY8 CZ8 lZ8 B8
          have kX0 := Cells10.c0 CX9
          have kX1 := Cells10.c1 CX9
          have kX2 := Cells10.c2 CX9
          have kX3 := Cells10.c3 CX9
          have kX4 := Cells10.c4 CX9
          have kX5 := Cells10.c5 CX9
          have kX6 := Cells10.c6 CX9
          have kX7 := Cells10.c7 CX9
          have kX8 := Cells10.c8 CX9
          have kX9 := Cells10.c9 CX9
          have kY0 := Cells10.c0 CY9
          have kY1 := Cells10.c1 CY9
          have kY2 := Cells10.c2 CY9
          have kY3 := Cells10.c3 CY9
          have kY4 := Cells10.c4 CY9
          have kY5 := Cells10.c5 CY9
          have kY6 := Cells10.c6 CY9
          have kY7 := Cells10.c7 CY9
          have kY8 := Cells10.c8 CY9
          have kY9 := Cells10.c9 CY9
          have kZ0 := Cells10.c0 CZ9
          have kZ1 := Cells10.c1 CZ9
          have kZ2 := Cells10.c2 CZ9
          have kZ3 := Cells10.c3 CZ9
          have kZ4 := Cells10.c4 CZ9
          have kZ5 := Cells10.c5 CZ9
          have kZ6 := Cells10.c6 CZ9
          have kZ7 := Cells10.c7 CZ9
          have kZ8 := Cells10.c8 CZ9
          have kZ9 := Cells10.c9 CZ9
          go_wp2
          go_ret
          exact ⟨rfl, B9.out⟩
        exfalso
        have h1 : x.cmp y = 1 := EXY.out
        have h2 : y.cmp z = 0 := EYZ.out
        have h3 := cmp_anti Fy.out Fz.out
        rcases cmp_under Fx.out Fy.out Fz.out U1.out with h | h | h
        · exact u2 h
        · omega
        · omega
      · have hne : eqI x y = false := by
          cases he : eqI x y with
          | false => rfl
          | true =>
            have := (cmp_zero Fx.out Fy.out).2 (eqI_iff.1 he)
            have h2 : x.cmp y = (1) := EXY.out
            omega
        have hE : ∀ W, (Op.equalIn (9999 + 1) 35 (.agg #[.int .u8 x.n, .int .u16 x.l, .int .u32 x.s, .int .u8 x.d, .int .u8 x.a0, .int .u8 x.a1, .int .u8 x.b0, .int .u8 x.b1, .int .u8 x.c0, .int .u8 x.c1]) (.agg #[.int .u8 y.n, .int .u16 y.l, .int .u32 y.s, .int .u8 y.d, .int .u8 y.a0, .int .u8 y.a1, .int .u8 y.b0, .int .u8 y.b1, .int .u8 y.c0, .int .u8 y.c1])).run Try.prog W = .ok false W := fun W => by rw [eqIDrun]; exact congrArg (fun b => Result.ok b W) hne
        clear hne
        have eyx : y.cmp x = (-1) := by
          have := cmp_anti Fx.out Fy.out
          have h2 : x.cmp y = 1 := EXY.out
          omega
        have EYX := Lib.hid eyx
        clear eyx
        go_wp2_with fail
        refine (compare y.n y.l y.s y.d y.a0 y.a1 y.b0 y.b1 y.c0 y.c1 x.n x.l x.s x.d x.a0 x.a1 x.b0 x.b1 x.c0 x.c1 _ fy fx).mono ?_
        rintro e W7 ⟨rfl, h7⟩
        rw [show ci _ _ _ _ _ _ _ _ _ _ _ _ _ _ _ _ _ _ _ _ = _ from EYX.out]
        clear kX0 kX1 kX2 kX3 kX4 kX5 kX6 kX7 kX8 kX9 kY0 kY1 kY2 kY3 kY4 kY5 kY6 kY7 kY8 kY9 kZ0 kZ1 kZ2 kZ3 kZ4 kZ5 kZ6 kZ7 kZ8 kZ9
        have CX7 := Holds10.kept CX6 lX6 h7
        have lX7 := Nat.lt_of_lt_of_le lX6 h7.size
        have CY7 := Holds10.kept CY6 lY6 h7
        have lY7 := Nat.lt_of_lt_of_le lY6 h7.size
        have CZ7 := Holds10.kept CZ6 lZ6 h7
        have lZ7 := Nat.lt_of_lt_of_le lZ6 h7.size
        have B7 := Lib.hid (B6.out.trans (h7.mono B6.out.size))
        clear h7 CX6 lX6 CY6 lY6 CZ6 lZ6 B6
        have kX0 := Cells10.c0 CX7
        have kX1 := Cells10.c1 CX7
        have kX2 := Cells10.c2 CX7
        have kX3 := Cells10.c3 CX7
        have kX4 := Cells10.c4 CX7
        have kX5 := Cells10.c5 CX7
        have kX6 := Cells10.c6 CX7
        have kX7 := Cells10.c7 CX7
        have kX8 := Cells10.c8 CX7
        have kX9 := Cells10.c9 CX7
        have kY0 := Cells10.c0 CY7
        have kY1 := Cells10.c1 CY7
        have kY2 := Cells10.c2 CY7
        have kY3 := Cells10.c3 CY7
        have kY4 := Cells10.c4 CY7
        have kY5 := Cells10.c5 CY7
        have kY6 := Cells10.c6 CY7
        have kY7 := Cells10.c7 CY7
        have kY8 := Cells10.c8 CY7
        have kY9 := Cells10.c9 CY7
        have kZ0 := Cells10.c0 CZ7
        have kZ1 := Cells10.c1 CZ7
        have kZ2 := Cells10.c2 CZ7
        have kZ3 := Cells10.c3 CZ7
        have kZ4 := Cells10.c4 CZ7
        have kZ5 := Cells10.c5 CZ7
        have kZ6 := Cells10.c6 CZ7
        have kZ7 := Cells10.c7 CZ7
        have kZ8 := Cells10.c8 CZ7
        have kZ9 := Cells10.c9 CZ7
        by_cases u1 : und x z = true
        rotate_left
        · have u1' : und x z = false := by simpa using u1
          clear u1
          have U1 := Lib.hid u1'
          clear u1'
          go_wp2_with fail
          refine (under x z _ Hx.out Fx.out Fz.out).mono ?_
          rintro e W8 ⟨rfl, h8⟩
          rw [U1.out]
          clear kX0 kX1 kX2 kX3 kX4 kX5 kX6 kX7 kX8 kX9 kY0 kY1 kY2 kY3 kY4 kY5 kY6 kY7 kY8 kY9 kZ0 kZ1 kZ2 kZ3 kZ4 kZ5 kZ6 kZ7 kZ8 kZ9
          have CX8 := Holds10.kept CX7 lX7 h8
          have lX8 := Nat.lt_of_lt_of_le lX7 h8.size
          have CY8 := Holds10.kept CY7 lY7 h8
          have lY8 := Nat.lt_of_lt_of_le lY7 h8.size
          have CZ8 := Holds10.kept CZ7 lZ7 h8
          have lZ8 := Nat.lt_of_lt_of_le lZ7 h8.size
          have B8 := Lib.hid (B7.out.trans (h8.mono B7.out.size))
          clear h8 CX7 lX7 CY7 lY7 CZ7 lZ7 B7
          have kX0 := Cells10.c0 CX8
          have kX1 := Cells10.c1 CX8
          have kX2 := Cells10.c2 CX8
          have kX3 := Cells10.c3 CX8
          have kX4 := Cells10.c4 CX8
          have kX5 := Cells10.c5 CX8
          have kX6 := Cells10.c6 CX8
          have kX7 := Cells10.c7 CX8
          have kX8 := Cells10.c8 CX8
          have kX9 := Cells10.c9 CX8
          have kY0 := Cells10.c0 CY8
          have kY1 := Cells10.c1 CY8
          have kY2 := Cells10.c2 CY8
          have kY3 := Cells10.c3 CY8
          have kY4 := Cells10.c4 CY8
          have kY5 := Cells10.c5 CY8
          have kY6 := Cells10.c6 CY8
          have kY7 := Cells10.c7 CY8
          have kY8 := Cells10.c8 CY8
          have kY9 := Cells10.c9 CY8
          have kZ0 := Cells10.c0 CZ8
          have kZ1 := Cells10.c1 CZ8
          have kZ2 := Cells10.c2 CZ8
          have kZ3 := Cells10.c3 CZ8
          have kZ4 := Cells10.c4 CZ8
          have kZ5 := Cells10.c5 CZ8
          have kZ6 := Cells10.c6 CZ8
          have kZ7 := Cells10.c7 CZ8
          have kZ8 := Cells10.c8 CZ8
          have kZ9 := Cells10.c9 CZ8
          go_wp2
          go_ret
          exact ⟨rfl, B8.out⟩
        have U1 := Lib.hid u1
        clear u1
        go_wp2_with fail
        refine (under x z _ Hx.out Fx.out Fz.out).mono ?_
        rintro e W8 ⟨rfl, h8⟩
        rw [U1.out]
        clear kX0 kX1 kX2 kX3 kX4 kX5 kX6 kX7 kX8 kX9 kY0 kY1 kY2 kY3 kY4 kY5 kY6 kY7 kY8 kY9 kZ0 kZ1 kZ2 kZ3 kZ4 kZ5 kZ6 kZ7 kZ8 kZ9
        have CX8 := Holds10.kept CX7 lX7 h8
        have lX8 := Nat.lt_of_lt_of_le lX7 h8.size
        have CY8 := Holds10.kept CY7 lY7 h8
        have lY8 := Nat.lt_of_lt_of_le lY7 h8.size
        have CZ8 := Holds10.kept CZ7 lZ7 h8
        have lZ8 := Nat.lt_of_lt_of_le lZ7 h8.size
        have B8 := Lib.hid (B7.out.trans (h8.mono B7.out.size))
        clear h8 CX7 lX7 CY7 lY7 CZ7 lZ7 B7
        have kX0 := Cells10.c0 CX8
        have kX1 := Cells10.c1 CX8
        have kX2 := Cells10.c2 CX8
        have kX3 := Cells10.c3 CX8
        have kX4 := Cells10.c4 CX8
        have kX5 := Cells10.c5 CX8
        have kX6 := Cells10.c6 CX8
        have kX7 := Cells10.c7 CX8
        have kX8 := Cells10.c8 CX8
        have kX9 := Cells10.c9 CX8
        have kY0 := Cells10.c0 CY8
        have kY1 := Cells10.c1 CY8
        have kY2 := Cells10.c2 CY8
        have kY3 := Cells10.c3 CY8
        have kY4 := Cells10.c4 CY8
        have kY5 := Cells10.c5 CY8
        have kY6 := Cells10.c6 CY8
        have kY7 := Cells10.c7 CY8
        have kY8 := Cells10.c8 CY8
        have kY9 := Cells10.c9 CY8
        have kZ0 := Cells10.c0 CZ8
        have kZ1 := Cells10.c1 CZ8
        have kZ2 := Cells10.c2 CZ8
        have kZ3 := Cells10.c3 CZ8
        have kZ4 := Cells10.c4 CZ8
        have kZ5 := Cells10.c5 CZ8
        have kZ6 := Cells10.c6 CZ8
        have kZ7 := Cells10.c7 CZ8
        have kZ8 := Cells10.c8 CZ8
        have kZ9 := Cells10.c9 CZ8
        by_cases u2 : und y z = true
        · have U2 := Lib.hid u2
          clear u2
          go_wp2_with fail
          refine (under y z _ Hy.out Fy.out Fz.out).mono ?_
          rintro e W9 ⟨rfl, h9⟩
          rw [U2.out]
          clear kX0 kX1 kX2 kX3 kX4 kX5 kX6 kX7 kX8 kX9 kY0 kY1 kY2 kY3 kY4 kY5 kY6 kY7 kY8 kY9 kZ0 kZ1 kZ2 kZ3 kZ4 kZ5 kZ6 kZ7 kZ8 kZ9
          have CX9 := Holds10.kept CX8 lX8 h9
          have lX9 := Nat.lt_of_lt_of_le lX8 h9.size
          have CY9 := Holds10.kept CY8 lY8 h9
          have lY9 := Nat.lt_of_lt_of_le lY8 h9.size
          have CZ9 := Holds10.kept CZ8 lZ8 h9
          have lZ9 := Nat.lt_of_lt_of_le lZ8 h9.size
          have B9 := Lib.hid (B8.out.trans (h9.mono B8.out.size))
          clear h9 CX8 lX8 CY8 lY8 CZ8 lZ8 B8
          have kX0 := Cells10.c0 CX9
          have kX1 := Cells10.c1 CX9
          have kX2 := Cells10.c2 CX9
          have kX3 := Cells10.c3 CX9
          have kX4 := Cells10.c4 CX9
          have kX5 := Cells10.c5 CX9
          have kX6 := Cells10.c6 CX9
          have kX7 := Cells10.c7 CX9
          have kX8 := Cells10.c8 CX9
          have kX9 := Cells10.c9 CX9
          have kY0 := Cells10.c0 CY9
          have kY1 := Cells10.c1 CY9
          have kY2 := Cells10.c2 CY9
          have kY3 := Cells10.c3 CY9
          have kY4 := Cells10.c4 CY9
          have kY5 := Cells10.c5 CY9
          have kY6 := Cells10.c6 CY9
          have kY7 := Cells10.c7 CY9
          have kY8 := Cells10.c8 CY9
          have kY9 := Cells10.c9 CY9
          have kZ0 := Cells10.c0 CZ9
          have kZ1 := Cells10.c1 CZ9
          have kZ2 := Cells10.c2 CZ9
          have kZ3 := Cells10.c3 CZ9
          have kZ4 := Cells10.c4 CZ9
          have kZ5 := Cells10.c5 CZ9
          have kZ6 := Cells10.c6 CZ9
          have kZ7 := Cells10.c7 CZ9
          have kZ8 := Cells10.c8 CZ9
          have kZ9 := Cells10.c9 CZ9
          go_wp2
          go_ret
          exact ⟨rfl, B9.out⟩
        exfalso
        have h1 : x.cmp y = 1 := EXY.out
        have h2 : y.cmp z = 1 := EYZ.out
        have h3 := cmp_anti Fy.out Fz.out
        rcases cmp_under Fx.out Fy.out Fz.out U1.out with h | h | h
        · exact u2 h
        · omega
        · omega

end Go.Proofs.Ytjdaejklegenbaa
