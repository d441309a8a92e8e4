/-
  Compare: two identifiers held against each other, by a contract: what it answers is the plain mathematics; nothing that was there is changed. Condition: the depths are not below 0.
-/
import Derived.Test.YtldbmmganicliaaCpf
import Derived.Test.YtldbmmganicliaaHlp
namespace Go.Proofs.Ytldbmmganicliaa
set_option linter.unusedSimpArgs false
set_option linter.unusedVariables false
open Go.RowKit Go.Sort

theorem Cells10.six {W : World} {b : Nat} {v0 v1 v2 v3 : Value} {a0 a1 b0 b1 c0 c1 : Int} (h : Cells10 W b v0 v1 v2 v3 (.int .u8 a0) (.int .u8 a1) (.int .u8 b0) (.int .u8 b1) (.int .u8 c0) (.int .u8 c1)) : Cells6 W b a0 a1 b0 b1 c0 c1 :=
  ⟨h.c4, h.c5, h.c6, h.c7, h.c8, h.c9⟩

set_option maxRecDepth 100000 in
set_option maxHeartbeats 2000000 in
theorem compare (n l s d a0 a1 b0 b1 c0 c1 n' l' s' d' x0 x1 y0 y1 z0 z1 : Int) (w : World) (hd : 0 ≤ d) (hd' : 0 ≤ d') :
    Calls Try.prog 52 #[.agg #[.int .u8 n, .int .u16 l, .int .u32 s, .int .u8 d, .int .u8 a0, .int .u8 a1, .int .u8 b0, .int .u8 b1, .int .u8 c0, .int .u8 c1], .agg #[.int .u8 n', .int .u16 l', .int .u32 s', .int .u8 d', .int .u8 x0, .int .u8 x1, .int .u8 y0, .int .u8 y1, .int .u8 z0, .int .u8 z1]] w fun e w' => e = .returned (.int .i64 (ci n l s d a0 a1 b0 b1 c0 c1 n' l' s' d' x0 x1 y0 y1 z0 z1)) ∧ Below w.heap.size w w' := by
  have hmin : ∀ (ts : Array TypeId) (t : TypeId) (W : World), (Builtin.min_ ts t #[.int .u8 d, .int .u8 d', .int .u8 3]).run Try.prog W = .ok (.int .u8 ((mn d d' : Nat) : Int)) W := by
    intro ts t W
    have e : (if (3 : Int) < (if d' < d then d' else d) then 3 else (if d' < d then d' else d)) = ((mn d d' : Nat) : Int) := by
      unfold mn
      split <;> split at * <;> omega
    rw [← e, run_min_int3]
  have hk := mn_le d d'
  have hci : ci n l s d a0 a1 b0 b1 c0 c1 n' l' s' d' x0 x1 y0 y1 z0 z1 = or2 (cp n l n' l') (or2 (sgn s s') (or2 (cf (mn d d') (cs a0 a1 x0 x1) (cs b0 b1 y0 y1) (cs c0 c1 z0 z1)) (or2 (sgn d d') (cf 3 (cs a0 a1 x0 x1) (cs b0 b1 y0 y1) (cs c0 c1 z0 z1))))) := rfl
  rw [hci]
  clear hci
  generalize mn d d' = k at hmin hk ⊢
  have hk3 : (k : Int) ≤ 3 := by omega
  go_enter Try.func52, Try.ntmps52
  go_wp2_with fail
  clear hmin
  have z : Below w.heap.size w ((w.alloc (.cells #[.int .u8 n, .int .u16 l, .int .u32 s, .int .u8 d, .int .u8 a0, .int .u8 a1, .int .u8 b0, .int .u8 b1, .int .u8 c0, .int .u8 c1] 37)).alloc (.cells #[.int .u8 n', .int .u16 l', .int .u32 s', .int .u8 d', .int .u8 x0, .int .u8 x1, .int .u8 y0, .int .u8 y1, .int .u8 z0, .int .u8 z1] 37)) := ((Below.refl _ _).alloc (Nat.le_refl _) _).alloc (by simp) _
  have C := (cells10_new w (.int .u8 n) (.int .u16 l) (.int .u32 s) (.int .u8 d) (.int .u8 a0) (.int .u8 a1) (.int .u8 b0) (.int .u8 b1) (.int .u8 c0) (.int .u8 c1) 37).kept (W' := (w.alloc (.cells #[.int .u8 n, .int .u16 l, .int .u32 s, .int .u8 d, .int .u8 a0, .int .u8 a1, .int .u8 b0, .int .u8 b1, .int .u8 c0, .int .u8 c1] 37)).alloc (.cells #[.int .u8 n', .int .u16 l', .int .u32 s', .int .u8 d', .int .u8 x0, .int .u8 x1, .int .u8 y0, .int .u8 y1, .int .u8 z0, .int .u8 z1] 37)) ((Below.refl _ _).alloc (Nat.le_refl _) _) (by simp)
  have D := cells10_new (w.alloc (.cells #[.int .u8 n, .int .u16 l, .int .u32 s, .int .u8 d, .int .u8 a0, .int .u8 a1, .int .u8 b0, .int .u8 b1, .int .u8 c0, .int .u8 c1] 37)) (.int .u8 n') (.int .u16 l') (.int .u32 s') (.int .u8 d') (.int .u8 x0) (.int .u8 x1) (.int .u8 y0) (.int .u8 y1) (.int .u8 z0) (.int .u8 z1) 37
  have eD : (w.alloc (.cells #[.int .u8 n, .int .u16 l, .int .u32 s, .int .u8 d, .int .u8 a0, .int .u8 a1, .int .u8 b0, .int .u8 b1, .int .u8 c0, .int .u8 c1] 37)).heap.size = w.heap.size + 1 := by simp
  rw [eD] at D
  clear eD
  have hz : w.heap.size + 1 < ((w.alloc (.cells #[.int .u8 n, .int .u16 l, .int .u32 s, .int .u8 d, .int .u8 a0, .int .u8 a1, .int .u8 b0, .int .u8 b1, .int .u8 c0, .int .u8 c1] 37)).alloc (.cells #[.int .u8 n', .int .u16 l', .int .u32 s', .int .u8 d', .int .u8 x0, .int .u8 x1, .int .u8 y0, .int .u8 y1, .int .u8 z0, .int .u8 z1] 37)).heap.size := by simp
  generalize (w.alloc (.cells #[.int .u8 n, .int .u16 l, .int .u32 s, .int .u8 d, .int .u8 a0, .int .u8 a1, .int .u8 b0, .int .u8 b1, .int .u8 c0, .int .u8 c1] 37)).alloc (.cells #[.int .u8 n', .int .u16 l', .int .u32 s', .int .u8 d', .int .u8 x0, .int .u8 x1, .int .u8 y0, .int .u8 y1, .int .u8 z0, .int .u8 z1] 37) = W at *
  have hz0 : w.heap.size < W.heap.size := by omega
  have p0 := cell_regrown C.c0
  have p1 := cell_regrown C.c1
  have p2 := cell_regrown C.c2
  have p3 := cell_regrown C.c3
  have q0 := cell_regrown D.c0
  have q1 := cell_regrown D.c1
  have q2 := cell_regrown D.c2
  have q3 := cell_regrown D.c3
  have cfk : ∀ (k : Nat), k ≤ 3 → ∀ d os, Calls Try.prog 64 #[.slice (some ⟨w.heap.size, 4, none⟩) k 3, .slice (some ⟨w.heap.size + 1, 4, none⟩) k 3, .func (.func 65) #[] #[]] (grow (redrawn W d) os) fun e w'' => e = .returned (.int .i64 (cf k (cs a0 a1 x0 x1) (cs b0 b1 y0 y1) (cs c0 c1 z0 z1))) ∧ ∃ p : Regrown, w'' = grow (redrawn W p.d) p.os :=
    fun k hk d os => Calls.regrown_of (compareFunc k _ _ hk _ _ _ _ _ _ _ _ _ _ _ _ _ (Nat.lt_of_lt_of_le hz0 (below_regrown W d os).size) (Nat.lt_of_lt_of_le hz (below_regrown W d os).size) (C.six.kept (below_regrown W d os) hz0) (D.six.kept (below_regrown W d os) hz))
  have CK := Lib.hid (cfk k hk)
  have C3 := Lib.hid (cfk 3 (by omega))
  clear cfk C D hz hz0
  have Z := Lib.hid z
  clear z
  refine region_first_below 27 (by kernel_rfl) (by kernel_rfl) ?_
  simp only [List.take_succ_cons, List.take_zero, List.drop_succ_cons, List.drop_zero]
  repeat (go_big_quiet_step (first | (go_at_call 62; exact Calls.regrown_of (compareProcs _ _ _ _ _)) | (go_at_call 63; exact Calls.regrown_of ((cmpU32 _ _ _).mono fun _ _ ⟨he, hw⟩ => ⟨he, hw ▸ Below.refl _ _⟩)) | (go_at_call 66; exact Calls.regrown_of ((cmpU8 _ _ _).mono fun _ _ ⟨he, hw⟩ => ⟨he, hw ▸ Below.refl _ _⟩)) | (go_at_call 64; first | (with_reducible exact CK.out _ _) | (with_reducible exact C3.out _ _))))
  refine wpQuiet_nil ?_
  rintro W1 ⟨p, rfl⟩
  have z2 := below_regrown W p.d p.os
  generalize grow (redrawn W p.d) p.os = W2 at *
  clear p0 q0 p1 q1 p2 q2 p3 q3
  have Z2 := Lib.hid z2
  clear z2
  go_wp2_with (go_at_call 61; refine (orFive _ (cp n l n' l') (sgn s s') (cf k (cs a0 a1 x0 x1) (cs b0 b1 y0 y1) (cs c0 c1 z0 z1)) (sgn d d') (cf 3 (cs a0 a1 x0 x1) (cs b0 b1 y0 y1) (cs c0 c1 z0 z1)) _ (by simp) (by simp) (by simp) (by simp) (by simp)).mono ?_; rintro e w' ⟨rfl, rfl⟩)
  go_ret
  exact ⟨rfl, (Z.out.trans (Z2.out.mono Z.out.size)).alloc (Nat.le_trans Z.out.size Z2.out.size) _⟩

end Go.Proofs.Ytldbmmganicliaa
