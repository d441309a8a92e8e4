/-
  A Set that nobody made: Has and Remove, by contracts. Condition: the depth is not below 0.
-/
import Derived.Test.YtjdaejklegenbaaNil
namespace Go.Proofs.Ytjdaejklegenbaa
set_option linter.unusedSimpArgs false
set_option linter.unusedVariables false
open Go.RowKit Go.Sort

set_option maxRecDepth 100000 in
theorem lookNone (n l s d a0 a1 b0 b1 c0 c1 : Int) (W : World) : (Instr.lookup 82 (.map none) (.agg #[.int .u8 n, .int .u16 l, .int .u32 s, .int .u8 d, .int .u8 a0, .int .u8 a1, .int .u8 b0, .int .u8 b1, .int .u8 c0, .int .u8 c1]) true).run Try.prog W = .ok (.tuple #[.agg #[], .bool false]) W := by
  kernel_rfl

set_option maxRecDepth 100000 in
set_option maxHeartbeats 1000000 in
theorem hasEmpty (b : Nat) (n l s d a0 a1 b0 b1 c0 c1 : Int) (w : World) (hc0 : w.cell? ⟨b, 0, none⟩ = some (.int .i64 0)) (hc1 : w.cell? ⟨b, 1, none⟩ = some (.map none)) : Calls Try.prog 34 #[.pointer (some ⟨b, 0, none⟩), .agg #[.int .u8 n, .int .u16 l, .int .u32 s, .int .u8 d, .int .u8 a0, .int .u8 a1, .int .u8 b0, .int .u8 b1, .int .u8 c0, .int .u8 c1]] w fun e w' => e = .returned (.bool false) ∧ Below w.heap.size w w' := by
  have hl := World.block_lt_of_cell? w _ hc0
  have hlk := fun W => lookNone n l s d a0 a1 b0 b1 c0 c1 W
  go_enter Try.func34, Try.ntmps34
  go_wp2
  go_region_held3 (fun w' => w'.cell? ⟨b, 1, none⟩ = some (.map none) ∧ w'.cell? ⟨w.heap.size, 0, none⟩ = some (.int .u8 n) ∧ w'.cell? ⟨w.heap.size, 1, none⟩ = some (.int .u16 l) ∧ w'.cell? ⟨w.heap.size, 2, none⟩ = some (.int .u32 s) ∧ w'.cell? ⟨w.heap.size, 3, none⟩ = some (.int .u8 d) ∧ w'.cell? ⟨w.heap.size, 4, none⟩ = some (.int .u8 a0) ∧ w'.cell? ⟨w.heap.size, 5, none⟩ = some (.int .u8 a1) ∧ w'.cell? ⟨w.heap.size, 6, none⟩ = some (.int .u8 b0) ∧ w'.cell? ⟨w.heap.size, 7, none⟩ = some (.int .u8 b1) ∧ w'.cell? ⟨w.heap.size, 8, none⟩ = some (.int .u8 c0) ∧ w'.cell? ⟨w.heap.size, 9, none⟩ = some (.int .u8 c1)) ((first | (simp [hl, hc1]; done) | (go_simp; done) | go_keep)) (fail)
  all_goals go_wp2
  all_goals go_ret
  all_goals exact ⟨rfl, (by repeat (first | (with_reducible exact Below.refl _ _) | (with_reducible refine Below.setCell ?_ (by first | (simp; done) | (simp; omega)) _) | (with_reducible refine Below.drew ?_) | (with_reducible refine Below.alloc ?_ (by first | (simp; done) | (simp; omega)) _)))⟩

set_option maxRecDepth 100000 in
set_option maxHeartbeats 1000000 in
theorem remEmpty (b : Nat) (n l s d a0 a1 b0 b1 c0 c1 : Int) (w : World) (hc0 : w.cell? ⟨b, 0, none⟩ = some (.int .i64 0)) (hc1 : w.cell? ⟨b, 1, none⟩ = some (.map none)) : Calls Try.prog 31 #[.pointer (some ⟨b, 0, none⟩), .agg #[.int .u8 n, .int .u16 l, .int .u32 s, .int .u8 d, .int .u8 a0, .int .u8 a1, .int .u8 b0, .int .u8 b1, .int .u8 c0, .int .u8 c1]] w fun e w' => e = .returned (.bool false) ∧ Below w.heap.size w w' := by
  have hl := World.block_lt_of_cell? w _ hc0
  have zb : Below w.heap.size w (w.alloc (.cells #[.int .u8 n, .int .u16 l, .int .u32 s, .int .u8 d, .int .u8 a0, .int .u8 a1, .int .u8 b0, .int .u8 b1, .int .u8 c0, .int .u8 c1] 35)) := (Below.refl _ _).alloc (Nat.le_refl _) _
  have e0 := (zb.cell (p := ⟨b, 0, none⟩) hl).trans hc0
  have e1 := (zb.cell (p := ⟨b, 1, none⟩) hl).trans hc1
  have HE := hasEmpty b n l s d a0 a1 b0 b1 c0 c1 (w.alloc (.cells #[.int .u8 n, .int .u16 l, .int .u32 s, .int .u8 d, .int .u8 a0, .int .u8 a1, .int .u8 b0, .int .u8 b1, .int .u8 c0, .int .u8 c1] 35)) e0 e1
  have HH := Lib.hid HE
  clear HE zb e0 e1
  go_enter Try.func31, Try.ntmps31
  go_wp2_with fail
  refine HH.out.mono ?_
  rintro e w1 ⟨rfl, hb⟩
  go_wp2
  go_ret
  exact ⟨rfl, ((Below.refl _ _).alloc (Nat.le_refl _) _).trans (hb.mono (by simp))⟩

set_option maxRecDepth 100000 in
set_option maxHeartbeats 4000000 in
theorem nil_walk (n l s d a0 a1 b0 b1 c0 c1 : Int) (w : World) : Calls Try.prog 7 #[.agg #[.int .u8 n, .int .u16 l, .int .u32 s, .int .u8 d, .int .u8 a0, .int .u8 a1, .int .u8 b0, .int .u8 b1, .int .u8 c0, .int .u8 c1]] w fun e w' => e = .returned (.bool true) ∧ Below w.heap.size w w' := by
  go_enter Try.func7, Try.ntmps7
  go_wp2
  have C := cells10_new w (.int .u8 n) (.int .u16 l) (.int .u32 s) (.int .u8 d) (.int .u8 a0) (.int .u8 a1) (.int .u8 b0) (.int .u8 b1) (.int .u8 c0) (.int .u8 c1) 30
  have B := Lib.hid ((Below.refl w.heap.size w).alloc (Nat.le_refl _) (.cells #[.int .u8 n, .int .u16 l, .int .u32 s, .int .u8 d, .int .u8 a0, .int .u8 a1, .int .u8 b0, .int .u8 b1, .int .u8 c0, .int .u8 c1] 30))
  have lN : w.heap.size < (w.alloc (.cells #[.int .u8 n, .int .u16 l, .int .u32 s, .int .u8 d, .int .u8 a0, .int .u8 a1, .int .u8 b0, .int .u8 b1, .int .u8 c0, .int .u8 c1] 30)).heap.size := by simp
  generalize w.alloc (.cells #[.int .u8 n, .int .u16 l, .int .u32 s, .int .u8 d, .int .u8 a0, .int .u8 a1, .int .u8 b0, .int .u8 b1, .int .u8 c0, .int .u8 c1] 30) = W0 at *
  have k0 := C.c0
  have k1 := C.c1
  have k2 := C.c2
  have k3 := C.c3
  have k4 := C.c4
  have k5 := C.c5
  have k6 := C.c6
  have k7 := C.c7
  have k8 := C.c8
  have k9 := C.c9
  refine wp_loop_rounds 3 ?_
  rw [rounds_succ]
  go_wp2_with fail
  refine (toID n l s d a0 a1 b0 b1 c0 c1 _).mono ?_
  rintro e W1 ⟨rfl, h1⟩
  clear k0 k1 k2 k3 k4 k5 k6 k7 k8 k9
  have C' := C.kept h1 lN
  clear C
  have C := C'
  clear C'
  have lN' := Nat.lt_of_lt_of_le lN h1.size
  clear lN
  have lN := lN'
  clear lN'
  have B' := Lib.hid (B.out.trans (h1.mono B.out.size))
  clear B h1
  have B := B'
  clear B'
  have k0 := C.c0
  have k1 := C.c1
  have k2 := C.c2
  have k3 := C.c3
  have k4 := C.c4
  have k5 := C.c5
  have k6 := C.c6
  have k7 := C.c7
  have k8 := C.c8
  have k9 := C.c9
  go_wp2_with fail
  refine (addNil n l s d a0 a1 b0 b1 c0 c1 _).mono ?_
  rintro e W2 ⟨rfl, h2⟩
  clear k0 k1 k2 k3 k4 k5 k6 k7 k8 k9
  have C' := C.kept h2 lN
  clear C
  have C := C'
  clear C'
  have lN' := Nat.lt_of_lt_of_le lN h2.size
  clear lN
  have lN := lN'
  clear lN'
  have B' := Lib.hid (B.out.trans (h2.mono B.out.size))
  clear B h2
  have B := B'
  clear B'
  have k0 := C.c0
  have k1 := C.c1
  have k2 := C.c2
  have k3 := C.c3
  have k4 := C.c4
  have k5 := C.c5
  have k6 := C.c6
  have k7 := C.c7
  have k8 := C.c8
  have k9 := C.c9
  go_wp2_with fail
  refine (numOf _ _).mono ?_
  rintro e w' ⟨rfl, rfl⟩
  go_wp2_with fail
  refine (toID n l s d a0 a1 b0 b1 c0 c1 _).mono ?_
  rintro e W4 ⟨rfl, h4⟩
  clear k0 k1 k2 k3 k4 k5 k6 k7 k8 k9
  have C' := C.kept h4 lN
  clear C
  have C := C'
  clear C'
  have lN' := Nat.lt_of_lt_of_le lN h4.size
  clear lN
  have lN := lN'
  clear lN'
  have B' := Lib.hid (B.out.trans (h4.mono B.out.size))
  clear B h4
  have B := B'
  clear B'
  have k0 := C.c0
  have k1 := C.c1
  have k2 := C.c2
  have k3 := C.c3
  have k4 := C.c4
  have k5 := C.c5
  have k6 := C.c6
  have k7 := C.c7
  have k8 := C.c8
  have k9 := C.c9
  go_wp2_with fail
  refine (remNil n l s d a0 a1 b0 b1 c0 c1 _).mono ?_
  rintro e W5 ⟨rfl, h5⟩
  clear k0 k1 k2 k3 k4 k5 k6 k7 k8 k9
  have C' := C.kept h5 lN
  clear C
  have C := C'
  clear C'
  have lN' := Nat.lt_of_lt_of_le lN h5.size
  clear lN
  have lN := lN'
  clear lN'
  have B' := Lib.hid (B.out.trans (h5.mono B.out.size))
  clear B h5
  have B := B'
  clear B'
  have k0 := C.c0
  have k1 := C.c1
  have k2 := C.c2
  have k3 := C.c3
  have k4 := C.c4
  have k5 := C.c5
  have k6 := C.c6
  have k7 := C.c7
  have k8 := C.c8
  have k9 := C.c9
  go_wp2_with fail
  refine (toID n l s d a0 a1 b0 b1 c0 c1 _).mono ?_
  rintro e W6 ⟨rfl, h6⟩
  clear k0 k1 k2 k3 k4 k5 k6 k7 k8 k9
  have C' := C.kept h6 lN
  clear C
  have C := C'
  clear C'
  have lN' := Nat.lt_of_lt_of_le lN h6.size
  clear lN
  have lN := lN'
  clear lN'
  have B' := Lib.hid (B.out.trans (h6.mono B.out.size))
  clear B h6
  have B := B'
  clear B'
  have k0 := C.c0
  have k1 := C.c1
  have k2 := C.c2
  have k3 := C.c3
  have k4 := C.c4
  have k5 := C.c5
  have k6 := C.c6
  have k7 := C.c7
  have k8 := C.c8
  have k9 := C.c9
  go_wp2_with fail
  refine (hasNil n l s d a0 a1 b0 b1 c0 c1 _).mono ?_
  rintro e W7 ⟨rfl, h7⟩
  clear k0 k1 k2 k3 k4 k5 k6 k7 k8 k9
  have C' := C.kept h7 lN
  clear C
  have C := C'
  clear C'
  have lN' := Nat.lt_of_lt_of_le lN h7.size
  clear lN
  have lN := lN'
  clear lN'
  have B' := Lib.hid (B.out.trans (h7.mono B.out.size))
  clear B h7
  have B := B'
  clear B'
  have k0 := C.c0
  have k1 := C.c1
  have k2 := C.c2
  have k3 := C.c3
  have k4 := C.c4
  have k5 := C.c5
  have k6 := C.c6
  have k7 := C.c7
  have k8 := C.c8
  have k9 := C.c9
  go_wp2_with fail
  refine (lenNil _).mono ?_
  rintro e W8 ⟨rfl, h8⟩
  clear k0 k1 k2 k3 k4 k5 k6 k7 k8 k9
  have C' := C.kept h8 lN
  clear C
  have C := C'
  clear C'
  have lN' := Nat.lt_of_lt_of_le lN h8.size
  clear lN
  have lN := lN'
  clear lN'
  have B' := Lib.hid (B.out.trans (h8.mono B.out.size))
  clear B h8
  have B := B'
  clear B'
  have k0 := C.c0
  have k1 := C.c1
  have k2 := C.c2
  have k3 := C.c3
  have k4 := C.c4
  have k5 := C.c5
  have k6 := C.c6
  have k7 := C.c7
  have k8 := C.c8
  have k9 := C.c9
  go_wp2_with fail
  refine (allNil _).mono ?_
  rintro e W9 ⟨rfl, h9⟩
  clear k0 k1 k2 k3 k4 k5 k6 k7 k8 k9
  have C' := C.kept h9 lN
  clear C
  have C := C'
  clear C'
  have lN' := Nat.lt_of_lt_of_le lN h9.size
  clear lN
  have lN := lN'
  clear lN'
  have B' := Lib.hid (B.out.trans (h9.mono B.out.size))
  clear B h9
  have B := B'
  clear B'
  have k0 := C.c0
  have k1 := C.c1
  have k2 := C.c2
  have k3 := C.c3
  have k4 := C.c4
  have k5 := C.c5
  have k6 := C.c6
  have k7 := C.c7
  have k8 := C.c8
  have k9 := C.c9
  go_wp2_with fail
  refine (toProc_b n l _).mono ?_
  rintro e W10 ⟨rfl, h10⟩
  clear k0 k1 k2 k3 k4 k5 k6 k7 k8 k9
  have C' := C.kept h10 lN
  clear C
  have C := C'
  clear C'
  have lN' := Nat.lt_of_lt_of_le lN h10.size
  clear lN
  have lN := lN'
  clear lN'
  have B' := Lib.hid (B.out.trans (h10.mono B.out.size))
  clear B h10
  have B := B'
  clear B'
  have k0 := C.c0
  have k1 := C.c1
  have k2 := C.c2
  have k3 := C.c3
  have k4 := C.c4
  have k5 := C.c5
  have k6 := C.c6
  have k7 := C.c7
  have k8 := C.c8
  have k9 := C.c9
  go_wp2_with fail
  refine (underNil n l _).mono ?_
  rintro e W11 ⟨rfl, h11⟩
  clear k0 k1 k2 k3 k4 k5 k6 k7 k8 k9
  have C' := C.kept h11 lN
  clear C
  have C := C'
  clear C'
  have lN' := Nat.lt_of_lt_of_le lN h11.size
  clear lN
  have lN := lN'
  clear lN'
  have B' := Lib.hid (B.out.trans (h11.mono B.out.size))
  clear B h11
  have B := B'
  clear B'
  have k0 := C.c0
  have k1 := C.c1
  have k2 := C.c2
  have k3 := C.c3
  have k4 := C.c4
  have k5 := C.c5
  have k6 := C.c6
  have k7 := C.c7
  have k8 := C.c8
  have k9 := C.c9
  go_wp2
  clear k0 k1 k2 k3 k4 k5 k6 k7 k8 k9
  have hb : Below W11.heap.size W11 (W11.alloc (.cells #[.int .i64 0, .map none] 84)) := (Below.refl _ _).alloc (Nat.le_refl _) _
  have C' := C.kept hb lN
  clear C
  have C := C'
  clear C'
  have E0 : (W11.alloc (.cells #[.int .i64 0, .map none] 84)).cell? ⟨W11.heap.size, 0, none⟩ = some (.int .i64 0) := by simp
  have E1 : (W11.alloc (.cells #[.int .i64 0, .map none] 84)).cell? ⟨W11.heap.size, 1, none⟩ = some (.map none) := by simp
  have lS : W11.heap.size < (W11.alloc (.cells #[.int .i64 0, .map none] 84)).heap.size := by simp
  have lN' : w.heap.size < (W11.alloc (.cells #[.int .i64 0, .map none] 84)).heap.size := by simp; omega
  clear lN
  have lN := lN'
  clear lN'
  have B' := Lib.hid (B.out.trans (hb.mono B.out.size))
  clear B hb
  have B := B'
  clear B'
  generalize W11.alloc (.cells #[.int .i64 0, .map none] 84) = V0 at *
  generalize W11.heap.size = bs at *
  have k0 := C.c0
  have k1 := C.c1
  have k2 := C.c2
  have k3 := C.c3
  have k4 := C.c4
  have k5 := C.c5
  have k6 := C.c6
  have k7 := C.c7
  have k8 := C.c8
  have k9 := C.c9
  rw [rounds_succ]
  go_wp2_with fail
  refine (toID n l s d a0 a1 b0 b1 c0 c1 _).mono ?_
  rintro e W12 ⟨rfl, h12⟩
  clear k0 k1 k2 k3 k4 k5 k6 k7 k8 k9
  have C' := C.kept h12 lN
  clear C
  have C := C'
  clear C'
  have lN' := Nat.lt_of_lt_of_le lN h12.size
  have E0' := (h12.cell (p := ⟨bs, 0, none⟩) lS).trans E0
  have E1' := (h12.cell (p := ⟨bs, 1, none⟩) lS).trans E1
  clear E0 E1
  have E0 := E0'
  have E1 := E1'
  clear E0' E1'
  have lS' := Nat.lt_of_lt_of_le lS h12.size
  clear lS
  have lS := lS'
  clear lS'
  clear lN
  have lN := lN'
  clear lN'
  have B' := Lib.hid (B.out.trans (h12.mono B.out.size))
  clear B h12
  have B := B'
  clear B'
  have k0 := C.c0
  have k1 := C.c1
  have k2 := C.c2
  have k3 := C.c3
  have k4 := C.c4
  have k5 := C.c5
  have k6 := C.c6
  have k7 := C.c7
  have k8 := C.c8
  have k9 := C.c9
  go_wp2_with fail
  refine (addEmpty bs n l s d a0 a1 b0 b1 c0 c1 _ E0 E1).mono ?_
  rintro e W13 ⟨rfl, h13⟩
  clear k0 k1 k2 k3 k4 k5 k6 k7 k8 k9
  have C' := C.kept h13 lN
  clear C
  have C := C'
  clear C'
  have lN' := Nat.lt_of_lt_of_le lN h13.size
  have E0' := (h13.cell (p := ⟨bs, 0, none⟩) lS).trans E0
  have E1' := (h13.cell (p := ⟨bs, 1, none⟩) lS).trans E1
  clear E0 E1
  have E0 := E0'
  have E1 := E1'
  clear E0' E1'
  have lS' := Nat.lt_of_lt_of_le lS h13.size
  clear lS
  have lS := lS'
  clear lS'
  clear lN
  have lN := lN'
  clear lN'
  have B' := Lib.hid (B.out.trans (h13.mono B.out.size))
  clear B h13
  have B := B'
  clear B'
  have k0 := C.c0
  have k1 := C.c1
  have k2 := C.c2
  have k3 := C.c3
  have k4 := C.c4
  have k5 := C.c5
  have k6 := C.c6
  have k7 := C.c7
  have k8 := C.c8
  have k9 := C.c9
  go_wp2_with fail
  refine (numOf _ _).mono ?_
  rintro e w' ⟨rfl, rfl⟩
  go_wp2_with fail
  refine (toID n l s d a0 a1 b0 b1 c0 c1 _).mono ?_
  rintro e W15 ⟨rfl, h15⟩
  clear k0 k1 k2 k3 k4 k5 k6 k7 k8 k9
  have C' := C.kept h15 lN
  clear C
  have C := C'
  clear C'
  have lN' := Nat.lt_of_lt_of_le lN h15.size
  have E0' := (h15.cell (p := ⟨bs, 0, none⟩) lS).trans E0
  have E1' := (h15.cell (p := ⟨bs, 1, none⟩) lS).trans E1
  clear E0 E1
  have E0 := E0'
  have E1 := E1'
  clear E0' E1'
  have lS' := Nat.lt_of_lt_of_le lS h15.size
  clear lS
  have lS := lS'
  clear lS'
  clear lN
  have lN := lN'
  clear lN'
  have B' := Lib.hid (B.out.trans (h15.mono B.out.size))
  clear B h15
  have B := B'
  clear B'
  have k0 := C.c0
  have k1 := C.c1
  have k2 := C.c2
  have k3 := C.c3
  have k4 := C.c4
  have k5 := C.c5
  have k6 := C.c6
  have k7 := C.c7
  have k8 := C.c8
  have k9 := C.c9
  go_wp2_with fail
  refine (remEmpty bs n l s d a0 a1 b0 b1 c0 c1 _ E0 E1).mono ?_
  rintro e W16 ⟨rfl, h16⟩
  clear k0 k1 k2 k3 k4 k5 k6 k7 k8 k9
  have C' := C.kept h16 lN
  clear C
  have C := C'
  clear C'
  have lN' := Nat.lt_of_lt_of_le lN h16.size
  have E0' := (h16.cell (p := ⟨bs, 0, none⟩) lS).trans E0
  have E1' := (h16.cell (p := ⟨bs, 1, none⟩) lS).trans E1
  clear E0 E1
  have E0 := E0'
  have E1 := E1'
  clear E0' E1'
  have lS' := Nat.lt_of_lt_of_le lS h16.size
  clear lS
  have lS := lS'
  clear lS'
  clear lN
  have lN := lN'
  clear lN'
  have B' := Lib.hid (B.out.trans (h16.mono B.out.size))
  clear B h16
  have B := B'
  clear B'
  have k0 := C.c0
  have k1 := C.c1
  have k2 := C.c2
  have k3 := C.c3
  have k4 := C.c4
  have k5 := C.c5
  have k6 := C.c6
  have k7 := C.c7
  have k8 := C.c8
  have k9 := C.c9
  go_wp2_with fail
  refine (toID n l s d a0 a1 b0 b1 c0 c1 _).mono ?_
  rintro e W17 ⟨rfl, h17⟩
  clear k0 k1 k2 k3 k4 k5 k6 k7 k8 k9
  have C' := C.kept h17 lN
  clear C
  have C := C'
  clear C'
  have lN' := Nat.lt_of_lt_of_le lN h17.size
  have E0' := (h17.cell (p := ⟨bs, 0, none⟩) lS).trans E0
  have E1' := (h17.cell (p := ⟨bs, 1, none⟩) lS).trans E1
  clear E0 E1
  have E0 := E0'
  have E1 := E1'
  clear E0' E1'
  have lS' := Nat.lt_of_lt_of_le lS h17.size
  clear lS
  have lS := lS'
  clear lS'
  clear lN
  have lN := lN'
  clear lN'
  have B' := Lib.hid (B.out.trans (h17.mono B.out.size))
  clear B h17
  have B := B'
  clear B'
  have k0 := C.c0
  have k1 := C.c1
  have k2 := C.c2
  have k3 := C.c3
  have k4 := C.c4
  have k5 := C.c5
  have k6 := C.c6
  have k7 := C.c7
  have k8 := C.c8
  have k9 := C.c9
  go_wp2_with fail
  refine (hasEmpty bs n l s d a0 a1 b0 b1 c0 c1 _ E0 E1).mono ?_
  rintro e W18 ⟨rfl, h18⟩
  clear k0 k1 k2 k3 k4 k5 k6 k7 k8 k9
  have C' := C.kept h18 lN
  clear C
  have C := C'
  clear C'
  have lN' := Nat.lt_of_lt_of_le lN h18.size
  have E0' := (h18.cell (p := ⟨bs, 0, none⟩) lS).trans E0
  have E1' := (h18.cell (p := ⟨bs, 1, none⟩) lS).trans E1
  clear E0 E1
  have E0 := E0'
  have E1 := E1'
  clear E0' E1'
  have lS' := Nat.lt_of_lt_of_le lS h18.size
  clear lS
  have lS := lS'
  clear lS'
  clear lN
  have lN := lN'
  clear lN'
  have B' := Lib.hid (B.out.trans (h18.mono B.out.size))
  clear B h18
  have B := B'
  clear B'
  have k0 := C.c0
  have k1 := C.c1
  have k2 := C.c2
  have k3 := C.c3
  have k4 := C.c4
  have k5 := C.c5
  have k6 := C.c6
  have k7 := C.c7
  have k8 := C.c8
  have k9 := C.c9
  go_wp2_with fail
  refine (lenEmpty bs _ E0 E1).mono ?_
  rintro e W19 ⟨rfl, h19⟩
  clear k0 k1 k2 k3 k4 k5 k6 k7 k8 k9
  have C' := C.kept h19 lN
  clear C
  have C := C'
  clear C'
  have lN' := Nat.lt_of_lt_of_le lN h19.size
  have E0' := (h19.cell (p := ⟨bs, 0, none⟩) lS).trans E0
  have E1' := (h19.cell (p := ⟨bs, 1, none⟩) lS).trans E1
  clear E0 E1
  have E0 := E0'
  have E1 := E1'
  clear E0' E1'
  have lS' := Nat.lt_of_lt_of_le lS h19.size
  clear lS
  have lS := lS'
  clear lS'
  clear lN
  have lN := lN'
  clear lN'
  have B' := Lib.hid (B.out.trans (h19.mono B.out.size))
  clear B h19
  have B := B'
  clear B'
  have k0 := C.c0
  have k1 := C.c1
  have k2 := C.c2
  have k3 := C.c3
  have k4 := C.c4
  have k5 := C.c5
  have k6 := C.c6
  have k7 := C.c7
  have k8 := C.c8
  have k9 := C.c9
  go_wp2_with fail
  refine (allEmpty bs _ E0 E1).mono ?_
  rintro e W20 ⟨rfl, h20⟩
  clear k0 k1 k2 k3 k4 k5 k6 k7 k8 k9
  have C' := C.kept h20 lN
  clear C
  have C := C'
  clear C'
  have lN' := Nat.lt_of_lt_of_le lN h20.size
  have E0' := (h20.cell (p := ⟨bs, 0, none⟩) lS).trans E0
  have E1' := (h20.cell (p := ⟨bs, 1, none⟩) lS).trans E1
  clear E0 E1
  have E0 := E0'
  have E1 := E1'
  clear E0' E1'
  have lS' := Nat.lt_of_lt_of_le lS h20.size
  clear lS
  have lS := lS'
  clear lS'
  clear lN
  have lN := lN'
  clear lN'
  have B' := Lib.hid (B.out.trans (h20.mono B.out.size))
  clear B h20
  have B := B'
  clear B'
  have k0 := C.c0
  have k1 := C.c1
  have k2 := C.c2
  have k3 := C.c3
  have k4 := C.c4
  have k5 := C.c5
  have k6 := C.c6
  have k7 := C.c7
  have k8 := C.c8
  have k9 := C.c9
  go_wp2_with fail
  refine (toProc_b n l _).mono ?_
  rintro e W21 ⟨rfl, h21⟩
  clear k0 k1 k2 k3 k4 k5 k6 k7 k8 k9
  have C' := C.kept h21 lN
  clear C
  have C := C'
  clear C'
  have lN' := Nat.lt_of_lt_of_le lN h21.size
  have E0' := (h21.cell (p := ⟨bs, 0, none⟩) lS).trans E0
  have E1' := (h21.cell (p := ⟨bs, 1, none⟩) lS).trans E1
  clear E0 E1
  have E0 := E0'
  have E1 := E1'
  clear E0' E1'
  have lS' := Nat.lt_of_lt_of_le lS h21.size
  clear lS
  have lS := lS'
  clear lS'
  clear lN
  have lN := lN'
  clear lN'
  have B' := Lib.hid (B.out.trans (h21.mono B.out.size))
  clear B h21
  have B := B'
  clear B'
  have k0 := C.c0
  have k1 := C.c1
  have k2 := C.c2
  have k3 := C.c3
  have k4 := C.c4
  have k5 := C.c5
  have k6 := C.c6
  have k7 := C.c7
  have k8 := C.c8
  have k9 := C.c9
  go_wp2_with fail
  refine (underEmpty bs n l _ E0 E1).mono ?_
  rintro e W22 ⟨rfl, h22⟩
  clear k0 k1 k2 k3 k4 k5 k6 k7 k8 k9
  have C' := C.kept h22 lN
  clear C
  have C := C'
  clear C'
  have lN' := Nat.lt_of_lt_of_le lN h22.size
  have E0' := (h22.cell (p := ⟨bs, 0, none⟩) lS).trans E0
  have E1' := (h22.cell (p := ⟨bs, 1, none⟩) lS).trans E1
  clear E0 E1
  have E0 := E0'
  have E1 := E1'
  clear E0' E1'
  have lS' := Nat.lt_of_lt_of_le lS h22.size
  clear lS
  have lS := lS'
  clear lS'
  clear lN
  have lN := lN'
  clear lN'
  have B' := Lib.hid (B.out.trans (h22.mono B.out.size))
  clear B h22
  have B := B'
  clear B'
  have k0 := C.c0
  have k1 := C.c1
  have k2 := C.c2
  have k3 := C.c3
  have k4 := C.c4
  have k5 := C.c5
  have k6 := C.c6
  have k7 := C.c7
  have k8 := C.c8
  have k9 := C.c9
  go_wp2
  clear k0 k1 k2 k3 k4 k5 k6 k7 k8 k9
  rw [rounds_succ]
  go_wp2_with (go_at_call 22; refine (knows _).mono ?_; rintro e w' ⟨rfl, hk⟩)
  go_ret
  exact ⟨rfl, (B.out.alloc B.out.size _).trans (hk.mono (by have := B.out.size; simp; omega))⟩

end Go.Proofs.Ytjdaejklegenbaa
