/-
  A Set with a map: Add, by contracts. Condition: each number fits its kind.
-/
import Derived.Test.YtehkofeokccdeaaRem
namespace Go.Proofs.Ytehkofeokccdeaa
set_option linter.unusedSimpArgs false
set_option linter.unusedVariables false
open Go.RowKit Go.Maps Go.Sort

set_option maxRecDepth 100000 in
set_option maxHeartbeats 1000000 in
theorem addSetArg {H : Type} (b bm nn : Nat) (most : Int) (D : DataW H) (x : I10) (rx : x.Rng) (w : World) (hc0 : w.cell? ⟨b, 0, none⟩ = some (.int .i64 most)) (hc1 : w.cell? ⟨b, 1, none⟩ = some (.map (some bm))) (hown : w.ownsMap Try.prog 48 unitElem bm nn D) (hx : x.ok = false) :
    Calls Try.prog 7 #[.pointer (some ⟨b, 0, none⟩), .agg #[.int .u8 x.n, .int .u16 x.l, .int .u32 x.s, .int .u8 x.d, .int .u8 x.a0, .int .u8 x.a1, .int .u8 x.b0, .int .u8 x.b1, .int .u8 x.c0, .int .u8 x.c1]] w fun e w' => e = .returned (.int .i64 1) ∧ Below w.heap.size w w' := by
  have HX : Hid (rI x.n x.l x.s x.d x.a0 x.a1 x.b0 x.b1 x.c0 x.c1 = false) := Lib.hid hx
  clear hx
  have hl := World.block_lt_of_cell? w _ hc1
  have hmn : ∀ (w : World) (r : Option Nat), (binOp .eql 66 (.map r) (.map none)).run Try.prog w = .ok (.bool r.isNone) w := fun w r => run_eql_map_nil w _ _ _ r Try.underlying66
  have HO := Lib.hid hown
  clear hown
  go_enter Try.func7, Try.ntmps7
  go_wp2_with fail
  clear hmn
  have hown := HO.out
  clear HO
  have zb : Below w.heap.size w (w.alloc (.cells #[.int .u8 x.n, .int .u16 x.l, .int .u32 x.s, .int .u8 x.d, .int .u8 x.a0, .int .u8 x.a1, .int .u8 x.b0, .int .u8 x.b1, .int .u8 x.c0, .int .u8 x.c1] 48)) := (Below.refl _ _).alloc (Nat.le_refl _) _
  have hbm : bm < w.heap.size := hown.lt
  have C0 := cells10_new w (.int .u8 x.n) (.int .u16 x.l) (.int .u32 x.s) (.int .u8 x.d) (.int .u8 x.a0) (.int .u8 x.a1) (.int .u8 x.b0) (.int .u8 x.b1) (.int .u8 x.c0) (.int .u8 x.c1) 48
  have f0 := (zb.cell (p := ⟨b, 0, none⟩) hl).trans hc0
  have f1 := (zb.cell (p := ⟨b, 1, none⟩) hl).trans hc1
  have own1 : (w.alloc (.cells #[.int .u8 x.n, .int .u16 x.l, .int .u32 x.s, .int .u8 x.d, .int .u8 x.a0, .int .u8 x.a1, .int .u8 x.b0, .int .u8 x.b1, .int .u8 x.c0, .int .u8 x.c1] 48)).ownsMap Try.prog 48 unitElem bm nn D := hown.kept (World.grownBy_alloc w _ none) (by simp)
  have lN : w.heap.size < (w.alloc (.cells #[.int .u8 x.n, .int .u16 x.l, .int .u32 x.s, .int .u8 x.d, .int .u8 x.a0, .int .u8 x.a1, .int .u8 x.b0, .int .u8 x.b1, .int .u8 x.c0, .int .u8 x.c1] 48)).heap.size := by simp
  have lS : b < (w.alloc (.cells #[.int .u8 x.n, .int .u16 x.l, .int .u32 x.s, .int .u8 x.d, .int .u8 x.a0, .int .u8 x.a1, .int .u8 x.b0, .int .u8 x.b1, .int .u8 x.c0, .int .u8 x.c1] 48)).heap.size := Nat.lt_of_lt_of_le hl zb.size
  clear hown hc0 hc1
  have C := C0
  clear C0
  have B := Lib.hid zb
  clear zb
  generalize (w.alloc (.cells #[.int .u8 x.n, .int .u16 x.l, .int .u32 x.s, .int .u8 x.d, .int .u8 x.a0, .int .u8 x.a1, .int .u8 x.b0, .int .u8 x.b1, .int .u8 x.c0, .int .u8 x.c1] 48)) = W0 at *
  have k0 := C.c0
  have k1 := C.c1
  have k2 := C.c2
  have k3 := C.c3
  have k4 := C.c4
  have k5 := C.c5
  have k6 := C.c6
  have k7 := C.c7
  have k8 := C.c8
  have k9 := C.c9
  refine (rightID x.n x.l x.s x.d x.a0 x.a1 x.b0 x.b1 x.c0 x.c1 _ rx.d.1).mono ?_
  rintro e W1 ⟨rfl, h1⟩
  clear k0 k1 k2 k3 k4 k5 k6 k7 k8 k9
  rw [HX.out]
  have C' := C.kept h1 lN
  clear C
  have C := C'
  clear C'
  have f0' := (h1.cell (p := ⟨b, 0, none⟩) lS).trans f0
  have f1' := (h1.cell (p := ⟨b, 1, none⟩) lS).trans f1
  clear f0 f1
  have f0 := f0'
  have f1 := f1'
  clear f0' f1'
  have own' : W1.ownsMap Try.prog 48 unitElem bm nn D := by
    obtain ⟨es, clock, hbk, F, hs, hD⟩ := own1
    exact ⟨es, clock, (h1.block bm (Nat.lt_of_lt_of_le hbm B.out.size)).trans hbk, F, hs, hD⟩
  clear own1
  have own1 := own'
  clear own'
  have lN' := Nat.lt_of_lt_of_le lN h1.size
  have lS' := Nat.lt_of_lt_of_le lS h1.size
  clear lN lS
  have lN := lN'
  have lS := lS'
  clear lN' lS'
  have B' := Lib.hid (B.out.trans (h1.mono B.out.size))
  clear B h1
  have B := B'
  clear B'
  go_wp2
  go_ret
  exact ⟨rfl, B.out⟩

set_option maxRecDepth 100000 in
set_option maxHeartbeats 1000000 in
theorem addSetThere {H : Type} (b bm nn : Nat) (most : Int) (D : DataW H) (x : I10) (rx : x.Rng) (w : World) (hc0 : w.cell? ⟨b, 0, none⟩ = some (.int .i64 most)) (hc1 : w.cell? ⟨b, 1, none⟩ = some (.map (some bm))) (hown : w.ownsMap Try.prog 48 unitElem bm nn D) (hx : x.ok = true) (hh : Maps.has D x.lit = true) :
    Calls Try.prog 7 #[.pointer (some ⟨b, 0, none⟩), .agg #[.int .u8 x.n, .int .u16 x.l, .int .u32 x.s, .int .u8 x.d, .int .u8 x.a0, .int .u8 x.a1, .int .u8 x.b0, .int .u8 x.b1, .int .u8 x.c0, .int .u8 x.c1]] w fun e w' => e = .returned (.int .i64 4) ∧ Below w.heap.size w w' := by
  have HX : Hid (rI x.n x.l x.s x.d x.a0 x.a1 x.b0 x.b1 x.c0 x.c1 = true) := Lib.hid hx
  have HH := Lib.hid hh
  clear hx hh
  have hl := World.block_lt_of_cell? w _ hc1
  have hmn : ∀ (w : World) (r : Option Nat), (binOp .eql 66 (.map r) (.map none)).run Try.prog w = .ok (.bool r.isNone) w := fun w r => run_eql_map_nil w _ _ _ r Try.underlying66
  have HO := Lib.hid hown
  clear hown
  go_enter Try.func7, Try.ntmps7
  go_wp2_with fail
  clear hmn
  have hown := HO.out
  clear HO
  have zb : Below w.heap.size w (w.alloc (.cells #[.int .u8 x.n, .int .u16 x.l, .int .u32 x.s, .int .u8 x.d, .int .u8 x.a0, .int .u8 x.a1, .int .u8 x.b0, .int .u8 x.b1, .int .u8 x.c0, .int .u8 x.c1] 48)) := (Below.refl _ _).alloc (Nat.le_refl _) _
  have hbm : bm < w.heap.size := hown.lt
  have C0 := cells10_new w (.int .u8 x.n) (.int .u16 x.l) (.int .u32 x.s) (.int .u8 x.d) (.int .u8 x.a0) (.int .u8 x.a1) (.int .u8 x.b0) (.int .u8 x.b1) (.int .u8 x.c0) (.int .u8 x.c1) 48
  have f0 := (zb.cell (p := ⟨b, 0, none⟩) hl).trans hc0
  have f1 := (zb.cell (p := ⟨b, 1, none⟩) hl).trans hc1
  have own1 : (w.alloc (.cells #[.int .u8 x.n, .int .u16 x.l, .int .u32 x.s, .int .u8 x.d, .int .u8 x.a0, .int .u8 x.a1, .int .u8 x.b0, .int .u8 x.b1, .int .u8 x.c0, .int .u8 x.c1] 48)).ownsMap Try.prog 48 unitElem bm nn D := hown.kept (World.grownBy_alloc w _ none) (by simp)
  have lN : w.heap.size < (w.alloc (.cells #[.int .u8 x.n, .int .u16 x.l, .int .u32 x.s, .int .u8 x.d, .int .u8 x.a0, .int .u8 x.a1, .int .u8 x.b0, .int .u8 x.b1, .int .u8 x.c0, .int .u8 x.c1] 48)).heap.size := by simp
  have lS : b < (w.alloc (.cells #[.int .u8 x.n, .int .u16 x.l, .int .u32 x.s, .int .u8 x.d, .int .u8 x.a0, .int .u8 x.a1, .int .u8 x.b0, .int .u8 x.b1, .int .u8 x.c0, .int .u8 x.c1] 48)).heap.size := Nat.lt_of_lt_of_le hl zb.size
  clear hown hc0 hc1
  have C := C0
  clear C0
  have B := Lib.hid zb
  clear zb
  generalize (w.alloc (.cells #[.int .u8 x.n, .int .u16 x.l, .int .u32 x.s, .int .u8 x.d, .int .u8 x.a0, .int .u8 x.a1, .int .u8 x.b0, .int .u8 x.b1, .int .u8 x.c0, .int .u8 x.c1] 48)) = W0 at *
  have k0 := C.c0
  have k1 := C.c1
  have k2 := C.c2
  have k3 := C.c3
  have k4 := C.c4
  have k5 := C.c5
  have k6 := C.c6
  have k7 := C.c7
  have k8 := C.c8
  have k9 := C.c9
  refine (rightID x.n x.l x.s x.d x.a0 x.a1 x.b0 x.b1 x.c0 x.c1 _ rx.d.1).mono ?_
  rintro e W1 ⟨rfl, h1⟩
  clear k0 k1 k2 k3 k4 k5 k6 k7 k8 k9
  rw [HX.out]
  have C' := C.kept h1 lN
  clear C
  have C := C'
  clear C'
  have f0' := (h1.cell (p := ⟨b, 0, none⟩) lS).trans f0
  have f1' := (h1.cell (p := ⟨b, 1, none⟩) lS).trans f1
  clear f0 f1
  have f0 := f0'
  have f1 := f1'
  clear f0' f1'
  have own' : W1.ownsMap Try.prog 48 unitElem bm nn D := by
    obtain ⟨es, clock, hbk, F, hs, hD⟩ := own1
    exact ⟨es, clock, (h1.block bm (Nat.lt_of_lt_of_le hbm B.out.size)).trans hbk, F, hs, hD⟩
  clear own1
  have own1 := own'
  clear own'
  have lN' := Nat.lt_of_lt_of_le lN h1.size
  have lS' := Nat.lt_of_lt_of_le lS h1.size
  clear lN lS
  have lN := lN'
  have lS := lS'
  clear lN' lS'
  have B' := Lib.hid (B.out.trans (h1.mono B.out.size))
  clear B h1
  have B := B'
  clear B'
  have k0 := C.c0
  have k1 := C.c1
  have k2 := C.c2
  have k3 := C.c3
  have k4 := C.c4
  have k5 := C.c5
  have k6 := C.c6
  have k7 := C.c7
  have k8 := C.c8
  have k9 := C.c9
  go_wp2_with fail
  refine (hasSet b bm nn D x rx _ f1 own1).mono ?_
  rw [HH.out]
  rintro e W2 ⟨rfl, h2⟩
  clear k0 k1 k2 k3 k4 k5 k6 k7 k8 k9
  have C' := C.kept h2 lN
  clear C
  have C := C'
  clear C'
  have f0' := (h2.cell (p := ⟨b, 0, none⟩) lS).trans f0
  have f1' := (h2.cell (p := ⟨b, 1, none⟩) lS).trans f1
  clear f0 f1
  have f0 := f0'
  have f1 := f1'
  clear f0' f1'
  have own' : W2.ownsMap Try.prog 48 unitElem bm nn D := by
    obtain ⟨es, clock, hbk, F, hs, hD⟩ := own1
    exact ⟨es, clock, (h2.block bm (Nat.lt_of_lt_of_le hbm B.out.size)).trans hbk, F, hs, hD⟩
  clear own1
  have own1 := own'
  clear own'
  have lN' := Nat.lt_of_lt_of_le lN h2.size
  have lS' := Nat.lt_of_lt_of_le lS h2.size
  clear lN lS
  have lN := lN'
  have lS := lS'
  clear lN' lS'
  have B' := Lib.hid (B.out.trans (h2.mono B.out.size))
  clear B h2
  have B := B'
  clear B'
  go_wp2
  go_ret
  exact ⟨rfl, B.out⟩

set_option maxRecDepth 100000 in
set_option maxHeartbeats 1000000 in
theorem addSetFull {H : Type} (b bm nn : Nat) (most : Int) (D : DataW H) (x : I10) (rx : x.Rng) (w : World) (hc0 : w.cell? ⟨b, 0, none⟩ = some (.int .i64 most)) (hc1 : w.cell? ⟨b, 1, none⟩ = some (.map (some bm))) (hown : w.ownsMap Try.prog 48 unitElem bm nn D) (hx : x.ok = true) (hh : Maps.has D x.lit = false) (hm : most ≤ (Maps.size D : Nat)) :
    Calls Try.prog 7 #[.pointer (some ⟨b, 0, none⟩), .agg #[.int .u8 x.n, .int .u16 x.l, .int .u32 x.s, .int .u8 x.d, .int .u8 x.a0, .int .u8 x.a1, .int .u8 x.b0, .int .u8 x.b1, .int .u8 x.c0, .int .u8 x.c1]] w fun e w' => e = .returned (.int .i64 11) ∧ Below w.heap.size w w' := by
  have HX : Hid (rI x.n x.l x.s x.d x.a0 x.a1 x.b0 x.b1 x.c0 x.c1 = true) := Lib.hid hx
  have HH := Lib.hid hh
  have HM := Lib.hid hm
  clear hx hh hm
  have hl := World.block_lt_of_cell? w _ hc1
  have hmn : ∀ (w : World) (r : Option Nat), (binOp .eql 66 (.map r) (.map none)).run Try.prog w = .ok (.bool r.isNone) w := fun w r => run_eql_map_nil w _ _ _ r Try.underlying66
  have HO := Lib.hid hown
  clear hown
  go_enter Try.func7, Try.ntmps7
  go_wp2_with fail
  clear hmn
  have hown := HO.out
  clear HO
  have zb : Below w.heap.size w (w.alloc (.cells #[.int .u8 x.n, .int .u16 x.l, .int .u32 x.s, .int .u8 x.d, .int .u8 x.a0, .int .u8 x.a1, .int .u8 x.b0, .int .u8 x.b1, .int .u8 x.c0, .int .u8 x.c1] 48)) := (Below.refl _ _).alloc (Nat.le_refl _) _
  have hbm : bm < w.heap.size := hown.lt
  have C0 := cells10_new w (.int .u8 x.n) (.int .u16 x.l) (.int .u32 x.s) (.int .u8 x.d) (.int .u8 x.a0) (.int .u8 x.a1) (.int .u8 x.b0) (.int .u8 x.b1) (.int .u8 x.c0) (.int .u8 x.c1) 48
  have f0 := (zb.cell (p := ⟨b, 0, none⟩) hl).trans hc0
  have f1 := (zb.cell (p := ⟨b, 1, none⟩) hl).trans hc1
  have own1 : (w.alloc (.cells #[.int .u8 x.n, .int .u16 x.l, .int .u32 x.s, .int .u8 x.d, .int .u8 x.a0, .int .u8 x.a1, .int .u8 x.b0, .int .u8 x.b1, .int .u8 x.c0, .int .u8 x.c1] 48)).ownsMap Try.prog 48 unitElem bm nn D := hown.kept (World.grownBy_alloc w _ none) (by simp)
  have lN : w.heap.size < (w.alloc (.cells #[.int .u8 x.n, .int .u16 x.l, .int .u32 x.s, .int .u8 x.d, .int .u8 x.a0, .int .u8 x.a1, .int .u8 x.b0, .int .u8 x.b1, .int .u8 x.c0, .int .u8 x.c1] 48)).heap.size := by simp
  have lS : b < (w.alloc (.cells #[.int .u8 x.n, .int .u16 x.l, .int .u32 x.s, .int .u8 x.d, .int .u8 x.a0, .int .u8 x.a1, .int .u8 x.b0, .int .u8 x.b1, .int .u8 x.c0, .int .u8 x.c1] 48)).heap.size := Nat.lt_of_lt_of_le hl zb.size
  clear hown hc0 hc1
  have C := C0
  clear C0
  have B := Lib.hid zb
  clear zb
  generalize (w.alloc (.cells #[.int .u8 x.n, .int .u16 x.l, .int .u32 x.s, .int .u8 x.d, .int .u8 x.a0, .int .u8 x.a1, .int .u8 x.b0, .int .u8 x.b1, .int .u8 x.c0, .int .u8 x.c1] 48)) = W0 at *
  have k0 := C.c0
  have k1 := C.c1
  have k2 := C.c2
  have k3 := C.c3
  have k4 := C.c4
  have k5 := C.c5
  have k6 := C.c6
  have k7 := C.c7
  have k8 := C.c8
  have k9 := C.c9
  refine (rightID x.n x.l x.s x.d x.a0 x.a1 x.b0 x.b1 x.c0 x.c1 _ rx.d.1).mono ?_
  rintro e W1 ⟨rfl, h1⟩
  clear k0 k1 k2 k3 k4 k5 k6 k7 k8 k9
  rw [HX.out]
  have C' := C.kept h1 lN
  clear C
  have C := C'
  clear C'
  have f0' := (h1.cell (p := ⟨b, 0, none⟩) lS).trans f0
  have f1' := (h1.cell (p := ⟨b, 1, none⟩) lS).trans f1
  clear f0 f1
  have f0 := f0'
  have f1 := f1'
  clear f0' f1'
  have own' : W1.ownsMap Try.prog 48 unitElem bm nn D := by
    obtain ⟨es, clock, hbk, F, hs, hD⟩ := own1
    exact ⟨es, clock, (h1.block bm (Nat.lt_of_lt_of_le hbm B.out.size)).trans hbk, F, hs, hD⟩
  clear own1
  have own1 := own'
  clear own'
  have lN' := Nat.lt_of_lt_of_le lN h1.size
  have lS' := Nat.lt_of_lt_of_le lS h1.size
  clear lN lS
  have lN := lN'
  have lS := lS'
  clear lN' lS'
  have B' := Lib.hid (B.out.trans (h1.mono B.out.size))
  clear B h1
  have B := B'
  clear B'
  have k0 := C.c0
  have k1 := C.c1
  have k2 := C.c2
  have k3 := C.c3
  have k4 := C.c4
  have k5 := C.c5
  have k6 := C.c6
  have k7 := C.c7
  have k8 := C.c8
  have k9 := C.c9
  go_wp2_with fail
  refine (hasSet b bm nn D x rx _ f1 own1).mono ?_
  rw [HH.out]
  rintro e W2 ⟨rfl, h2⟩
  clear k0 k1 k2 k3 k4 k5 k6 k7 k8 k9
  have C' := C.kept h2 lN
  clear C
  have C := C'
  clear C'
  have f0' := (h2.cell (p := ⟨b, 0, none⟩) lS).trans f0
  have f1' := (h2.cell (p := ⟨b, 1, none⟩) lS).trans f1
  clear f0 f1
  have f0 := f0'
  have f1 := f1'
  clear f0' f1'
  have own' : W2.ownsMap Try.prog 48 unitElem bm nn D := by
    obtain ⟨es, clock, hbk, F, hs, hD⟩ := own1
    exact ⟨es, clock, (h2.block bm (Nat.lt_of_lt_of_le hbm B.out.size)).trans hbk, F, hs, hD⟩
  clear own1
  have own1 := own'
  clear own'
  have lN' := Nat.lt_of_lt_of_le lN h2.size
  have lS' := Nat.lt_of_lt_of_le lS h2.size
  clear lN lS
  have lN := lN'
  have lS := lS'
  clear lN' lS'
  have B' := Lib.hid (B.out.trans (h2.mono B.out.size))
  clear B h2
  have B := B'
  clear B'
  go_wp2_with fail
  have t0 := cell_regrown f0
  have LL : ∀ d os, Calls Try.prog 19 #[.pointer (some ⟨b, 0, none⟩)] (grow (redrawn W2 d) os) fun e w' => e = .returned (.int .i64 (Maps.size D)) ∧ Below (grow (redrawn W2 d) os).heap.size (grow (redrawn W2 d) os) w' := fun d os =>
    (lenSet b bm nn D _ (cell_regrown f1 d os) (by
      obtain ⟨es, clock, hbk, F, hs, hD⟩ := own1
      exact ⟨es, clock, ((below_regrown W2 d os).block bm (Nat.lt_of_lt_of_le hbm B.out.size)).trans hbk, F, hs, hD⟩)).mono fun _ _ ⟨he, hw⟩ => ⟨he, hw ▸ Below.refl _ _⟩
  have LH := Lib.hid LL
  clear LL
  generalize Maps.size D = sz at LH HM
  have hq := HM.out
  refine wp_region_quiet_below (by kernel_rfl) (by kernel_rfl) ?_
  repeat (go_big_quiet_step (first | (go_at_call 19; exact Calls.regrown_of (LH.out _ _))))
  refine wpQuiet_nil ?_
  rintro W ⟨p, rfl⟩
  have h3 := below_regrown W2 p.d p.os
  generalize grow (redrawn W2 p.d) p.os = W3 at *
  clear t0 LH
  have C' := C.kept h3 lN
  clear C
  have C := C'
  clear C'
  have f0' := (h3.cell (p := ⟨b, 0, none⟩) lS).trans f0
  have f1' := (h3.cell (p := ⟨b, 1, none⟩) lS).trans f1
  clear f0 f1
  have f0 := f0'
  have f1 := f1'
  clear f0' f1'
  have own' : W3.ownsMap Try.prog 48 unitElem bm nn D := by
    obtain ⟨es, clock, hbk, F, hs, hD⟩ := own1
    exact ⟨es, clock, (h3.block bm (Nat.lt_of_lt_of_le hbm B.out.size)).trans hbk, F, hs, hD⟩
  clear own1
  have own1 := own'
  clear own'
  have lN' := Nat.lt_of_lt_of_le lN h3.size
  have lS' := Nat.lt_of_lt_of_le lS h3.size
  clear lN lS
  have lN := lN'
  have lS := lS'
  clear lN' lS'
  have B' := Lib.hid (B.out.trans (h3.mono B.out.size))
  clear B h3
  have B := B'
  clear B'
  go_wp2
  go_ret
  exact ⟨rfl, B.out⟩

set_option maxRecDepth 100000 in
set_option maxHeartbeats 1000000 in
theorem addSetOk {H : Type} (b bm nn : Nat) (most : Int) (D : DataW H) (x : I10) (rx : x.Rng) (w : World) (hc0 : w.cell? ⟨b, 0, none⟩ = some (.int .i64 most)) (hc1 : w.cell? ⟨b, 1, none⟩ = some (.map (some bm))) (hown : w.ownsMap Try.prog 48 unitElem bm nn D) (hx : x.ok = true) (hh : Maps.has D x.lit = false) (hm : ¬ most ≤ (Maps.size D : Nat)) (hnn : nn < maxLen) :
    Calls Try.prog 7 #[.pointer (some ⟨b, 0, none⟩), .agg #[.int .u8 x.n, .int .u16 x.l, .int .u32 x.s, .int .u8 x.d, .int .u8 x.a0, .int .u8 x.a1, .int .u8 x.b0, .int .u8 x.b1, .int .u8 x.c0, .int .u8 x.c1]] w fun e w' => e = .returned (.int .i64 0) ∧ w'.ownsMap Try.prog 48 unitElem bm (nn + 1) (D.put x.lit (.agg [])) ∧ w.grownBy w' (some bm) := by
  have HX : Hid (rI x.n x.l x.s x.d x.a0 x.a1 x.b0 x.b1 x.c0 x.c1 = true) := Lib.hid hx
  have HH := Lib.hid hh
  have HM := Lib.hid hm
  have HN := Lib.hid hnn
  clear hx hh hm hnn
  have hl := World.block_lt_of_cell? w _ hc1
  have hmn : ∀ (w : World) (r : Option Nat), (binOp .eql 66 (.map r) (.map none)).run Try.prog w = .ok (.bool r.isNone) w := fun w r => run_eql_map_nil w _ _ _ r Try.underlying66
  have HO := Lib.hid hown
  clear hown
  go_enter Try.func7, Try.ntmps7
  go_wp2_with fail
  clear hmn
  have hown := HO.out
  clear HO
  have zb : Below w.heap.size w (w.alloc (.cells #[.int .u8 x.n, .int .u16 x.l, .int .u32 x.s, .int .u8 x.d, .int .u8 x.a0, .int .u8 x.a1, .int .u8 x.b0, .int .u8 x.b1, .int .u8 x.c0, .int .u8 x.c1] 48)) := (Below.refl _ _).alloc (Nat.le_refl _) _
  have hbm : bm < w.heap.size := hown.lt
  have C0 := cells10_new w (.int .u8 x.n) (.int .u16 x.l) (.int .u32 x.s) (.int .u8 x.d) (.int .u8 x.a0) (.int .u8 x.a1) (.int .u8 x.b0) (.int .u8 x.b1) (.int .u8 x.c0) (.int .u8 x.c1) 48
  have f0 := (zb.cell (p := ⟨b, 0, none⟩) hl).trans hc0
  have f1 := (zb.cell (p := ⟨b, 1, none⟩) hl).trans hc1
  have own1 : (w.alloc (.cells #[.int .u8 x.n, .int .u16 x.l, .int .u32 x.s, .int .u8 x.d, .int .u8 x.a0, .int .u8 x.a1, .int .u8 x.b0, .int .u8 x.b1, .int .u8 x.c0, .int .u8 x.c1] 48)).ownsMap Try.prog 48 unitElem bm nn D := hown.kept (World.grownBy_alloc w _ none) (by simp)
  have lN : w.heap.size < (w.alloc (.cells #[.int .u8 x.n, .int .u16 x.l, .int .u32 x.s, .int .u8 x.d, .int .u8 x.a0, .int .u8 x.a1, .int .u8 x.b0, .int .u8 x.b1, .int .u8 x.c0, .int .u8 x.c1] 48)).heap.size := by simp
  have lS : b < (w.alloc (.cells #[.int .u8 x.n, .int .u16 x.l, .int .u32 x.s, .int .u8 x.d, .int .u8 x.a0, .int .u8 x.a1, .int .u8 x.b0, .int .u8 x.b1, .int .u8 x.c0, .int .u8 x.c1] 48)).heap.size := Nat.lt_of_lt_of_le hl zb.size
  clear hown hc0 hc1
  have C := C0
  clear C0
  have B := Lib.hid zb
  clear zb
  generalize (w.alloc (.cells #[.int .u8 x.n, .int .u16 x.l, .int .u32 x.s, .int .u8 x.d, .int .u8 x.a0, .int .u8 x.a1, .int .u8 x.b0, .int .u8 x.b1, .int .u8 x.c0, .int .u8 x.c1] 48)) = W0 at *
  have k0 := C.c0
  have k1 := C.c1
  have k2 := C.c2
  have k3 := C.c3
  have k4 := C.c4
  have k5 := C.c5
  have k6 := C.c6
  have k7 := C.c7
  have k8 := C.c8
  have k9 := C.c9
  refine (rightID x.n x.l x.s x.d x.a0 x.a1 x.b0 x.b1 x.c0 x.c1 _ rx.d.1).mono ?_
  rintro e W1 ⟨rfl, h1⟩
  clear k0 k1 k2 k3 k4 k5 k6 k7 k8 k9
  rw [HX.out]
  have C' := C.kept h1 lN
  clear C
  have C := C'
  clear C'
  have f0' := (h1.cell (p := ⟨b, 0, none⟩) lS).trans f0
  have f1' := (h1.cell (p := ⟨b, 1, none⟩) lS).trans f1
  clear f0 f1
  have f0 := f0'
  have f1 := f1'
  clear f0' f1'
  have own' : W1.ownsMap Try.prog 48 unitElem bm nn D := by
    obtain ⟨es, clock, hbk, F, hs, hD⟩ := own1
    exact ⟨es, clock, (h1.block bm (Nat.lt_of_lt_of_le hbm B.out.size)).trans hbk, F, hs, hD⟩
  clear own1
  have own1 := own'
  clear own'
  have lN' := Nat.lt_of_lt_of_le lN h1.size
  have lS' := Nat.lt_of_lt_of_le lS h1.size
  clear lN lS
  have lN := lN'
  have lS := lS'
  clear lN' lS'
  have B' := Lib.hid (B.out.trans (h1.mono B.out.size))
  clear B h1
  have B := B'
  clear B'
  have k0 := C.c0
  have k1 := C.c1
  have k2 := C.c2
  have k3 := C.c3
  have k4 := C.c4
  have k5 := C.c5
  have k6 := C.c6
  have k7 := C.c7
  have k8 := C.c8
  have k9 := C.c9
  go_wp2_with fail
  refine (hasSet b bm nn D x rx _ f1 own1).mono ?_
  rw [HH.out]
  rintro e W2 ⟨rfl, h2⟩
  clear k0 k1 k2 k3 k4 k5 k6 k7 k8 k9
  have C' := C.kept h2 lN
  clear C
  have C := C'
  clear C'
  have f0' := (h2.cell (p := ⟨b, 0, none⟩) lS).trans f0
  have f1' := (h2.cell (p := ⟨b, 1, none⟩) lS).trans f1
  clear f0 f1
  have f0 := f0'
  have f1 := f1'
  clear f0' f1'
  have own' : W2.ownsMap Try.prog 48 unitElem bm nn D := by
    obtain ⟨es, clock, hbk, F, hs, hD⟩ := own1
    exact ⟨es, clock, (h2.block bm (Nat.lt_of_lt_of_le hbm B.out.size)).trans hbk, F, hs, hD⟩
  clear own1
  have own1 := own'
  clear own'
  have lN' := Nat.lt_of_lt_of_le lN h2.size
  have lS' := Nat.lt_of_lt_of_le lS h2.size
  clear lN lS
  have lN := lN'
  have lS := lS'
  clear lN' lS'
  have B' := Lib.hid (B.out.trans (h2.mono B.out.size))
  clear B h2
  have B := B'
  clear B'
  go_wp2_with fail
  have t0 := cell_regrown f0
  have LL : ∀ d os, Calls Try.prog 19 #[.pointer (some ⟨b, 0, none⟩)] (grow (redrawn W2 d) os) fun e w' => e = .returned (.int .i64 (Maps.size D)) ∧ Below (grow (redrawn W2 d) os).heap.size (grow (redrawn W2 d) os) w' := fun d os =>
    (lenSet b bm nn D _ (cell_regrown f1 d os) (by
      obtain ⟨es, clock, hbk, F, hs, hD⟩ := own1
      exact ⟨es, clock, ((below_regrown W2 d os).block bm (Nat.lt_of_lt_of_le hbm B.out.size)).trans hbk, F, hs, hD⟩)).mono fun _ _ ⟨he, hw⟩ => ⟨he, hw ▸ Below.refl _ _⟩
  have LH := Lib.hid LL
  clear LL
  generalize Maps.size D = sz at LH HM
  have hq := HM.out
  refine wp_region_quiet_below (by kernel_rfl) (by kernel_rfl) ?_
  repeat (go_big_quiet_step (first | (go_at_call 19; exact Calls.regrown_of (LH.out _ _))))
  refine wpQuiet_nil ?_
  rintro W ⟨p, rfl⟩
  have h3 := below_regrown W2 p.d p.os
  generalize grow (redrawn W2 p.d) p.os = W3 at *
  clear t0 LH
  have C' := C.kept h3 lN
  clear C
  have C := C'
  clear C'
  have f0' := (h3.cell (p := ⟨b, 0, none⟩) lS).trans f0
  have f1' := (h3.cell (p := ⟨b, 1, none⟩) lS).trans f1
  clear f0 f1
  have f0 := f0'
  have f1 := f1'
  clear f0' f1'
  have own' : W3.ownsMap Try.prog 48 unitElem bm nn D := by
    obtain ⟨es, clock, hbk, F, hs, hD⟩ := own1
    exact ⟨es, clock, (h3.block bm (Nat.lt_of_lt_of_le hbm B.out.size)).trans hbk, F, hs, hD⟩
  clear own1
  have own1 := own'
  clear own'
  have lN' := Nat.lt_of_lt_of_le lN h3.size
  have lS' := Nat.lt_of_lt_of_le lS h3.size
  clear lN lS
  have lN := lN'
  have lS := lS'
  clear lN' lS'
  have B' := Lib.hid (B.out.trans (h3.mono B.out.size))
  clear B h3
  have B := B'
  clear B'
  have k0 := C.c0
  have k1 := C.c1
  have k2 := C.c2
  have k3 := C.c3
  have k4 := C.c4
  have k5 := C.c5
  have k6 := C.c6
  have k7 := C.c7
  have k8 := C.c8
  have k9 := C.c9
  go_wp2_with fail
  have ownD : W3.drew.ownsMap Try.prog 48 unitElem bm nn D := own1
  obtain ⟨w2, hrun, hown2, hturn⟩ := ownD.store idKeyed Try.underlying66 HN.out (idKey x rx) unitElem_mk
  clear ownD own1 hq
  refine region_first (C := fun W => W = W3.drew) 6 (by kernel_rfl) (by kernel_rfl) rfl ?_
  simp only [List.take_succ_cons, List.take_zero, List.drop_succ_cons, List.drop_zero]
  repeat (go_big_quiet_step (fail))
  refine wpQuiet_nil ?_
  rintro W rfl
  clear f0 f1 k0 k1 k2 k3 k4 k5 k6 k7 k8 k9
  have T2 := Lib.hid hturn
  have O2 := Lib.hid hown2
  clear hturn hown2
  go_wp2
  go_ret
  have hg := T2.out.grown
  exact ⟨rfl, O2.out, ⟨hg.os.trans B.out.os, hg.tape.trans B.out.tape, hg.output.trans B.out.output, Nat.le_trans B.out.size hg.size, fun q hq hne => (hg.block q (Nat.lt_of_lt_of_le hq B.out.size) hne).trans (B.out.block q hq)⟩⟩

end Go.Proofs.Ytehkofeokccdeaa
