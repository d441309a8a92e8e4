/-
  A Set with a map: Remove, by contracts. Condition: each number fits its kind.
-/
import Derived.Test.YtehkofeokccdeaaSet
namespace Go.Proofs.Ytehkofeokccdeaa
set_option linter.unusedSimpArgs false
set_option linter.unusedVariables false
open Go.RowKit Go.Maps

set_option maxRecDepth 100000 in
set_option maxHeartbeats 1000000 in
theorem remSetNo {H : Type} (b bm nn : Nat) (D : DataW H) (x : I10) (rx : x.Rng) (w : World) (hc1 : w.cell? ⟨b, 1, none⟩ = some (.map (some bm))) (hown : w.ownsMap Try.prog 48 unitElem bm nn D) (hr : Maps.has D x.lit = false) :
    Calls Try.prog 10 #[.pointer (some ⟨b, 0, none⟩), .agg #[.int .u8 x.n, .int .u16 x.l, .int .u32 x.s, .int .u8 x.d, .int .u8 x.a0, .int .u8 x.a1, .int .u8 x.b0, .int .u8 x.b1, .int .u8 x.c0, .int .u8 x.c1]] w fun e w' => e = .returned (.bool false) ∧ Below w.heap.size w w' := by
  have hl := World.block_lt_of_cell? w _ hc1
  have zb : Below w.heap.size w (w.alloc (.cells #[.int .u8 x.n, .int .u16 x.l, .int .u32 x.s, .int .u8 x.d, .int .u8 x.a0, .int .u8 x.a1, .int .u8 x.b0, .int .u8 x.b1, .int .u8 x.c0, .int .u8 x.c1] 48)) := (Below.refl _ _).alloc (Nat.le_refl _) _
  have e1 := (zb.cell (p := ⟨b, 1, none⟩) hl).trans hc1
  have hown1 : (w.alloc (.cells #[.int .u8 x.n, .int .u16 x.l, .int .u32 x.s, .int .u8 x.d, .int .u8 x.a0, .int .u8 x.a1, .int .u8 x.b0, .int .u8 x.b1, .int .u8 x.c0, .int .u8 x.c1] 48)).ownsMap Try.prog 48 unitElem bm nn D := hown.kept (World.grownBy_alloc w _ none) (by simp)
  have HE := hasSet b bm nn D x rx (w.alloc (.cells #[.int .u8 x.n, .int .u16 x.l, .int .u32 x.s, .int .u8 x.d, .int .u8 x.a0, .int .u8 x.a1, .int .u8 x.b0, .int .u8 x.b1, .int .u8 x.c0, .int .u8 x.c1] 48)) e1 hown1
  rw [hr] at HE
  have HH := Lib.hid HE
  clear HE
  clear zb e1 hown1 hown
  go_enter Try.func10, Try.ntmps10
  go_wp2_with fail
  refine HH.out.mono ?_
  rintro e w1 ⟨rfl, hb⟩
  go_wp2
  go_ret
  exact ⟨rfl, ((Below.refl _ _).alloc (Nat.le_refl _) _).trans (hb.mono (by simp))⟩

set_option maxRecDepth 100000 in
set_option maxHeartbeats 1000000 in
theorem remSetYes {H : Type} (b bm nn : Nat) (D : DataW H) (x : I10) (rx : x.Rng) (w : World) (hc1 : w.cell? ⟨b, 1, none⟩ = some (.map (some bm))) (hown : w.ownsMap Try.prog 48 unitElem bm nn D) (hr : Maps.has D x.lit = true) :
    Calls Try.prog 10 #[.pointer (some ⟨b, 0, none⟩), .agg #[.int .u8 x.n, .int .u16 x.l, .int .u32 x.s, .int .u8 x.d, .int .u8 x.a0, .int .u8 x.a1, .int .u8 x.b0, .int .u8 x.b1, .int .u8 x.c0, .int .u8 x.c1]] w fun e w' => e = .returned (.bool true) ∧ w'.ownsMap Try.prog 48 unitElem bm nn (D.del x.lit) ∧ w.grownBy w' (some bm) := by
  have hl := World.block_lt_of_cell? w _ hc1
  have zb : Below w.heap.size w (w.alloc (.cells #[.int .u8 x.n, .int .u16 x.l, .int .u32 x.s, .int .u8 x.d, .int .u8 x.a0, .int .u8 x.a1, .int .u8 x.b0, .int .u8 x.b1, .int .u8 x.c0, .int .u8 x.c1] 48)) := (Below.refl _ _).alloc (Nat.le_refl _) _
  have e1 := (zb.cell (p := ⟨b, 1, none⟩) hl).trans hc1
  have hown1 : (w.alloc (.cells #[.int .u8 x.n, .int .u16 x.l, .int .u32 x.s, .int .u8 x.d, .int .u8 x.a0, .int .u8 x.a1, .int .u8 x.b0, .int .u8 x.b1, .int .u8 x.c0, .int .u8 x.c1] 48)).ownsMap Try.prog 48 unitElem bm nn D := hown.kept (World.grownBy_alloc w _ none) (by simp)
  have HE := hasSet b bm nn D x rx (w.alloc (.cells #[.int .u8 x.n, .int .u16 x.l, .int .u32 x.s, .int .u8 x.d, .int .u8 x.a0, .int .u8 x.a1, .int .u8 x.b0, .int .u8 x.b1, .int .u8 x.c0, .int .u8 x.c1] 48)) e1 hown1
  rw [hr] at HE
  have HH := Lib.hid HE
  clear HE
  have C0 := cells10_new w (.int .u8 x.n) (.int .u16 x.l) (.int .u32 x.s) (.int .u8 x.d) (.int .u8 x.a0) (.int .u8 x.a1) (.int .u8 x.b0) (.int .u8 x.b1) (.int .u8 x.c0) (.int .u8 x.c1) 48
  go_enter Try.func10, Try.ntmps10
  go_wp2_with fail
  refine HH.out.mono ?_
  rintro e w1 ⟨rfl, hb⟩
  have B1 := zb.trans (hb.mono (by simp))
  have hsz : w.heap.size < w1.heap.size := by have := hb.size; simp at this; omega
  have hbm : bm < w.heap.size := hown.lt
  have own1 : w1.drew.ownsMap Try.prog 48 unitElem bm nn D := by
    obtain ⟨es, clock, h1, F, hs, hD⟩ := hown
    exact ⟨es, clock, (B1.block bm hbm).trans h1, F, hs, hD⟩
  obtain ⟨w2, hrun, hown2, hturn⟩ := own1.drop idKeyed Try.underlying66 (idKey x rx) 0
  have C1 := (C0.kept (hb.mono (Nat.le_refl _)) (by simp))
  have f1 := (B1.cell (p := ⟨b, 1, none⟩) hl).trans hc1
  have k0 := C1.c0
  have k1 := C1.c1
  have k2 := C1.c2
  have k3 := C1.c3
  have k4 := C1.c4
  have k5 := C1.c5
  have k6 := C1.c6
  have k7 := C1.c7
  have k8 := C1.c8
  have k9 := C1.c9
  go_wp2_with fail
  clear C0 C1 own1 hown hown1 hb
  refine region_first (C := fun W => W = w1.drew) 5 (by kernel_rfl) (by kernel_rfl) rfl ?_
  simp only [List.take_succ_cons, List.take_zero, List.drop_succ_cons, List.drop_zero]
  repeat (go_big_quiet_step (fail))
  refine wpQuiet_nil ?_
  rintro W rfl
  clear f1 k0 k1 k2 k3 k4 k5 k6 k7 k8 k9
  have T2 := Lib.hid hturn
  have O2 := Lib.hid hown2
  have Z1 := Lib.hid B1
  clear hturn hown2 B1
  go_wp2
  go_ret
  have hg := T2.out.grown
  exact ⟨rfl, O2.out, ⟨hg.os.trans Z1.out.os, hg.tape.trans Z1.out.tape, hg.output.trans Z1.out.output, Nat.le_trans Z1.out.size hg.size, fun q hq hne => (hg.block q (Nat.lt_of_lt_of_le hq Z1.out.size) hne).trans (Z1.out.block q hq)⟩⟩

end Go.Proofs.Ytehkofeokccdeaa
