/-
  The document's Set: Find, by a contract. Condition: the list's identifiers lie in one block, each number fits its kind.
-/
import Derived.Test.YtehkofeokccdeaaOrd
import Derived.Test.YtehkofeokccdeaaLex
import Derived.Test.YtehkofeokccdeaaUnd
namespace Go.Proofs.Ytehkofeokccdeaa
set_option linter.unusedSimpArgs false
set_option linter.unusedVariables false
open Go.RowKit Go.Sort

/-- each number fits its kind. -/
structure I10.Rng (x : I10) : Prop where
  n : 0 ≤ x.n ∧ x.n ≤ 255
  l : 0 ≤ x.l ∧ x.l ≤ 65535
  s : 0 ≤ x.s ∧ x.s ≤ 4294967295
  d : 0 ≤ x.d ∧ x.d ≤ 255
  a0 : 0 ≤ x.a0 ∧ x.a0 ≤ 255
  a1 : 0 ≤ x.a1 ∧ x.a1 ≤ 255
  b0 : 0 ≤ x.b0 ∧ x.b0 ≤ 255
  b1 : 0 ≤ x.b1 ∧ x.b1 ≤ 255
  c0 : 0 ≤ x.c0 ∧ x.c0 ≤ 255
  c1 : 0 ≤ x.c1 ∧ x.c1 ≤ 255
/-- the identifier number i of a row. -/
structure RowAt (W : World) (g i : Nat) (x : I10) : Prop where
  c0 : W.cell? ⟨g, i * 10, none⟩ = some (.int .u8 x.n)
  c1 : W.cell? ⟨g, i * 10 + 1, none⟩ = some (.int .u16 x.l)
  c2 : W.cell? ⟨g, i * 10 + 2, none⟩ = some (.int .u32 x.s)
  c3 : W.cell? ⟨g, i * 10 + 3, none⟩ = some (.int .u8 x.d)
  c4 : W.cell? ⟨g, i * 10 + 4, none⟩ = some (.int .u8 x.a0)
  c5 : W.cell? ⟨g, i * 10 + 5, none⟩ = some (.int .u8 x.a1)
  c6 : W.cell? ⟨g, i * 10 + 6, none⟩ = some (.int .u8 x.b0)
  c7 : W.cell? ⟨g, i * 10 + 7, none⟩ = some (.int .u8 x.b1)
  c8 : W.cell? ⟨g, i * 10 + 8, none⟩ = some (.int .u8 x.c0)
  c9 : W.cell? ⟨g, i * 10 + 9, none⟩ = some (.int .u8 x.c1)

theorem RowAt.kept {W W' : World} {B g i : Nat} {x : I10} (h : RowAt W g i x) (hb : Below B W W') (hl : g < B) : RowAt W' g i x :=
  ⟨(hb.cell (p := ⟨g, i * 10, none⟩) hl).trans h.c0, (hb.cell (p := ⟨g, i * 10 + 1, none⟩) hl).trans h.c1, (hb.cell (p := ⟨g, i * 10 + 2, none⟩) hl).trans h.c2, (hb.cell (p := ⟨g, i * 10 + 3, none⟩) hl).trans h.c3, (hb.cell (p := ⟨g, i * 10 + 4, none⟩) hl).trans h.c4, (hb.cell (p := ⟨g, i * 10 + 5, none⟩) hl).trans h.c5, (hb.cell (p := ⟨g, i * 10 + 6, none⟩) hl).trans h.c6, (hb.cell (p := ⟨g, i * 10 + 7, none⟩) hl).trans h.c7, (hb.cell (p := ⟨g, i * 10 + 8, none⟩) hl).trans h.c8, (hb.cell (p := ⟨g, i * 10 + 9, none⟩) hl).trans h.c9⟩

/-- how many stand ahead of x. -/
def fnd (X : List I10) (x : I10) : Nat := (X.takeWhile fun y => decide (y.cmp x < 0)).length
theorem fnd_eq (x : I10) : ∀ (X : List I10) (j : Nat), j ≤ X.length → (∀ k y, k < j → X[k]? = some y → y.cmp x < 0) → (∀ y, X[j]? = some y → ¬ y.cmp x < 0) → fnd X x = j
  | [], j, hj, _, _ => by
    have : j = 0 := by simpa using hj
    subst this
    rfl
  | a :: X, 0, _, _, h => by
    have := h a (by simp)
    simp [fnd, this]
  | a :: X, j + 1, hj, hp, h => by
    have ha := hp 0 a (by omega) (by simp)
    have ih := fnd_eq x X j (by simpa using hj) (fun k y hk hy => hp (k + 1) y (by omega) (by simpa using hy)) (fun y hy => h y (by simpa using hy))
    simp only [fnd] at ih ⊢
    rw [List.takeWhile_cons, if_pos (by simpa using ha), List.length_cons, ih]
/-- does x stand there? -/
def isAt (X : List I10) (x : I10) : Bool :=
  match X[fnd X x]? with
  | some y => eqI y x
  | none => false

set_option maxRecDepth 100000 in
set_option maxHeartbeats 4000000 in
theorem find (X : List I10) (x : I10) (rb g cap : Nat) (w : World) (hcap : X.length ≤ cap) (hmax : cap ≤ maxLen) (h0 : w.cell? ⟨rb, 0, none⟩ = some (.slice (some ⟨g, 0, none⟩) X.length cap)) (hg : g < w.heap.size)
    (rows : ∀ i y, X[i]? = some y → RowAt w g i y) (rX : ∀ y ∈ X, y.Rng) (rx : x.Rng) :
    Calls Try.prog 12 #[.pointer (some ⟨rb, 0, none⟩), .agg #[.int .u8 x.n, .int .u16 x.l, .int .u32 x.s, .int .u8 x.d, .int .u8 x.a0, .int .u8 x.a1, .int .u8 x.b0, .int .u8 x.b1, .int .u8 x.c0, .int .u8 x.c1]] w fun e w' => e = .returned (.tuple #[.int .i64 (fnd X x), .bool (isAt X x)]) ∧ Below w.heap.size w w' := by
  unfold maxLen at hmax
  have hl := World.block_lt_of_cell? w _ h0
  go_enter Try.func12, Try.ntmps12
  go_wp2
  have z0 : Below w.heap.size w (w.alloc (.cells #[.int .u8 x.n, .int .u16 x.l, .int .u32 x.s, .int .u8 x.d, .int .u8 x.a0, .int .u8 x.a1, .int .u8 x.b0, .int .u8 x.b1, .int .u8 x.c0, .int .u8 x.c1] 38)) := (Below.refl _ _).alloc (Nat.le_refl _) _
  have C0 := cells10_new w (.int .u8 x.n) (.int .u16 x.l) (.int .u32 x.s) (.int .u8 x.d) (.int .u8 x.a0) (.int .u8 x.a1) (.int .u8 x.b0) (.int .u8 x.b1) (.int .u8 x.c0) (.int .u8 x.c1) 38
  go_loopw [6] (fun i wx => ∃ j : Nat, j ≤ X.length ∧ i = .int .i64 j ∧ Hid (Below w.heap.size w wx) ∧ Cells10 wx w.heap.size (.int .u8 x.n) (.int .u16 x.l) (.int .u32 x.s) (.int .u8 x.d) (.int .u8 x.a0) (.int .u8 x.a1) (.int .u8 x.b0) (.int .u8 x.b1) (.int .u8 x.c0) (.int .u8 x.c1) ∧ Hid (∀ k y, k < j → X[k]? = some y → y.cmp x < 0)) (fun i _ => X.length - (intOf i).toNat)
  case atStart => exact ⟨0, by omega, rfl, Lib.hid z0, C0, Lib.hid (fun k y hk => absurd hk (by omega))⟩
  case round =>
    clear C0 z0
    obtain ⟨j, hj, rfl, B, C, pre⟩ := hrel
    have hNx : w.heap.size < wr.heap.size := World.block_lt_of_cell? _ _ C.c0
    by_cases hlt : j < X.length
    · obtain ⟨y, hy⟩ : ∃ y, X[j]? = some y := ⟨X[j], List.getElem?_eq_getElem hlt⟩
      have R := (rows j y hy).kept B.out hg
      have ry := rX y (List.mem_of_getElem? hy)
      have hs := (B.out.cell (p := ⟨rb, 0, none⟩) hl).trans h0
      have t0 := cell_regrown hs
      have k0 := cell_regrown C.c0
      have k1 := cell_regrown C.c1
      have k2 := cell_regrown C.c2
      have k3 := cell_regrown C.c3
      have k4 := cell_regrown C.c4
      have k5 := cell_regrown C.c5
      have k6 := cell_regrown C.c6
      have k7 := cell_regrown C.c7
      have k8 := cell_regrown C.c8
      have k9 := cell_regrown C.c9
      have q0 := cell_regrown R.c0
      have q1 := cell_regrown R.c1
      have q2 := cell_regrown R.c2
      have q3 := cell_regrown R.c3
      have q4 := cell_regrown R.c4
      have q5 := cell_regrown R.c5
      have q6 := cell_regrown R.c6
      have q7 := cell_regrown R.c7
      have q8 := cell_regrown R.c8
      have q9 := cell_regrown R.c9
      have hd1 : decide ((j : Int) < (X.length : Int)) = true := by simp; omega
      have cc := fun W => refCompare y.n y.l y.s y.d y.a0 y.a1 y.b0 y.b1 y.c0 y.c1 x.n x.l x.s x.d x.a0 x.a1 x.b0 x.b1 x.c0 x.c1 W ry.n ry.l ry.s ry.d ry.a0 ry.a1 ry.b0 ry.b1 ry.c0 ry.c1 rx.n rx.l rx.s rx.d rx.a0 rx.a1 rx.b0 rx.b1 rx.c0 rx.c1
      have CC := Lib.hid cc
      have HX := Lib.hid hy
      clear cc hy h0 rows
      have hji : (j : Int) < (X.length : Int) := by omega
      have hcapi : (X.length : Int) ≤ (cap : Int) := by omega
      go_wp2_with fail
      refine wp_region_quiet_below (by kernel_rfl) (by kernel_rfl) ?_
      repeat (go_big_quiet_step (first | (go_at_call 24; exact Calls.regrown_of (CC.out _))))
      refine wpQuiet_nil ?_
      rintro W ⟨p, rfl⟩
      have y1 := below_regrown wr p.d p.os
      generalize grow (redrawn wr p.d) p.os = w2 at *
      clear t0 k0 q0 k1 q1 k2 q2 k3 q3 k4 q4 k5 q5 k6 q6 k7 q7 k8 q8 k9 q9
      have Y1 := Lib.hid y1
      clear y1
      by_cases hc : y.cmp x < 0
      · have hc' : ci y.n y.l y.s y.d y.a0 y.a1 y.b0 y.b1 y.c0 y.c1 x.n x.l x.s x.d x.a0 x.a1 x.b0 x.b1 x.c0 x.c1 < 0 := hc
        go_wp2
        go_roundw
        case rel => exact ⟨j + 1, by omega, by go_num, Lib.hid (B.out.trans (Y1.out.mono B.out.size)), C.kept Y1.out hNx, Lib.hid (fun k z (hk : k < j + 1) hz => by
          by_cases e : k = j
          · subst e
            rw [HX.out] at hz
            cases hz
            exact hc
          · exact pre.out k z (by omega) hz)⟩
        case measure => simp [intOf]; omega
      · have hc' : ¬ ci y.n y.l y.s y.d y.a0 y.a1 y.b0 y.b1 y.c0 y.c1 x.n x.l x.s x.d x.a0 x.a1 x.b0 x.b1 x.c0 x.c1 < 0 := hc
        have ef : fnd X x = j := fnd_eq x X j hj pre.out (fun z hz => by
          rw [HX.out] at hz
          cases hz
          exact hc)
        have ea : isAt X x = eqI y x := by
          unfold isAt
          rw [ef, HX.out]
        have EF := Lib.hid ef
        have EA := Lib.hid ea
        clear ef ea
        go_wp2_with fail
        have C2 := C.kept Y1.out hNx
        have R2 := R.kept (B := wr.heap.size) Y1.out (Nat.lt_of_lt_of_le hg B.out.size)
        have hs2 := (Y1.out.cell (p := ⟨rb, 0, none⟩) (Nat.lt_of_lt_of_le hl B.out.size)).trans hs
        have t0 := cell_regrown hs2
        have k0 := cell_regrown C2.c0
        have k1 := cell_regrown C2.c1
        have k2 := cell_regrown C2.c2
        have k3 := cell_regrown C2.c3
        have k4 := cell_regrown C2.c4
        have k5 := cell_regrown C2.c5
        have k6 := cell_regrown C2.c6
        have k7 := cell_regrown C2.c7
        have k8 := cell_regrown C2.c8
        have k9 := cell_regrown C2.c9
        have q0 := cell_regrown R2.c0
        have q1 := cell_regrown R2.c1
        have q2 := cell_regrown R2.c2
        have q3 := cell_regrown R2.c3
        have q4 := cell_regrown R2.c4
        have q5 := cell_regrown R2.c5
        have q6 := cell_regrown R2.c6
        have q7 := cell_regrown R2.c7
        have q8 := cell_regrown R2.c8
        have q9 := cell_regrown R2.c9
        clear hs hs2 C2 R2 C R hc hc'
        have hE := eqRefrun
        refine wp_region_quiet_below (by kernel_rfl) (by kernel_rfl) ?_
        repeat (go_big_quiet_step (fail))
        refine wpQuiet_nil ?_
        rintro W ⟨p, rfl⟩
        have y3 := below_regrown w2 p.d p.os
        generalize grow (redrawn w2 p.d) p.os = w3 at *
        clear t0 k0 q0 k1 q1 k2 q2 k3 q3 k4 q4 k5 q5 k6 q6 k7 q7 k8 q8 k9 q9 hE
        have Y3 := Lib.hid y3
        clear y3
        go_wp2
        go_ret2
        rw [EF.out, EA.out]
        exact ⟨by simp [eqI], B.out.trans ((Y1.out.trans (Y3.out.mono Y1.out.size)).mono B.out.size)⟩
    · obtain rfl : j = X.length := by omega
      have ef : fnd X x = X.length := fnd_eq x X _ (Nat.le_refl _) pre.out (fun z hz => by simp at hz)
      have ea : isAt X x = false := by
        unfold isAt
        rw [ef]
        simp
      have EF := Lib.hid ef
      have EA := Lib.hid ea
      clear ef ea rows
      have hs := (B.out.cell (p := ⟨rb, 0, none⟩) hl).trans h0
      have t0 := cell_regrown hs
      have hd1 : decide ((X.length : Int) < (X.length : Int)) = false := by simp
      go_wp2_with fail
      refine wp_region_quiet_below (by kernel_rfl) (by kernel_rfl) ?_
      repeat (go_big_quiet_step (fail))
      refine wpQuiet_nil ?_
      rintro W ⟨p, rfl⟩
      have y1 := below_regrown wr p.d p.os
      generalize grow (redrawn wr p.d) p.os = w2 at *
      clear t0
      have Y1 := Lib.hid y1
      clear y1
      go_wp2_with fail
      have hs2 := (Y1.out.cell (p := ⟨rb, 0, none⟩) (Nat.lt_of_lt_of_le hl B.out.size)).trans hs
      have t0 := cell_regrown hs2
      clear hs hs2 h0
      refine wp_region_quiet_below (by kernel_rfl) (by kernel_rfl) ?_
      repeat (go_big_quiet_step (fail))
      refine wpQuiet_nil ?_
      rintro W ⟨p, rfl⟩
      have y3 := below_regrown w2 p.d p.os
      generalize grow (redrawn w2 p.d) p.os = w3 at *
      clear t0
      have Y3 := Lib.hid y3
      clear y3
      go_wp2
      go_ret2
      rw [EF.out, EA.out]
      exact ⟨rfl, B.out.trans ((Y1.out.trans (Y3.out.mono Y1.out.size)).mono B.out.size)⟩

set_option maxRecDepth 100000 in
set_option maxHeartbeats 1000000 in
theorem findNil (x : I10) (rb : Nat) (w : World) (h0 : w.cell? ⟨rb, 0, none⟩ = some (.slice none 0 0)) :
    Calls Try.prog 12 #[.pointer (some ⟨rb, 0, none⟩), .agg #[.int .u8 x.n, .int .u16 x.l, .int .u32 x.s, .int .u8 x.d, .int .u8 x.a0, .int .u8 x.a1, .int .u8 x.b0, .int .u8 x.b1, .int .u8 x.c0, .int .u8 x.c1]] w fun e w' => e = .returned (.tuple #[.int .i64 0, .bool false]) ∧ Below w.heap.size w w' := by
  have hl := World.block_lt_of_cell? w _ h0
  go_enter Try.func12, Try.ntmps12
  go_wp2
  have z0 : Below w.heap.size w (w.alloc (.cells #[.int .u8 x.n, .int .u16 x.l, .int .u32 x.s, .int .u8 x.d, .int .u8 x.a0, .int .u8 x.a1, .int .u8 x.b0, .int .u8 x.b1, .int .u8 x.c0, .int .u8 x.c1] 38)) := (Below.refl _ _).alloc (Nat.le_refl _) _
  have hs := (z0.cell (p := ⟨rb, 0, none⟩) hl).trans h0
  generalize (w.alloc (.cells #[.int .u8 x.n, .int .u16 x.l, .int .u32 x.s, .int .u8 x.d, .int .u8 x.a0, .int .u8 x.a1, .int .u8 x.b0, .int .u8 x.b1, .int .u8 x.c0, .int .u8 x.c1] 38)) = W0 at *
  have t0 := cell_regrown hs
  refine wp_loop_rounds 1 ?_
  rw [rounds_succ]
  go_wp2_with fail
  refine wp_region_quiet_below (by kernel_rfl) (by kernel_rfl) ?_
  repeat (go_big_quiet_step (fail))
  refine wpQuiet_nil ?_
  rintro W ⟨p, rfl⟩
  have y1 := below_regrown W0 p.d p.os
  generalize grow (redrawn W0 p.d) p.os = w2 at *
  clear t0
  have hs2 := (y1.cell (p := ⟨rb, 0, none⟩) (Nat.lt_of_lt_of_le hl z0.size)).trans hs
  have t0 := cell_regrown hs2
  have B := Lib.hid (z0.trans (y1.mono z0.size))
  clear hs hs2 h0 z0 y1
  go_wp2_with fail
  refine wp_region_quiet_below (by kernel_rfl) (by kernel_rfl) ?_
  repeat (go_big_quiet_step (fail))
  refine wpQuiet_nil ?_
  rintro W ⟨p, rfl⟩
  have y3 := below_regrown w2 p.d p.os
  generalize grow (redrawn w2 p.d) p.os = w3 at *
  clear t0
  have Y3 := Lib.hid y3
  clear y3
  go_wp2
  go_ret2
  exact ⟨rfl, B.out.trans (Y3.out.mono B.out.size)⟩

end Go.Proofs.Ytehkofeokccdeaa
