/-
  The document's table of calls in memory: rows by their order, floors; find, by an exact answer. Condition: the table lies in memory, numbers fit their kinds.
-/
import Derived.Test.YtldbmmganicliaaFnd
import Derived.Test.YtldbmmganicliaaJrw
import Derived.Deep.MidRow
namespace Go.Proofs.Ytldbmmganicliaa
set_option linter.unusedSimpArgs false
set_option linter.unusedVariables false
open Go.RowKit Go.Maps Go.Sort

/-- a row; a floor; a table. -/
structure Rw where
  id : I10
  en : Bool
  code : Int
  val : ByteArray
structure Fw where
  n : Int
  l : Int
  f : Int
structure Tt where
  win : Int
  L : List Rw
  F : List Fw
def Rw.cs (x : Rw) : Array Value := #[.int .u8 x.id.n, .int .u16 x.id.l, .int .u32 x.id.s, .int .u8 x.id.d, .int .u8 x.id.a0, .int .u8 x.id.a1, .int .u8 x.id.b0, .int .u8 x.id.b1, .int .u8 x.id.c0, .int .u8 x.id.c1, .bool x.en, .int .u8 x.code, .string x.val]
def Fw.cs (x : Fw) : Array Value := #[.int .u8 x.n, .int .u16 x.l, .int .u32 x.f]
theorem Rw.sz : ∀ x : Rw, x.cs.size = 13 := fun _ => rfl
theorem Fw.sz : ∀ x : Fw, x.cs.size = 3 := fun _ => rfl
theorem Rw.one : ∀ x : Rw, ∀ u ∈ x.cs.toList, u.oneCell' = true := by
  intro x u hu
  simp only [Rw.cs, List.mem_cons, List.not_mem_nil, or_false] at hu
  rcases hu with rfl | rfl | rfl | rfl | rfl | rfl | rfl | rfl | rfl | rfl | rfl | rfl | rfl <;> rfl
theorem Fw.one : ∀ x : Fw, ∀ u ∈ x.cs.toList, u.oneCell' = true := by
  intro x u hu
  simp only [Fw.cs, List.mem_cons, List.not_mem_nil, or_false] at hu
  rcases hu with rfl | rfl | rfl <;> rfl
structure Fw.Rng (x : Fw) : Prop where
  n : 0 ≤ x.n ∧ x.n ≤ 255
  l : 0 ≤ x.l ∧ x.l ≤ 65535
  f : 0 ≤ x.f ∧ x.f ≤ 4294967295
theorem bltA {W : World} {b : Nat} {o : Obj} (h : W.heap[b]? = some o) : b < W.heap.size := (Array.getElem?_eq_some_iff.1 h).1
/-- how many rows stand ahead of x. -/
def fndT (L : List Rw) (x : I10) : Nat := (L.takeWhile fun y => decide (y.id.cmp x < 0)).length
theorem fndT_eq (x : I10) : ∀ (L : List Rw) (j : Nat), j ≤ L.length → (∀ k y, k < j → L[k]? = some y → y.id.cmp x < 0) → (∀ y, L[j]? = some y → ¬ y.id.cmp x < 0) → fndT L x = j
  | [], j, hj, _, _ => by
    have : j = 0 := by simpa using hj
    subst this
    rfl
  | a :: L, 0, _, _, h => by
    have := h a (by simp)
    simp [fndT, this]
  | a :: L, j + 1, hj, hp, h => by
    have ha := hp 0 a (by omega) (by simp)
    have ih := fndT_eq x L j (by simpa using hj) (fun k y hk hy => hp (k + 1) y (by omega) (by simpa using hy)) (fun y hy => h y (by simpa using hy))
    simp only [fndT] at ih ⊢
    rw [List.takeWhile_cons, if_pos (by simpa using ha), List.length_cons, ih]
/-- is x noted? -/
def isT (L : List Rw) (x : I10) : Bool :=
  match L[fndT L x]? with
  | some y => eqI y.id x
  | none => false
def floorF (F : List Fw) (n l : Int) : Int := match F.find? fun f => decide (f.n = n) && decide (f.l = l) with
  | some f => f.f
  | none => 0
def Tt.old (t : Tt) (x : I10) : Bool := decide (x.d = 0) && decide (x.s ≤ floorF t.F x.n x.l)
def Tt.ended (t : Tt) (x : I10) : Bool := match t.L[fndT t.L x]? with
  | some y => y.en
  | none => false
def Tt.state (t : Tt) (x : I10) : Int := if isT t.L x && t.ended x then 2 else if isT t.L x then 1 else if t.old x then 3 else if decide (x.d = 0) && decide (t.win < x.s - floorF t.F x.n x.l) then 4 else 0
/-- it lies in memory. -/
structure DT (W : World) (r : Nat) (t : Tt) (lv fv : Value) : Prop where
  blk : W.heap[r]? = some (.cells #[.int .i64 t.win, lv, fv] 71 (0, 0))
  rows : RowO W 93 13 lv t.L.length (flat Rw.cs t.L)
  flo : RowO W 99 3 fv t.F.length (flat Fw.cs t.F)
  rng : ∀ x ∈ t.L, x.id.Rng ∧ (0 ≤ x.code ∧ x.code ≤ 255)
  frng : ∀ x ∈ t.F, x.Rng
  few : t.L.length ≤ 1000 ∧ t.F.length ≤ 1000
  win : 1 ≤ t.win ∧ t.win ≤ 16
theorem DT.below {W W' : World} {r : Nat} {t : Tt} {lv fv : Value} (h : DT W r t lv fv) (hb : Below W.heap.size W W') : DT W' r t lv fv :=
  { h with
    blk := (hb.block r (Array.getElem?_eq_some_iff.1 h.blk).1).trans h.blk
    rows := h.rows.below hb
    flo := h.flo.below hb }
theorem Rw.at_ {W : World} {g o n c : Nat} {L : List Rw} (h : RowO W 93 13 (.slice (some ⟨g, o, none⟩) n c) n (flat Rw.cs L)) {i : Nat} {y : Rw} (hi : L[i]? = some y) : W.cell? ⟨g, o + i * 13, none⟩ = some (.int .u8 y.id.n) ∧ W.cell? ⟨g, o + i * 13 + 1, none⟩ = some (.int .u16 y.id.l) ∧ W.cell? ⟨g, o + i * 13 + 2, none⟩ = some (.int .u32 y.id.s) ∧ W.cell? ⟨g, o + i * 13 + 3, none⟩ = some (.int .u8 y.id.d) ∧ W.cell? ⟨g, o + i * 13 + 4, none⟩ = some (.int .u8 y.id.a0) ∧ W.cell? ⟨g, o + i * 13 + 5, none⟩ = some (.int .u8 y.id.a1) ∧ W.cell? ⟨g, o + i * 13 + 6, none⟩ = some (.int .u8 y.id.b0) ∧ W.cell? ⟨g, o + i * 13 + 7, none⟩ = some (.int .u8 y.id.b1) ∧ W.cell? ⟨g, o + i * 13 + 8, none⟩ = some (.int .u8 y.id.c0) ∧ W.cell? ⟨g, o + i * 13 + 9, none⟩ = some (.int .u8 y.id.c1) ∧ W.cell? ⟨g, o + i * 13 + 10, none⟩ = some (.bool y.en) ∧ W.cell? ⟨g, o + i * 13 + 11, none⟩ = some (.int .u8 y.code) ∧ W.cell? ⟨g, o + i * 13 + 12, none⟩ = some (.string y.val) := by
  refine ⟨?_, ?_, ?_, ?_, ?_, ?_, ?_, ?_, ?_, ?_, ?_, ?_, ?_⟩
  · have e := RowO.elem Rw.sz h hi (j := 0) (by decide)
    simpa [Rw.cs] using e
  · have e := RowO.elem Rw.sz h hi (j := 1) (by decide)
    simpa [Rw.cs] using e
  · have e := RowO.elem Rw.sz h hi (j := 2) (by decide)
    simpa [Rw.cs] using e
  · have e := RowO.elem Rw.sz h hi (j := 3) (by decide)
    simpa [Rw.cs] using e
  · have e := RowO.elem Rw.sz h hi (j := 4) (by decide)
    simpa [Rw.cs] using e
  · have e := RowO.elem Rw.sz h hi (j := 5) (by decide)
    simpa [Rw.cs] using e
  · have e := RowO.elem Rw.sz h hi (j := 6) (by decide)
    simpa [Rw.cs] using e
  · have e := RowO.elem Rw.sz h hi (j := 7) (by decide)
    simpa [Rw.cs] using e
  · have e := RowO.elem Rw.sz h hi (j := 8) (by decide)
    simpa [Rw.cs] using e
  · have e := RowO.elem Rw.sz h hi (j := 9) (by decide)
    simpa [Rw.cs] using e
  · have e := RowO.elem Rw.sz h hi (j := 10) (by decide)
    simpa [Rw.cs] using e
  · have e := RowO.elem Rw.sz h hi (j := 11) (by decide)
    simpa [Rw.cs] using e
  · have e := RowO.elem Rw.sz h hi (j := 12) (by decide)
    simpa [Rw.cs] using e
set_option maxRecDepth 100000 in
set_option maxHeartbeats 4000000 in
theorem findT (W : World) (r : Nat) (t : Tt) (lv fv : Value) (h : DT W r t lv fv) (x : I10) (rx : x.Rng) :
    Calls Try.prog 38 #[.pointer (some ⟨r, 0, none⟩), .agg #[.int .u8 x.n, .int .u16 x.l, .int .u32 x.s, .int .u8 x.d, .int .u8 x.a0, .int .u8 x.a1, .int .u8 x.b0, .int .u8 x.b1, .int .u8 x.c0, .int .u8 x.c1]] W fun e W' => e = .returned (.tuple #[.int .i64 (fndT t.L x), .bool (isT t.L x)]) ∧ Below W.heap.size W W' := by
  obtain ⟨W1, hW1⟩ : ∃ z, W.alloc (.cells #[.int .u8 x.n, .int .u16 x.l, .int .u32 x.s, .int .u8 x.d, .int .u8 x.a0, .int .u8 x.a1, .int .u8 x.b0, .int .u8 x.b1, .int .u8 x.c0, .int .u8 x.c1] 43) = z := ⟨_, rfl⟩
  have b1 : Below W.heap.size W W1 := by rw [← hW1]; exact (Below.refl _ _).alloc (Nat.le_refl _) _
  obtain ⟨kx, hkx⟩ : ∃ z, W.heap.size = z := ⟨_, rfl⟩
  have R1 : W1.heap[kx]? = some (.cells #[.int .u8 x.n, .int .u16 x.l, .int .u32 x.s, .int .u8 x.d, .int .u8 x.a0, .int .u8 x.a1, .int .u8 x.b0, .int .u8 x.b1, .int .u8 x.c0, .int .u8 x.c1] 43 (0, 0)) := by rw [← hW1, ← hkx]; exact heap_alloc_new _ _
  have H1 := Lib.hid (h.below b1)
  have HR1 := Lib.hid R1
  have B1 := Lib.hid b1
  have HW1 := Lib.hid hW1
  have HKX := Lib.hid hkx
  obtain ⟨A, c, rfl, hc, hm, hA⟩ := h.rows.slice
  obtain ⟨n, hn⟩ : ∃ z, t.L.length = z := ⟨_, rfl⟩
  have HN := Lib.hid hn
  have hn0 := h.few.1
  rw [hn] at hc hn0
  have HRX := Lib.hid rx
  have HA := Lib.hid hA
  have HC := Lib.hid (And.intro hc hm)
  have hrl : r < W.heap.size := bltA h.blk
  clear h b1 hW1 R1 hA rx
  rw [hkx]
  go_enter Try.func38, Try.ntmps38
  go_wp2_with (rw [HW1.out, HKX.out])
  go_loopw [6] (fun i wx => ∃ j : Nat, j ≤ n ∧ i = .int .i64 j ∧ Hid (Below kx W wx) ∧ Hid (DT wx r t (.slice A t.L.length c) fv) ∧ Hid (wx.heap[kx]? = some (.cells #[.int .u8 x.n, .int .u16 x.l, .int .u32 x.s, .int .u8 x.d, .int .u8 x.a0, .int .u8 x.a1, .int .u8 x.b0, .int .u8 x.b1, .int .u8 x.c0, .int .u8 x.c1] 43 (0, 0))) ∧ Hid (∀ k y, k < j → t.L[k]? = some y → y.id.cmp x < 0)) (fun i _ => n - (intOf i).toNat)
  case atStart =>
    rw [HW1.out]
    exact ⟨0, Nat.zero_le _, rfl, Lib.hid (HKX.out ▸ B1.out), H1, HR1, Lib.hid (fun k y hk => absurd hk (by omega))⟩
  case round =>
    clear H1 HR1 B1
    obtain ⟨j, hj, rfl, B, D, X, pre⟩ := hrel
    obtain ⟨w0, hw0⟩ : ∃ z : World, z = wr := ⟨_, rfl⟩
    subst hw0
    have SZ : Hid (kx ≤ w0.heap.size) := Lib.hid (by have := B.out.size; have := HKX.out; omega)
    have blk := D.out.blk
    rw [HN.out] at blk
    have t0 := cell_regrown (cell_of blk 1 (.slice A n c) rfl)
    have k0 := cell_regrown (cell_of X.out 0 (.int .u8 x.n) rfl)
    have k1 := cell_regrown (cell_of X.out 1 (.int .u16 x.l) rfl)
    have k2 := cell_regrown (cell_of X.out 2 (.int .u32 x.s) rfl)
    have k3 := cell_regrown (cell_of X.out 3 (.int .u8 x.d) rfl)
    have k4 := cell_regrown (cell_of X.out 4 (.int .u8 x.a0) rfl)
    have k5 := cell_regrown (cell_of X.out 5 (.int .u8 x.a1) rfl)
    have k6 := cell_regrown (cell_of X.out 6 (.int .u8 x.b0) rfl)
    have k7 := cell_regrown (cell_of X.out 7 (.int .u8 x.b1) rfl)
    have k8 := cell_regrown (cell_of X.out 8 (.int .u8 x.c0) rfl)
    have k9 := cell_regrown (cell_of X.out 9 (.int .u8 x.c1) rfl)
    have MORE : Hid (∀ dd os, Below kx W (grow (redrawn w0 dd) os) ∧ DT (grow (redrawn w0 dd) os) r t (.slice A t.L.length c) fv ∧ (grow (redrawn w0 dd) os).heap[kx]? = some (.cells #[.int .u8 x.n, .int .u16 x.l, .int .u32 x.s, .int .u8 x.d, .int .u8 x.a0, .int .u8 x.a1, .int .u8 x.b0, .int .u8 x.b1, .int .u8 x.c0, .int .u8 x.c1] 43 (0, 0))) := Lib.hid fun dd os => by
      have b := below_regrown w0 dd os
      exact ⟨B.out.trans (b.mono SZ.out), D.out.below b, (b.block kx (bltA X.out)).trans X.out⟩
    by_cases hlt : j < n
    · as_aux_lemma =>
      skip
      have hji : (j : Int) < (n : Int) := by omega
      have hd1 : decide ((j : Int) < (n : Int)) = true := by simp; omega
      have hcapi : (n : Int) ≤ (c : Int) := by omega
      have HJ := Lib.hid hlt
      have hjl : j < t.L.length := by rw [HN.out]; exact hlt
      obtain ⟨y, hy⟩ : ∃ y, t.L[j]? = some y := ⟨_, List.getElem?_eq_getElem hjl⟩
      obtain ⟨g, o, rfl⟩ : ∃ g o, A = some ⟨g, o, none⟩ := by
        rcases HA.out with ⟨_, h1⟩ | h1
        · omega
        · exact h1
      have rows := D.out.rows
      rw [HN.out] at rows
      obtain ⟨r0, r1, r2, r3, r4, r5, r6, r7, r8, r9, r10, r11, r12⟩ := Rw.at_ rows hy
      have q0 := cell_regrown r0
      have q1 := cell_regrown r1
      have q2 := cell_regrown r2
      have q3 := cell_regrown r3
      have q4 := cell_regrown r4
      have q5 := cell_regrown r5
      have q6 := cell_regrown r6
      have q7 := cell_regrown r7
      have q8 := cell_regrown r8
      have q9 := cell_regrown r9
      have ry := (D.out.rng y (List.mem_of_getElem? hy)).1
      have HY := Lib.hid hy
      have cc := fun w => refCompare y.id.n y.id.l y.id.s y.id.d y.id.a0 y.id.a1 y.id.b0 y.id.b1 y.id.c0 y.id.c1 x.n x.l x.s x.d x.a0 x.a1 x.b0 x.b1 x.c0 x.c1 w ry.n ry.l ry.s ry.d ry.a0 ry.a1 ry.b0 ry.b1 ry.c0 ry.c1 HRX.out.n HRX.out.l HRX.out.s HRX.out.d HRX.out.a0 HRX.out.a1 HRX.out.b0 HRX.out.b1 HRX.out.c0 HRX.out.c1
      have CC := Lib.hid cc
      clear cc hy r0 r1 r2 r3 r4 r5 r6 r7 r8 r9 r10 r11 r12 rows blk hj hlt hjl ry D B X SZ
      go_wp2_with fail
      try simp only [Act.put, List.setIfInBounds_toArray, List.set_cons_zero, List.set_cons_succ]
      refine wp_region_quiet_below (by kernel_rfl) (by kernel_rfl) ?_
      repeat (go_big_quiet_step (first | (go_at_call 55; exact Calls.regrown_of (CC.out _)) | fail))
      refine wpQuiet_nil ?_
      rintro W9 ⟨p9, rfl⟩
      have M9 := MORE.out p9.d p9.os
      generalize grow (redrawn w0 p9.d) p9.os = w2 at *
      obtain ⟨b9, d9, x9⟩ := M9
      have B9 := Lib.hid b9
      have D9 := Lib.hid d9
      have X9 := Lib.hid x9
      clear t0 k0 q0 k1 q1 k2 q2 k3 q3 k4 q4 k5 q5 k6 q6 k7 q7 k8 q8 k9 q9 b9 d9 x9 MORE
      by_cases hcm : y.id.cmp x < 0
      · have hc' : ci y.id.n y.id.l y.id.s y.id.d y.id.a0 y.id.a1 y.id.b0 y.id.b1 y.id.c0 y.id.c1 x.n x.l x.s x.d x.a0 x.a1 x.b0 x.b1 x.c0 x.c1 < 0 := hcm
        have HCM := Lib.hid hcm
        go_wp2_with fail
        go_roundw
        case rel => exact ⟨j + 1, by have := HJ.out; omega, by go_num, B9, D9, X9, Lib.hid (fun k z (hk : k < j + 1) hz => by
          by_cases e : k = j
          · subst e
            rw [HY.out] at hz
            cases hz
            exact HCM.out
          · exact pre.out k z (by omega) hz)⟩
        case measure => simp [intOf]; omega
      · have hc' : ¬ ci y.id.n y.id.l y.id.s y.id.d y.id.a0 y.id.a1 y.id.b0 y.id.b1 y.id.c0 y.id.c1 x.n x.l x.s x.d x.a0 x.a1 x.b0 x.b1 x.c0 x.c1 < 0 := hcm
        have ef : fndT t.L x = j := fndT_eq x t.L j (by rw [HN.out]; exact Nat.le_of_lt HJ.out) pre.out (fun z hz => by
          rw [HY.out] at hz
          cases hz
          exact hcm)
        have ea : isT t.L x = eqI y.id x := by
          unfold isT
          rw [ef, HY.out]
        have EF := Lib.hid ef
        have EA := Lib.hid ea
        clear ef ea hcm
        have blk := D9.out.blk
        rw [HN.out] at blk
        have t0 := cell_regrown (cell_of blk 1 (.slice (some ⟨g, o, none⟩) n c) rfl)
        have rows := D9.out.rows
        rw [HN.out] at rows
        obtain ⟨r0, r1, r2, r3, r4, r5, r6, r7, r8, r9, r10, r11, r12⟩ := Rw.at_ rows HY.out
        have q0 := cell_regrown r0
        have q1 := cell_regrown r1
        have q2 := cell_regrown r2
        have q3 := cell_regrown r3
        have q4 := cell_regrown r4
        have q5 := cell_regrown r5
        have q6 := cell_regrown r6
        have q7 := cell_regrown r7
        have q8 := cell_regrown r8
        have q9 := cell_regrown r9
        have k0 := cell_regrown (cell_of X9.out 0 (.int .u8 x.n) rfl)
        have k1 := cell_regrown (cell_of X9.out 1 (.int .u16 x.l) rfl)
        have k2 := cell_regrown (cell_of X9.out 2 (.int .u32 x.s) rfl)
        have k3 := cell_regrown (cell_of X9.out 3 (.int .u8 x.d) rfl)
        have k4 := cell_regrown (cell_of X9.out 4 (.int .u8 x.a0) rfl)
        have k5 := cell_regrown (cell_of X9.out 5 (.int .u8 x.a1) rfl)
        have k6 := cell_regrown (cell_of X9.out 6 (.int .u8 x.b0) rfl)
        have k7 := cell_regrown (cell_of X9.out 7 (.int .u8 x.b1) rfl)
        have k8 := cell_regrown (cell_of X9.out 8 (.int .u8 x.c0) rfl)
        have k9 := cell_regrown (cell_of X9.out 9 (.int .u8 x.c1) rfl)
        have S9 : Hid (kx ≤ w2.heap.size) := Lib.hid (by have := B9.out.size; have := HKX.out; omega)
        clear r0 r1 r2 r3 r4 r5 r6 r7 r8 r9 r10 r11 r12 rows blk
        go_wp2_with fail
        have hE := eqRefrun
        refine wp_region_quiet_below (by kernel_rfl) (by kernel_rfl) ?_
        repeat (go_big_quiet_step (fail))
        refine wpQuiet_nil ?_
        rintro W9 ⟨p, rfl⟩
        have Y3 := Lib.hid (B9.out.trans ((below_regrown w2 p.d p.os).mono S9.out))
        generalize grow (redrawn w2 p.d) p.os = w3 at *
        clear t0 k0 q0 k1 q1 k2 q2 k3 q3 k4 q4 k5 q5 k6 q6 k7 q7 k8 q8 k9 q9 hE
        go_wp2_with fail
        go_ret2
        rw [EF.out, EA.out]
        exact ⟨by simp [eqI], Y3.out⟩
    · as_aux_lemma =>
      skip
      obtain rfl : j = n := by omega
      have hd1 : decide ((j : Int) < (j : Int)) = false := by simp
      have ef : fndT t.L x = j := fndT_eq x t.L _ (by rw [HN.out]; exact Nat.le_refl _) pre.out (fun z hz => by
        have := (List.getElem?_eq_some_iff.1 hz).1
        rw [HN.out] at this
        exact absurd this (Nat.lt_irrefl _))
      have ea : isT t.L x = false := by
        unfold isT
        rw [ef, List.getElem?_eq_none (by rw [HN.out]; exact Nat.le_refl _)]
      have EF := Lib.hid ef
      have EA := Lib.hid ea
      clear ef ea D B X SZ blk hj hlt k0 k1 k2 k3 k4 k5 k6 k7 k8 k9
      go_wp2_with fail
      refine wp_region_quiet_below (by kernel_rfl) (by kernel_rfl) ?_
      repeat (go_big_quiet_step (fail))
      refine wpQuiet_nil ?_
      rintro W9 ⟨p9, rfl⟩
      have M9 := MORE.out p9.d p9.os
      generalize grow (redrawn w0 p9.d) p9.os = w2 at *
      obtain ⟨b9, d9, x9⟩ := M9
      have B9 := Lib.hid b9
      have blk := d9.blk
      rw [HN.out] at blk
      clear t0
      have t0 := cell_regrown (cell_of blk 1 (.slice A j c) rfl)
      have S9 : Hid (kx ≤ w2.heap.size) := Lib.hid (by have := B9.out.size; have := HKX.out; omega)
      clear b9 d9 x9 MORE blk
      go_wp2_with fail
      refine wp_region_quiet_below (by kernel_rfl) (by kernel_rfl) ?_
      repeat (go_big_quiet_step (fail))
      refine wpQuiet_nil ?_
      rintro W9 ⟨p, rfl⟩
      have Y3 := Lib.hid (B9.out.trans ((below_regrown w2 p.d p.os).mono S9.out))
      generalize grow (redrawn w2 p.d) p.os = w3 at *
      clear t0
      go_wp2_with fail
      go_ret2
      rw [EF.out, EA.out]
      exact ⟨rfl, Y3.out⟩

end Go.Proofs.Ytldbmmganicliaa
