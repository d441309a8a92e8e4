/-
  The law AmoNil walked: it answers true. Condition: the act's numbers fit their kinds.
-/
import Derived.Test.YtmdnnjffjhocfaaAmi
import Derived.Great.BuildSlice
import Derived.LoopN
namespace Go.Proofs.Ytmdnnjffjhocfaa
set_option linter.unusedSimpArgs false
set_option linter.unusedVariables false
open Go.RowKit Go.Maps Go.Sort

theorem actI : (Try.prog.info? 47).map (fun i => (i.zero, i.size, i.bytes)) = some (some (.agg #[.int .i64 0, .int .u8 0, .int .u16 0, .int .u32 0, .int .u8 0, .int .u8 0, .int .u8 0, .int .u8 0, .int .u8 0, .int .u8 0, .int .u8 0, .int .u8 0, .string ⟨#[]⟩, .int .u32 0]), 14, 56) := by kernel_rfl
theorem fillA (a : Ac) : Instr.fill (fun i => some (i * 14, 14)) ((Array.range (1 * 14)).map ((Value.agg #[.int .i64 0, .int .u8 0, .int .u16 0, .int .u32 0, .int .u8 0, .int .u8 0, .int .u8 0, .int .u8 0, .int .u8 0, .int .u8 0, .int .u8 0, .int .u8 0, .string ⟨#[]⟩, .int .u32 0]).cells[· % (Value.agg #[.int .i64 0, .int .u8 0, .int .u16 0, .int .u32 0, .int .u8 0, .int .u8 0, .int .u8 0, .int .u8 0, .int .u8 0, .int .u8 0, .int .u8 0, .int .u8 0, .string ⟨#[]⟩, .int .u32 0]).cells.size]!)) [(0, Value.agg #[.int .i64 a.kd, .int .u8 a.x.n, .int .u16 a.x.l, .int .u32 a.x.s, .int .u8 a.x.d, .int .u8 a.x.a0, .int .u8 a.x.a1, .int .u8 a.x.b0, .int .u8 a.x.b1, .int .u8 a.x.c0, .int .u8 a.x.c1, .int .u8 a.code, .string a.val, .int .u32 a.n])] = some #[.int .i64 a.kd, .int .u8 a.x.n, .int .u16 a.x.l, .int .u32 a.x.s, .int .u8 a.x.d, .int .u8 a.x.a0, .int .u8 a.x.a1, .int .u8 a.x.b0, .int .u8 a.x.b1, .int .u8 a.x.c0, .int .u8 a.x.c1, .int .u8 a.code, .string a.val, .int .u32 a.n] := by
  obtain ⟨kd, x, code, val, n⟩ := a
  kernel_rfl
theorem wpList_bsA {ops : Array Oper} {rest : List Oper} {o : Oper} {a : Act} {w : World} {Q : Exit → Act → World → Prop} (hg : o.guard = none) (x : Operand) (ho : o.op = .buildSlice 22 1 #[(0, x)]) (e : Ac) (hx : a.eval x = .agg #[.int .i64 e.kd, .int .u8 e.x.n, .int .u16 e.x.l, .int .u32 e.x.s, .int .u8 e.x.d, .int .u8 e.x.a0, .int .u8 e.x.a1, .int .u8 e.x.b0, .int .u8 e.x.b1, .int .u8 e.x.c0, .int .u8 e.x.c1, .int .u8 e.code, .string e.val, .int .u32 e.n])
    (h : wpList Try.prog ops Q rest (a.put o.dst (.slice (some ⟨w.heap.size, 0, none⟩) 1 1)) (w.alloc (.cells #[.int .i64 e.kd, .int .u8 e.x.n, .int .u16 e.x.l, .int .u32 e.x.s, .int .u8 e.x.d, .int .u8 e.x.a0, .int .u8 e.x.a1, .int .u8 e.x.b0, .int .u8 e.x.b1, .int .u8 e.x.c0, .int .u8 e.x.c1, .int .u8 e.code, .string e.val, .int .u32 e.n] 47))) : wpList Try.prog ops Q (o :: rest) a w := by
  obtain ⟨i0, hi0, hz0, hz1, hz2⟩ := info_parts actI
  refine wpList_buildSlice hg 22 47 1 #[(0, x)] ho #[.int .i64 e.kd, .int .u8 e.x.n, .int .u16 e.x.l, .int .u32 e.x.s, .int .u8 e.x.d, .int .u8 e.x.a0, .int .u8 e.x.a1, .int .u8 e.x.b0, .int .u8 e.x.b1, .int .u8 e.x.c0, .int .u8 e.x.c1, .int .u8 e.code, .string e.val, .int .u32 e.n] i0 _ Try.underlying22 hi0 hz0 (by rw [hz1]; decide) (by rw [hz1]; decide) ?_ h
  have := fillA e
  rw [hz1]
  simpa [hx] using this
set_option maxRecDepth 100000 in
set_option maxHeartbeats 4000000 in
theorem walkNA (a : Ac) (ha : a.ok) (W : World) :
    Calls Try.prog 7 #[.agg #[.int .i64 a.kd, .int .u8 a.x.n, .int .u16 a.x.l, .int .u32 a.x.s, .int .u8 a.x.d, .int .u8 a.x.a0, .int .u8 a.x.a1, .int .u8 a.x.b0, .int .u8 a.x.b1, .int .u8 a.x.c0, .int .u8 a.x.c1, .int .u8 a.code, .string a.val, .int .u32 a.n]] W fun e W' => e = .returned (.bool true) ∧ Below W.heap.size W W' := by
  obtain ⟨kx, hkx⟩ : ∃ z, W.heap.size = z := ⟨_, rfl⟩
  obtain ⟨w1, hw1⟩ : ∃ z, W.alloc (.cells #[.int .i64 a.kd, .int .u8 a.x.n, .int .u16 a.x.l, .int .u32 a.x.s, .int .u8 a.x.d, .int .u8 a.x.a0, .int .u8 a.x.a1, .int .u8 a.x.b0, .int .u8 a.x.b1, .int .u8 a.x.c0, .int .u8 a.x.c1, .int .u8 a.code, .string a.val, .int .u32 a.n] 47) = z := ⟨_, rfl⟩
  have b1 : Below W.heap.size W w1 := by rw [← hw1]; exact (Below.refl _ _).alloc (Nat.le_refl _) _
  have r1 : w1.heap[kx]? = some (.cells #[.int .i64 a.kd, .int .u8 a.x.n, .int .u16 a.x.l, .int .u32 a.x.s, .int .u8 a.x.d, .int .u8 a.x.a0, .int .u8 a.x.a1, .int .u8 a.x.b0, .int .u8 a.x.b1, .int .u8 a.x.c0, .int .u8 a.x.c1, .int .u8 a.code, .string a.val, .int .u32 a.n] 47 (0, 0)) := by rw [← hw1, ← hkx]; exact heap_alloc_new _ _
  have s1 : w1.heap.size = kx + 1 := by rw [← hw1, World.size_alloc, hkx]
  obtain ⟨w2, hw2⟩ : ∃ z, w1.alloc (.cells #[.int .i64 a.kd, .int .u8 a.x.n, .int .u16 a.x.l, .int .u32 a.x.s, .int .u8 a.x.d, .int .u8 a.x.a0, .int .u8 a.x.a1, .int .u8 a.x.b0, .int .u8 a.x.b1, .int .u8 a.x.c0, .int .u8 a.x.c1, .int .u8 a.code, .string a.val, .int .u32 a.n] 47) = z := ⟨_, rfl⟩
  have b2 : Below w1.heap.size w1 w2 := by rw [← hw2]; exact (Below.refl _ _).alloc (Nat.le_refl _) _
  have r2 : w2.heap[kx + 1]? = some (.cells #[.int .i64 a.kd, .int .u8 a.x.n, .int .u16 a.x.l, .int .u32 a.x.s, .int .u8 a.x.d, .int .u8 a.x.a0, .int .u8 a.x.a1, .int .u8 a.x.b0, .int .u8 a.x.b1, .int .u8 a.x.c0, .int .u8 a.x.c1, .int .u8 a.code, .string a.val, .int .u32 a.n] 47 (0, 0)) := by rw [← hw2, ← s1]; exact heap_alloc_new _ _
  have hrows : RowsB w2 (kx + 1) 0 [a] := by
    refine ⟨bltA r2, fun i c hc => ?_⟩
    cases i with
    | zero =>
      obtain rfl : a = c := by simpa using hc
      refine ⟨fun j u hu => ?_, ha⟩
      have hj : j < 14 := by
        have := (List.getElem?_eq_some_iff.1 hu).1
        simpa [Ac.cs] using this
      refine cell_of (by simpa using r2) _ _ ?_
      rw [show 0 + 0 * 14 + j = j by omega]
      rw [← hu]
      simp [Ac.cs]
    | succ i => simp at hc
  have hkl := lightIs (kx + 1) 0 1 [a] w2 hrows (by decide) (by simp)
  rw [show [a].length = 1 from rfl] at hkl
  have KL := Lib.hid hkl
  clear hkl
  have R2 : Hid (w2.heap[kx]? = some (.cells #[.int .i64 a.kd, .int .u8 a.x.n, .int .u16 a.x.l, .int .u32 a.x.s, .int .u8 a.x.d, .int .u8 a.x.a0, .int .u8 a.x.a1, .int .u8 a.x.b0, .int .u8 a.x.b1, .int .u8 a.x.c0, .int .u8 a.x.c1, .int .u8 a.code, .string a.val, .int .u32 a.n] 47 (0, 0))) := Lib.hid ((b2.block kx (bltA r1)).trans r1)
  have B2 : Hid (Below kx W w2) := Lib.hid ((hkx ▸ b1 : Below kx W w1).trans (b2.mono (by omega)))
  have HW1 := Lib.hid hw1
  have HW2 := Lib.hid hw2
  have HS1 := Lib.hid s1
  have HKX := Lib.hid hkx
  have R1 := Lib.hid r1
  have HA := Lib.hid ha
  clear b1 r1 s1 hw1 hw2 b2 r2 hrows ha
  rw [hkx]
  go_enter Try.func7, Try.ntmps7
  go_wp2_with (first
    | (rw [HW1.out, HKX.out])
    | (refine wpList_load_row rfl 47 (.tmp 1) rfl kx (by rfl) 47 #[.int .i64 a.kd, .int .u8 a.x.n, .int .u16 a.x.l, .int .u32 a.x.s, .int .u8 a.x.d, .int .u8 a.x.a0, .int .u8 a.x.a1, .int .u8 a.x.b0, .int .u8 a.x.b1, .int .u8 a.x.c0, .int .u8 a.x.c1, .int .u8 a.code, .string a.val, .int .u32 a.n] (0, 0) _ R1.out Try.underlying47 rfl (by kernel_rfl) ?_)
    | (refine wpList_bsA rfl (.tmp 8) rfl a (by rfl) ?_; rw [HW2.out, HS1.out])
    | fail)
  try rw [HW1.out]
  try rw [HW2.out]
  try rw [HS1.out]
  refine KL.out.mono ?_
  rintro e w3 ⟨rfl, rfl⟩
  cases hlb : lightB [a] with
  | false =>
    go_wp2_with fail
    refine (knowsA _).mono ?_
    rintro e w4 ⟨rfl, b4⟩
    have B4 : Hid (Below kx W w4) := Lib.hid (B2.out.trans (b4.mono (Nat.le_of_lt (bltA R2.out))))
    clear b4
    go_wp2_with fail
    go_ret
    exact ⟨rfl, B4.out⟩
  | true =>
    clear KL R1
    have x0 := cell_of R2.out 1 (.int .u8 a.x.n) rfl; have x1 := cell_of R2.out 2 (.int .u16 a.x.l) rfl; have x2 := cell_of R2.out 3 (.int .u32 a.x.s) rfl; have x3 := cell_of R2.out 4 (.int .u8 a.x.d) rfl; have x4 := cell_of R2.out 5 (.int .u8 a.x.a0) rfl; have x5 := cell_of R2.out 6 (.int .u8 a.x.a1) rfl; have x6 := cell_of R2.out 7 (.int .u8 a.x.b0) rfl; have x7 := cell_of R2.out 8 (.int .u8 a.x.b1) rfl; have x8 := cell_of R2.out 9 (.int .u8 a.x.c0) rfl; have x9 := cell_of R2.out 10 (.int .u8 a.x.c1) rfl; skip
    go_wp2_with fail
    refine (toID _ _ _ _ _ _ _ _ _ _ _).mono ?_
    rintro e w3 ⟨rfl, b3⟩
    obtain ⟨w4, hw4⟩ : ∃ z, w3.alloc (.cells #[.int .u8 a.x.n, .int .u16 a.x.l, .int .u32 a.x.s, .int .u8 a.x.d, .int .u8 a.x.a0, .int .u8 a.x.a1, .int .u8 a.x.b0, .int .u8 a.x.b1, .int .u8 a.x.c0, .int .u8 a.x.c1] 37) = z := ⟨_, rfl⟩
    obtain ⟨ka, hka⟩ : ∃ z, w3.heap.size = z := ⟨_, rfl⟩
    have b4 : Below ka w3 w4 := by rw [← hw4, ← hka]; exact (Below.refl _ _).alloc (Nat.le_refl _) _
    have RI : Hid (w4.heap[ka]? = some (.cells #[.int .u8 a.x.n, .int .u16 a.x.l, .int .u32 a.x.s, .int .u8 a.x.d, .int .u8 a.x.a0, .int .u8 a.x.a1, .int .u8 a.x.b0, .int .u8 a.x.b1, .int .u8 a.x.c0, .int .u8 a.x.c1] 37 (0, 0))) := Lib.hid (by rw [← hw4, ← hka]; exact heap_alloc_new _ _)
    have l0 : w2.heap.size ≤ ka := by rw [← hka]; exact b3.size
    have RA : Hid (w4.heap[kx]? = some (.cells #[.int .i64 a.kd, .int .u8 a.x.n, .int .u16 a.x.l, .int .u32 a.x.s, .int .u8 a.x.d, .int .u8 a.x.a0, .int .u8 a.x.a1, .int .u8 a.x.b0, .int .u8 a.x.b1, .int .u8 a.x.c0, .int .u8 a.x.c1, .int .u8 a.code, .string a.val, .int .u32 a.n] 47 (0, 0))) := Lib.hid ((b4.block kx (Nat.lt_of_lt_of_le (bltA R2.out) l0)).trans ((b3.block kx (bltA R2.out)).trans R2.out))
    have B4 : Hid (Below kx W w4) := Lib.hid ((B2.out.trans (b3.mono (Nat.le_of_lt (bltA R2.out)))).trans (b4.mono (Nat.le_trans (Nat.le_of_lt (bltA R2.out)) l0)))
    have HW4 := Lib.hid hw4
    have HKA := Lib.hid hka
    clear x0 x1 x2 x3 x4 x5 x6 x7 x8 x9 b3 b4 l0 hw4 hlb R2 B2
    go_wp2_with (first | rw [HW4.out, HKA.out] | fail)
    try rw [HW4.out]
    try rw [HKA.out]
    go_loopw [4, 5] (fun pv iv wr => ∃ k : Nat, k ≤ 2 ∧ iv = .int .i64 k ∧ ∃ po, pv = .pointer po ∧ Hid (NoT wr (.pointer po)) ∧ Hid (Below w4.heap.size w4 wr)) (fun _ iv _ => 2 - (intOf iv).toNat)
    case atStart => exact ⟨0, by omega, rfl, none, rfl, Lib.hid (.inl rfl), Lib.hid (Below.refl _ _)⟩
    case round =>
      obtain ⟨k, hk, rfl, po, rfl, N0, BB0⟩ := hrel
      obtain ⟨u0, hu0⟩ : ∃ z : World, z = wr := ⟨_, rfl⟩
      subst hu0
      by_cases hk2 : k < 2
      · as_aux_lemma =>
        skip
        have hk2' : (k : Int) < 2 := by omega
        have HK2 := Lib.hid hk2
        have q13 := cell_of ((BB0.out.block kx (bltA RA.out)).trans RA.out) 13 (.int .u32 a.n) rfl
        have x0 := cell_of ((BB0.out.block ka (bltA RI.out)).trans RI.out) 0 (.int .u8 a.x.n) rfl; have x1 := cell_of ((BB0.out.block ka (bltA RI.out)).trans RI.out) 1 (.int .u16 a.x.l) rfl; have x2 := cell_of ((BB0.out.block ka (bltA RI.out)).trans RI.out) 2 (.int .u32 a.x.s) rfl; have x3 := cell_of ((BB0.out.block ka (bltA RI.out)).trans RI.out) 3 (.int .u8 a.x.d) rfl; have x4 := cell_of ((BB0.out.block ka (bltA RI.out)).trans RI.out) 4 (.int .u8 a.x.a0) rfl; have x5 := cell_of ((BB0.out.block ka (bltA RI.out)).trans RI.out) 5 (.int .u8 a.x.a1) rfl; have x6 := cell_of ((BB0.out.block ka (bltA RI.out)).trans RI.out) 6 (.int .u8 a.x.b0) rfl; have x7 := cell_of ((BB0.out.block ka (bltA RI.out)).trans RI.out) 7 (.int .u8 a.x.b1) rfl; have x8 := cell_of ((BB0.out.block ka (bltA RI.out)).trans RI.out) 8 (.int .u8 a.x.c0) rfl; have x9 := cell_of ((BB0.out.block ka (bltA RI.out)).trans RI.out) 9 (.int .u8 a.x.c1) rfl; skip
        clear hk2 hk
        go_wp2_with fail
        refine (nRaise u0 (.pointer po) N0.out _ _ _).mono ?_
        rintro e u1 ⟨rfl, b⟩
        have N1 := Lib.hid (N0.out.below (Nat.le_refl _) b)
        have BB1 := Lib.hid (BB0.out.trans (b.mono BB0.out.size))
        clear b x0 x1 x2 x3 x4 x5 x6 x7 x8 x9 q13
        have x0 := cell_of ((BB1.out.block ka (bltA RI.out)).trans RI.out) 0 (.int .u8 a.x.n) rfl; have x1 := cell_of ((BB1.out.block ka (bltA RI.out)).trans RI.out) 1 (.int .u16 a.x.l) rfl; have x2 := cell_of ((BB1.out.block ka (bltA RI.out)).trans RI.out) 2 (.int .u32 a.x.s) rfl; have x3 := cell_of ((BB1.out.block ka (bltA RI.out)).trans RI.out) 3 (.int .u8 a.x.d) rfl; have x4 := cell_of ((BB1.out.block ka (bltA RI.out)).trans RI.out) 4 (.int .u8 a.x.a0) rfl; have x5 := cell_of ((BB1.out.block ka (bltA RI.out)).trans RI.out) 5 (.int .u8 a.x.a1) rfl; have x6 := cell_of ((BB1.out.block ka (bltA RI.out)).trans RI.out) 6 (.int .u8 a.x.b0) rfl; have x7 := cell_of ((BB1.out.block ka (bltA RI.out)).trans RI.out) 7 (.int .u8 a.x.b1) rfl; have x8 := cell_of ((BB1.out.block ka (bltA RI.out)).trans RI.out) 8 (.int .u8 a.x.c0) rfl; have x9 := cell_of ((BB1.out.block ka (bltA RI.out)).trans RI.out) 9 (.int .u8 a.x.c1) rfl; skip
        go_wp2_with fail
        refine (nRes u1 (.pointer po) N1.out a.x).mono ?_
        rintro e u2 ⟨rfl, b⟩
        have N2 := Lib.hid (N1.out.below (Nat.le_refl _) b)
        have BB2 := Lib.hid (BB1.out.trans (b.mono BB1.out.size))
        clear b x0 x1 x2 x3 x4 x5 x6 x7 x8 x9
        have x0 := cell_of ((BB2.out.block ka (bltA RI.out)).trans RI.out) 0 (.int .u8 a.x.n) rfl; have x1 := cell_of ((BB2.out.block ka (bltA RI.out)).trans RI.out) 1 (.int .u16 a.x.l) rfl; have x2 := cell_of ((BB2.out.block ka (bltA RI.out)).trans RI.out) 2 (.int .u32 a.x.s) rfl; have x3 := cell_of ((BB2.out.block ka (bltA RI.out)).trans RI.out) 3 (.int .u8 a.x.d) rfl; have x4 := cell_of ((BB2.out.block ka (bltA RI.out)).trans RI.out) 4 (.int .u8 a.x.a0) rfl; have x5 := cell_of ((BB2.out.block ka (bltA RI.out)).trans RI.out) 5 (.int .u8 a.x.a1) rfl; have x6 := cell_of ((BB2.out.block ka (bltA RI.out)).trans RI.out) 6 (.int .u8 a.x.b0) rfl; have x7 := cell_of ((BB2.out.block ka (bltA RI.out)).trans RI.out) 7 (.int .u8 a.x.b1) rfl; have x8 := cell_of ((BB2.out.block ka (bltA RI.out)).trans RI.out) 8 (.int .u8 a.x.c0) rfl; have x9 := cell_of ((BB2.out.block ka (bltA RI.out)).trans RI.out) 9 (.int .u8 a.x.c1) rfl; skip
        obtain ⟨u3, hu3⟩ : ∃ z, u2.alloc (.cells #[.int .u8 0, .string ⟨#[]⟩] 53) = z := ⟨_, rfl⟩
        have b : Below u2.heap.size u2 u3 := by rw [← hu3]; exact (Below.refl _ _).alloc (Nat.le_refl _) _
        have HU := Lib.hid hu3
        clear hu3
        have N3 := Lib.hid (N2.out.below (Nat.le_refl _) b)
        have BB3 := Lib.hid (BB2.out.trans (b.mono BB2.out.size))
        clear b x0 x1 x2 x3 x4 x5 x6 x7 x8 x9
        have x0 := cell_of ((BB3.out.block ka (bltA RI.out)).trans RI.out) 0 (.int .u8 a.x.n) rfl; have x1 := cell_of ((BB3.out.block ka (bltA RI.out)).trans RI.out) 1 (.int .u16 a.x.l) rfl; have x2 := cell_of ((BB3.out.block ka (bltA RI.out)).trans RI.out) 2 (.int .u32 a.x.s) rfl; have x3 := cell_of ((BB3.out.block ka (bltA RI.out)).trans RI.out) 3 (.int .u8 a.x.d) rfl; have x4 := cell_of ((BB3.out.block ka (bltA RI.out)).trans RI.out) 4 (.int .u8 a.x.a0) rfl; have x5 := cell_of ((BB3.out.block ka (bltA RI.out)).trans RI.out) 5 (.int .u8 a.x.a1) rfl; have x6 := cell_of ((BB3.out.block ka (bltA RI.out)).trans RI.out) 6 (.int .u8 a.x.b0) rfl; have x7 := cell_of ((BB3.out.block ka (bltA RI.out)).trans RI.out) 7 (.int .u8 a.x.b1) rfl; have x8 := cell_of ((BB3.out.block ka (bltA RI.out)).trans RI.out) 8 (.int .u8 a.x.c0) rfl; have x9 := cell_of ((BB3.out.block ka (bltA RI.out)).trans RI.out) 9 (.int .u8 a.x.c1) rfl; skip
        rw [← HU.out] at x0 x1 x2 x3 x4 x5 x6 x7 x8 x9
        go_wp2_with fail
        try rw [HU.out]
        refine (nState u3 (.pointer po) N3.out a.x).mono ?_
        rintro e u4 ⟨rfl, b⟩
        clear HU
        have N4 := Lib.hid (N3.out.below (Nat.le_refl _) b)
        have BB4 := Lib.hid (BB3.out.trans (b.mono BB3.out.size))
        clear b x0 x1 x2 x3 x4 x5 x6 x7 x8 x9
        have x0 := cell_of ((BB4.out.block ka (bltA RI.out)).trans RI.out) 0 (.int .u8 a.x.n) rfl; have x1 := cell_of ((BB4.out.block ka (bltA RI.out)).trans RI.out) 1 (.int .u16 a.x.l) rfl; have x2 := cell_of ((BB4.out.block ka (bltA RI.out)).trans RI.out) 2 (.int .u32 a.x.s) rfl; have x3 := cell_of ((BB4.out.block ka (bltA RI.out)).trans RI.out) 3 (.int .u8 a.x.d) rfl; have x4 := cell_of ((BB4.out.block ka (bltA RI.out)).trans RI.out) 4 (.int .u8 a.x.a0) rfl; have x5 := cell_of ((BB4.out.block ka (bltA RI.out)).trans RI.out) 5 (.int .u8 a.x.a1) rfl; have x6 := cell_of ((BB4.out.block ka (bltA RI.out)).trans RI.out) 6 (.int .u8 a.x.b0) rfl; have x7 := cell_of ((BB4.out.block ka (bltA RI.out)).trans RI.out) 7 (.int .u8 a.x.b1) rfl; have x8 := cell_of ((BB4.out.block ka (bltA RI.out)).trans RI.out) 8 (.int .u8 a.x.c0) rfl; have x9 := cell_of ((BB4.out.block ka (bltA RI.out)).trans RI.out) 9 (.int .u8 a.x.c1) rfl; skip
        go_wp2_with fail
        refine (nBegin u4 (.pointer po) N4.out a.x).mono ?_
        rintro e u5 ⟨rfl, b⟩
        have N5 := Lib.hid (N4.out.below (Nat.le_refl _) b)
        have BB5 := Lib.hid (BB4.out.trans (b.mono BB4.out.size))
        clear b x0 x1 x2 x3 x4 x5 x6 x7 x8 x9
        have x0 := cell_of ((BB5.out.block ka (bltA RI.out)).trans RI.out) 0 (.int .u8 a.x.n) rfl; have x1 := cell_of ((BB5.out.block ka (bltA RI.out)).trans RI.out) 1 (.int .u16 a.x.l) rfl; have x2 := cell_of ((BB5.out.block ka (bltA RI.out)).trans RI.out) 2 (.int .u32 a.x.s) rfl; have x3 := cell_of ((BB5.out.block ka (bltA RI.out)).trans RI.out) 3 (.int .u8 a.x.d) rfl; have x4 := cell_of ((BB5.out.block ka (bltA RI.out)).trans RI.out) 4 (.int .u8 a.x.a0) rfl; have x5 := cell_of ((BB5.out.block ka (bltA RI.out)).trans RI.out) 5 (.int .u8 a.x.a1) rfl; have x6 := cell_of ((BB5.out.block ka (bltA RI.out)).trans RI.out) 6 (.int .u8 a.x.b0) rfl; have x7 := cell_of ((BB5.out.block ka (bltA RI.out)).trans RI.out) 7 (.int .u8 a.x.b1) rfl; have x8 := cell_of ((BB5.out.block ka (bltA RI.out)).trans RI.out) 8 (.int .u8 a.x.c0) rfl; have x9 := cell_of ((BB5.out.block ka (bltA RI.out)).trans RI.out) 9 (.int .u8 a.x.c1) rfl; skip
        go_wp2_with fail
        refine (numA _ u5).mono ?_
        rintro e ux ⟨rfl, rfl⟩
        go_wp2_with fail
        refine (nEnd u5 (.pointer po) N5.out a.x 0 ⟨#[]⟩).mono ?_
        rintro e u6 ⟨rfl, b⟩
        have N6 := Lib.hid (N5.out.below (Nat.le_refl _) b)
        have BB6 := Lib.hid (BB5.out.trans (b.mono BB5.out.size))
        clear b x0 x1 x2 x3 x4 x5 x6 x7 x8 x9
        have x0 := cell_of ((BB6.out.block ka (bltA RI.out)).trans RI.out) 0 (.int .u8 a.x.n) rfl; have x1 := cell_of ((BB6.out.block ka (bltA RI.out)).trans RI.out) 1 (.int .u16 a.x.l) rfl; have x2 := cell_of ((BB6.out.block ka (bltA RI.out)).trans RI.out) 2 (.int .u32 a.x.s) rfl; have x3 := cell_of ((BB6.out.block ka (bltA RI.out)).trans RI.out) 3 (.int .u8 a.x.d) rfl; have x4 := cell_of ((BB6.out.block ka (bltA RI.out)).trans RI.out) 4 (.int .u8 a.x.a0) rfl; have x5 := cell_of ((BB6.out.block ka (bltA RI.out)).trans RI.out) 5 (.int .u8 a.x.a1) rfl; have x6 := cell_of ((BB6.out.block ka (bltA RI.out)).trans RI.out) 6 (.int .u8 a.x.b0) rfl; have x7 := cell_of ((BB6.out.block ka (bltA RI.out)).trans RI.out) 7 (.int .u8 a.x.b1) rfl; have x8 := cell_of ((BB6.out.block ka (bltA RI.out)).trans RI.out) 8 (.int .u8 a.x.c0) rfl; have x9 := cell_of ((BB6.out.block ka (bltA RI.out)).trans RI.out) 9 (.int .u8 a.x.c1) rfl; skip
        go_wp2_with fail
        refine (nFloor u6 (.pointer po) N6.out _ _).mono ?_
        rintro e u7 ⟨rfl, b⟩
        have N7 := Lib.hid (N6.out.below (Nat.le_refl _) b)
        have BB7 := Lib.hid (BB6.out.trans (b.mono BB6.out.size))
        clear b x0 x1 x2 x3 x4 x5 x6 x7 x8 x9
        have x0 := cell_of ((BB7.out.block ka (bltA RI.out)).trans RI.out) 0 (.int .u8 a.x.n) rfl; have x1 := cell_of ((BB7.out.block ka (bltA RI.out)).trans RI.out) 1 (.int .u16 a.x.l) rfl; have x2 := cell_of ((BB7.out.block ka (bltA RI.out)).trans RI.out) 2 (.int .u32 a.x.s) rfl; have x3 := cell_of ((BB7.out.block ka (bltA RI.out)).trans RI.out) 3 (.int .u8 a.x.d) rfl; have x4 := cell_of ((BB7.out.block ka (bltA RI.out)).trans RI.out) 4 (.int .u8 a.x.a0) rfl; have x5 := cell_of ((BB7.out.block ka (bltA RI.out)).trans RI.out) 5 (.int .u8 a.x.a1) rfl; have x6 := cell_of ((BB7.out.block ka (bltA RI.out)).trans RI.out) 6 (.int .u8 a.x.b0) rfl; have x7 := cell_of ((BB7.out.block ka (bltA RI.out)).trans RI.out) 7 (.int .u8 a.x.b1) rfl; have x8 := cell_of ((BB7.out.block ka (bltA RI.out)).trans RI.out) 8 (.int .u8 a.x.c0) rfl; have x9 := cell_of ((BB7.out.block ka (bltA RI.out)).trans RI.out) 9 (.int .u8 a.x.c1) rfl; skip
        go_wp2_with fail
        refine (nLen u7 (.pointer po) N7.out).mono ?_
        rintro e u8 ⟨rfl, b⟩
        have N8 := Lib.hid (N7.out.below (Nat.le_refl _) b)
        have BB8 := Lib.hid (BB7.out.trans (b.mono BB7.out.size))
        clear b x0 x1 x2 x3 x4 x5 x6 x7 x8 x9
        have x0 := cell_of ((BB8.out.block ka (bltA RI.out)).trans RI.out) 0 (.int .u8 a.x.n) rfl; have x1 := cell_of ((BB8.out.block ka (bltA RI.out)).trans RI.out) 1 (.int .u16 a.x.l) rfl; have x2 := cell_of ((BB8.out.block ka (bltA RI.out)).trans RI.out) 2 (.int .u32 a.x.s) rfl; have x3 := cell_of ((BB8.out.block ka (bltA RI.out)).trans RI.out) 3 (.int .u8 a.x.d) rfl; have x4 := cell_of ((BB8.out.block ka (bltA RI.out)).trans RI.out) 4 (.int .u8 a.x.a0) rfl; have x5 := cell_of ((BB8.out.block ka (bltA RI.out)).trans RI.out) 5 (.int .u8 a.x.a1) rfl; have x6 := cell_of ((BB8.out.block ka (bltA RI.out)).trans RI.out) 6 (.int .u8 a.x.b0) rfl; have x7 := cell_of ((BB8.out.block ka (bltA RI.out)).trans RI.out) 7 (.int .u8 a.x.b1) rfl; have x8 := cell_of ((BB8.out.block ka (bltA RI.out)).trans RI.out) 8 (.int .u8 a.x.c0) rfl; have x9 := cell_of ((BB8.out.block ka (bltA RI.out)).trans RI.out) 9 (.int .u8 a.x.c1) rfl; skip
        go_wp2_with fail
        refine (nAll u8 (.pointer po) N8.out).mono ?_
        rintro e u9 ⟨rfl, b⟩
        have N9 := Lib.hid (N8.out.below (Nat.le_refl _) b)
        have BB9 := Lib.hid (BB8.out.trans (b.mono BB8.out.size))
        clear b x0 x1 x2 x3 x4 x5 x6 x7 x8 x9
        have x0 := cell_of ((BB9.out.block ka (bltA RI.out)).trans RI.out) 0 (.int .u8 a.x.n) rfl; have x1 := cell_of ((BB9.out.block ka (bltA RI.out)).trans RI.out) 1 (.int .u16 a.x.l) rfl; have x2 := cell_of ((BB9.out.block ka (bltA RI.out)).trans RI.out) 2 (.int .u32 a.x.s) rfl; have x3 := cell_of ((BB9.out.block ka (bltA RI.out)).trans RI.out) 3 (.int .u8 a.x.d) rfl; have x4 := cell_of ((BB9.out.block ka (bltA RI.out)).trans RI.out) 4 (.int .u8 a.x.a0) rfl; have x5 := cell_of ((BB9.out.block ka (bltA RI.out)).trans RI.out) 5 (.int .u8 a.x.a1) rfl; have x6 := cell_of ((BB9.out.block ka (bltA RI.out)).trans RI.out) 6 (.int .u8 a.x.b0) rfl; have x7 := cell_of ((BB9.out.block ka (bltA RI.out)).trans RI.out) 7 (.int .u8 a.x.b1) rfl; have x8 := cell_of ((BB9.out.block ka (bltA RI.out)).trans RI.out) 8 (.int .u8 a.x.c0) rfl; have x9 := cell_of ((BB9.out.block ka (bltA RI.out)).trans RI.out) 9 (.int .u8 a.x.c1) rfl; skip
        go_wp2_with fail
        refine (nClone u9 (.pointer po) N9.out).mono ?_
        rintro e u10 ⟨rfl, b⟩
        have N10 := Lib.hid (N9.out.below (Nat.le_refl _) b)
        have BB10 := Lib.hid (BB9.out.trans (b.mono BB9.out.size))
        clear b x0 x1 x2 x3 x4 x5 x6 x7 x8 x9
        have x0 := cell_of ((BB10.out.block ka (bltA RI.out)).trans RI.out) 0 (.int .u8 a.x.n) rfl; have x1 := cell_of ((BB10.out.block ka (bltA RI.out)).trans RI.out) 1 (.int .u16 a.x.l) rfl; have x2 := cell_of ((BB10.out.block ka (bltA RI.out)).trans RI.out) 2 (.int .u32 a.x.s) rfl; have x3 := cell_of ((BB10.out.block ka (bltA RI.out)).trans RI.out) 3 (.int .u8 a.x.d) rfl; have x4 := cell_of ((BB10.out.block ka (bltA RI.out)).trans RI.out) 4 (.int .u8 a.x.a0) rfl; have x5 := cell_of ((BB10.out.block ka (bltA RI.out)).trans RI.out) 5 (.int .u8 a.x.a1) rfl; have x6 := cell_of ((BB10.out.block ka (bltA RI.out)).trans RI.out) 6 (.int .u8 a.x.b0) rfl; have x7 := cell_of ((BB10.out.block ka (bltA RI.out)).trans RI.out) 7 (.int .u8 a.x.b1) rfl; have x8 := cell_of ((BB10.out.block ka (bltA RI.out)).trans RI.out) 8 (.int .u8 a.x.c0) rfl; have x9 := cell_of ((BB10.out.block ka (bltA RI.out)).trans RI.out) 9 (.int .u8 a.x.c1) rfl; skip
        go_wp2_with fail
        refine (nSame0 u10 (.pointer po) N10.out).mono ?_
        rintro e ux ⟨rfl, rfl⟩
        go_wp2_with fail
        refine (aNew 1 u10).mono ?_
        rintro e u11 ⟨rfl, PN, b, hsz⟩
        clear hsz
        have N11 := Lib.hid (N10.out.below (Nat.le_refl _) b)
        have BB11 := Lib.hid (BB10.out.trans (b.mono BB10.out.size))
        clear b x0 x1 x2 x3 x4 x5 x6 x7 x8 x9
        have x0 := cell_of ((BB11.out.block ka (bltA RI.out)).trans RI.out) 0 (.int .u8 a.x.n) rfl; have x1 := cell_of ((BB11.out.block ka (bltA RI.out)).trans RI.out) 1 (.int .u16 a.x.l) rfl; have x2 := cell_of ((BB11.out.block ka (bltA RI.out)).trans RI.out) 2 (.int .u32 a.x.s) rfl; have x3 := cell_of ((BB11.out.block ka (bltA RI.out)).trans RI.out) 3 (.int .u8 a.x.d) rfl; have x4 := cell_of ((BB11.out.block ka (bltA RI.out)).trans RI.out) 4 (.int .u8 a.x.a0) rfl; have x5 := cell_of ((BB11.out.block ka (bltA RI.out)).trans RI.out) 5 (.int .u8 a.x.a1) rfl; have x6 := cell_of ((BB11.out.block ka (bltA RI.out)).trans RI.out) 6 (.int .u8 a.x.b0) rfl; have x7 := cell_of ((BB11.out.block ka (bltA RI.out)).trans RI.out) 7 (.int .u8 a.x.b1) rfl; have x8 := cell_of ((BB11.out.block ka (bltA RI.out)).trans RI.out) 8 (.int .u8 a.x.c0) rfl; have x9 := cell_of ((BB11.out.block ka (bltA RI.out)).trans RI.out) 9 (.int .u8 a.x.c1) rfl; skip
        go_wp2_with fail
        refine (nSame1 u11 (.pointer po) N11.out _ _ _ _ _ PN).mono ?_
        rintro e ux ⟨rfl, rfl⟩
        clear PN
        go_wp2_with fail
        refine (aNew 1 u11).mono ?_
        rintro e u12 ⟨rfl, PN, b, hsz⟩
        clear hsz
        have N12 := Lib.hid (N11.out.below (Nat.le_refl _) b)
        have BB12 := Lib.hid (BB11.out.trans (b.mono BB11.out.size))
        clear b x0 x1 x2 x3 x4 x5 x6 x7 x8 x9
        have x0 := cell_of ((BB12.out.block ka (bltA RI.out)).trans RI.out) 0 (.int .u8 a.x.n) rfl; have x1 := cell_of ((BB12.out.block ka (bltA RI.out)).trans RI.out) 1 (.int .u16 a.x.l) rfl; have x2 := cell_of ((BB12.out.block ka (bltA RI.out)).trans RI.out) 2 (.int .u32 a.x.s) rfl; have x3 := cell_of ((BB12.out.block ka (bltA RI.out)).trans RI.out) 3 (.int .u8 a.x.d) rfl; have x4 := cell_of ((BB12.out.block ka (bltA RI.out)).trans RI.out) 4 (.int .u8 a.x.a0) rfl; have x5 := cell_of ((BB12.out.block ka (bltA RI.out)).trans RI.out) 5 (.int .u8 a.x.a1) rfl; have x6 := cell_of ((BB12.out.block ka (bltA RI.out)).trans RI.out) 6 (.int .u8 a.x.b0) rfl; have x7 := cell_of ((BB12.out.block ka (bltA RI.out)).trans RI.out) 7 (.int .u8 a.x.b1) rfl; have x8 := cell_of ((BB12.out.block ka (bltA RI.out)).trans RI.out) 8 (.int .u8 a.x.c0) rfl; have x9 := cell_of ((BB12.out.block ka (bltA RI.out)).trans RI.out) 9 (.int .u8 a.x.c1) rfl; skip
        go_wp2_with fail
        refine (nSame2 u12 (.pointer po) N12.out _ _ _ _ _ PN).mono ?_
        rintro e ux ⟨rfl, rfl⟩
        clear PN
        go_wp2_with fail
        go_roundw
        case rel => exact ⟨k + 1, by have := HK2.out; omega, by go_num, some ⟨u12.heap.size, 0, none⟩, rfl, Lib.hid (.inr ⟨_, rfl, heap_alloc_new _ _⟩), Lib.hid (BB12.out.alloc BB12.out.size _)⟩
        case measure => have := HK2.out; simp [intOf]; omega
      · obtain rfl : k = 2 := by omega
        go_wp2_with fail
        refine (knowsA _).mono ?_
        rintro e u1 ⟨rfl, b⟩
        have BZ : Hid (Below kx W u1) := Lib.hid ((B4.out.trans (BB0.out.mono (Nat.le_of_lt (bltA RA.out)))).trans (b.mono (Nat.le_trans (Nat.le_of_lt (bltA RA.out)) BB0.out.size)))
        clear b
        go_wp2_with fail
        go_ret
        exact ⟨rfl, BZ.out⟩

end Go.Proofs.Ytmdnnjffjhocfaa
