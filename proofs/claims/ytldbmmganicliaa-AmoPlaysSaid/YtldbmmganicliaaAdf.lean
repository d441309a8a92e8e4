/-
  The document's Floor, old, State over a table. Condition: the table lies in memory, numbers fit their kinds.
-/
import Derived.Test.YtldbmmganicliaaAda
namespace Go.Proofs.Ytldbmmganicliaa
set_option linter.unusedSimpArgs false
set_option linter.unusedVariables false
open Go.RowKit Go.Maps Go.Sort

theorem eqProcA (a b c d : Int) (r : Bool) (hr : decide (a = c ∧ b = d) = r) (W : World) : (binOp .eql 39 (.agg #[.int .u8 a, .int .u16 b]) (.agg #[.int .u8 c, .int .u16 d])).run Try.prog W = .ok (.bool r) W := by
  subst hr
  go_simp
  by_cases h1 : a = c <;> by_cases h2 : b = d <;> simp [h1, h2]
theorem Fw.at_ {W : World} {g o n c : Nat} {L : List Fw} (h : RowO W 99 3 (.slice (some ⟨g, o, none⟩) n c) n (flat Fw.cs L)) {i : Nat} {y : Fw} (hi : L[i]? = some y) : W.cell? ⟨g, o + i * 3, none⟩ = some (.int .u8 y.n) ∧ W.cell? ⟨g, o + i * 3 + 1, none⟩ = some (.int .u16 y.l) ∧ W.cell? ⟨g, o + i * 3 + 2, none⟩ = some (.int .u32 y.f) := by
  refine ⟨?_, ?_, ?_⟩
  · have e := RowO.elem Fw.sz h hi (j := 0) (by decide)
    simpa [Fw.cs] using e
  · have e := RowO.elem Fw.sz h hi (j := 1) (by decide)
    simpa [Fw.cs] using e
  · have e := RowO.elem Fw.sz h hi (j := 2) (by decide)
    simpa [Fw.cs] using e
theorem floorF_hit {F : List Fw} {n l : Int} {j : Nat} {y : Fw} (hy : F[j]? = some y) (hyp : y.n = n ∧ y.l = l) (pre : ∀ (k : Nat) (z : Fw), k < j → F[k]? = some z → ¬ (z.n = n ∧ z.l = l)) : floorF F n l = y.f := by
  have : F.find? (fun f => decide (f.n = n) && decide (f.l = l)) = some y := by
    induction F generalizing j with
    | nil => simp at hy
    | cons a F ih =>
      cases j with
      | zero =>
        simp at hy
        subst hy
        simp [hyp.1, hyp.2]
      | succ j =>
        have h0 := pre 0 a (by omega) rfl
        rw [List.find?_cons_of_neg (by simpa using h0)]
        exact ih (by simpa using hy) (fun k z hk hz => pre (k + 1) z (by omega) (by simpa using hz))
  simp only [floorF, this]
theorem floorF_miss {F : List Fw} {n l : Int} (pre : ∀ (k : Nat) (z : Fw), F[k]? = some z → ¬ (z.n = n ∧ z.l = l)) : floorF F n l = 0 := by
  have : F.find? (fun f => decide (f.n = n) && decide (f.l = l)) = none := by
    rw [List.find?_eq_none]
    intro z hz
    obtain ⟨k, hk⟩ := List.getElem?_of_mem hz
    simpa using pre k z hk
  simp only [floorF, this]
theorem floorF_rng {F : List Fw} (h : ∀ x ∈ F, x.Rng) (n l : Int) : 0 ≤ floorF F n l ∧ floorF F n l ≤ 4294967295 := by
  unfold floorF
  split
  · rename_i f e
    exact (h f (List.mem_of_find?_eq_some e)).f
  · omega
set_option maxRecDepth 100000 in
set_option maxHeartbeats 4000000 in
theorem floorT (W : World) (r : Nat) (t : Tt) (lv fv : Value) (h : DT W r t lv fv) (n l : Int) (rn : 0 ≤ n ∧ n ≤ 255) (rl : 0 ≤ l ∧ l ≤ 65535) :
    Calls Try.prog 26 #[.pointer (some ⟨r, 0, none⟩), .agg #[.int .u8 n, .int .u16 l]] W fun e W' => e = .returned (.int .u32 (floorF t.F n l)) ∧ Below W.heap.size W W' := by
  obtain ⟨W1, hW1⟩ : ∃ z, W.alloc (.cells #[.int .u8 n, .int .u16 l] 39) = z := ⟨_, rfl⟩
  have b1 : Below W.heap.size W W1 := by rw [← hW1]; exact (Below.refl _ _).alloc (Nat.le_refl _) _
  obtain ⟨kx, hkx⟩ : ∃ z, W.heap.size = z := ⟨_, rfl⟩
  have R1 : W1.heap[kx]? = some (.cells #[.int .u8 n, .int .u16 l] 39 (0, 0)) := by rw [← hW1, ← hkx]; exact heap_alloc_new _ _
  have H1 := Lib.hid (h.below b1)
  have HR1 := Lib.hid R1
  have B1 := Lib.hid b1
  have HW1 := Lib.hid hW1
  have HKX := Lib.hid hkx
  obtain ⟨A, c, rfl, hc, hm, hA⟩ := h.flo.slice
  obtain ⟨m, hn⟩ : ∃ z, t.F.length = z := ⟨_, rfl⟩
  have HN := Lib.hid hn
  have hn0 := h.few.2
  rw [hn] at hc hn0
  have HA := Lib.hid hA
  have HC := Lib.hid (And.intro hc hm)
  clear h b1 hW1 R1 hA
  rw [hkx]
  go_enter Try.func26, Try.ntmps26
  go_wp2_with (rw [HW1.out, HKX.out])
  go_loopw [5] (fun i wx => ∃ j : Nat, j ≤ m ∧ i = .int .i64 j ∧ Hid (Below kx W wx) ∧ Hid (DT wx r t lv (.slice A t.F.length c)) ∧ Hid (wx.heap[kx]? = some (.cells #[.int .u8 n, .int .u16 l] 39 (0, 0))) ∧ Hid (∀ k y, k < j → t.F[k]? = some y → ¬ (y.n = n ∧ y.l = l))) (fun i _ => m - (intOf i).toNat)
  case atStart =>
    rw [HW1.out]
    exact ⟨0, Nat.zero_le _, rfl, Lib.hid (HKX.out ▸ B1.out), H1, HR1, Lib.hid (fun k y hk => absurd hk (by omega))⟩
  case round =>
    clear H1 HR1 B1
    obtain ⟨j, hj, rfl, B, D, X, pre⟩ := hrel
    obtain ⟨w0, hw0⟩ : ∃ z : World, z = wr := ⟨_, rfl⟩
    subst hw0
    have SZ : Hid (kx ≤ w0.heap.size) := Lib.hid (by have := B.out.size; have := HKX.out; omega)
    have blk := D.out.blk
    rw [HN.out] at blk
    have s0 := cell_of blk 2 (.slice A m c) rfl
    by_cases hlt : j < m
    · as_aux_lemma =>
      skip
      have hji : (j : Int) < (m : Int) := by omega
      have hd1 : decide ((j : Int) < (m : Int)) = true := by simp; omega
      have hcapi : (m : Int) ≤ (c : Int) := by omega
      have HJ := Lib.hid hlt
      have hjl : j < t.F.length := by rw [HN.out]; exact hlt
      obtain ⟨y, hy⟩ : ∃ y, t.F[j]? = some y := ⟨_, List.getElem?_eq_getElem hjl⟩
      obtain ⟨g, o, rfl⟩ : ∃ g o, A = some ⟨g, o, none⟩ := by
        rcases HA.out with ⟨_, h1⟩ | h1
        · omega
        · exact h1
      have rows := D.out.flo
      rw [HN.out] at rows
      obtain ⟨r0, r1, r2⟩ := Fw.at_ rows hy
      have x0 := cell_of X.out 0 (.int .u8 n) rfl
      have x1 := cell_of X.out 1 (.int .u16 l) rfl
      have t0 := cell_regrown s0
      have q0 := cell_regrown r0
      have q1 := cell_regrown r1
      have k0 := cell_regrown x0
      have k1 := cell_regrown x1
      have HY := Lib.hid hy
      clear hy rows blk hj hlt hjl r0 r1 r2 x0 x1
      by_cases heq : y.n = n ∧ y.l = l
      · have hE := eqProcA y.n y.l n l true (by simpa using heq)
        have HEQ := Lib.hid heq
        clear heq
        go_wp2_with fail
        try simp only [Act.put, List.setIfInBounds_toArray, List.set_cons_zero, List.set_cons_succ]
        refine wp_region_quiet_below (by kernel_rfl) (by kernel_rfl) ?_
        repeat (go_big_quiet_step (fail))
        refine wpQuiet_nil ?_
        rintro W9 ⟨p, rfl⟩
        have bb := below_regrown w0 p.d p.os
        have D9 := Lib.hid (D.out.below bb)
        have Y3 := Lib.hid (B.out.trans (bb.mono SZ.out))
        generalize grow (redrawn w0 p.d) p.os = w3 at *
        have blk := D9.out.blk
        rw [HN.out] at blk
        clear t0 q0 q1 k0 k1 hE bb s0
        have s0 := cell_of blk 2 (.slice (some ⟨g, o, none⟩) m c) rfl
        have rows := D9.out.flo
        rw [HN.out] at rows
        obtain ⟨r0, r1, r2⟩ := Fw.at_ rows HY.out
        have EF := Lib.hid (floorF_hit HY.out HEQ.out pre.out)
        clear rows blk
        go_wp2_with fail
        go_ret
        rw [EF.out]
        exact ⟨rfl, Y3.out⟩
      · have hE := eqProcA y.n y.l n l false (by simpa using heq)
        have HEQ := Lib.hid heq
        clear heq
        go_wp2_with fail
        try simp only [Act.put, List.setIfInBounds_toArray, List.set_cons_zero, List.set_cons_succ]
        refine wp_region_quiet_below (by kernel_rfl) (by kernel_rfl) ?_
        repeat (go_big_quiet_step (fail))
        refine wpQuiet_nil ?_
        rintro W9 ⟨p, rfl⟩
        have bb := below_regrown w0 p.d p.os
        have D9 := Lib.hid (D.out.below bb)
        have X9 := Lib.hid ((bb.block kx (bltA X.out)).trans X.out)
        have Y3 := Lib.hid (B.out.trans (bb.mono SZ.out))
        generalize grow (redrawn w0 p.d) p.os = w3 at *
        clear t0 q0 q1 k0 k1 hE bb s0
        go_wp2_with fail
        go_roundw
        case rel => exact ⟨j + 1, by have := HJ.out; omega, by go_num, Y3, D9, X9, Lib.hid (fun k z (hk : k < j + 1) hz => by
          by_cases e : k = j
          · subst e
            rw [HY.out] at hz
            cases hz
            exact HEQ.out
          · exact pre.out k z (by omega) hz)⟩
        case measure => simp [intOf]; omega
    · as_aux_lemma =>
      skip
      obtain rfl : j = m := by omega
      have hd1 : decide ((j : Int) < (j : Int)) = false := by simp
      have EF := Lib.hid (floorF_miss (F := t.F) (n := n) (l := l) (fun k z hz => pre.out k z (by
        have := (List.getElem?_eq_some_iff.1 hz).1
        rw [HN.out] at this
        exact this) hz))
      clear blk hj hlt D X SZ
      go_wp2_with fail
      go_ret
      rw [EF.out]
      exact ⟨rfl, B.out⟩
set_option maxRecDepth 100000 in
set_option maxHeartbeats 4000000 in
theorem oldT (W : World) (r : Nat) (t : Tt) (lv fv : Value) (h : DT W r t lv fv) (x : I10) (rx : x.Rng) :
    Calls Try.prog 40 #[.pointer (some ⟨r, 0, none⟩), .agg #[.int .u8 x.n, .int .u16 x.l, .int .u32 x.s, .int .u8 x.d, .int .u8 x.a0, .int .u8 x.a1, .int .u8 x.b0, .int .u8 x.b1, .int .u8 x.c0, .int .u8 x.c1]] W fun e W' => e = .returned (.bool (t.old x)) ∧ Below W.heap.size W W' := by
  obtain ⟨W1, hW1⟩ : ∃ z, W.alloc (.cells #[.int .u8 x.n, .int .u16 x.l, .int .u32 x.s, .int .u8 x.d, .int .u8 x.a0, .int .u8 x.a1, .int .u8 x.b0, .int .u8 x.b1, .int .u8 x.c0, .int .u8 x.c1] 43) = z := ⟨_, rfl⟩
  have b1 : Below W.heap.size W W1 := by rw [← hW1]; exact (Below.refl _ _).alloc (Nat.le_refl _) _
  obtain ⟨kx, hkx⟩ : ∃ z, W.heap.size = z := ⟨_, rfl⟩
  have R1 : W1.heap[kx]? = some (.cells #[.int .u8 x.n, .int .u16 x.l, .int .u32 x.s, .int .u8 x.d, .int .u8 x.a0, .int .u8 x.a1, .int .u8 x.b0, .int .u8 x.b1, .int .u8 x.c0, .int .u8 x.c1] 43 (0, 0)) := by rw [← hW1, ← hkx]; exact heap_alloc_new _ _
  have D1 := Lib.hid (h.below b1)
  have X1 := Lib.hid R1
  have B1 := Lib.hid b1
  have HW1 := Lib.hid hW1
  have HKX := Lib.hid hkx
  have S1 : Hid (kx < W1.heap.size) := Lib.hid (bltA R1)
  clear h b1 hW1 R1
  rw [hkx]
  go_enter Try.func40, Try.ntmps40
  go_wp2_with (first | rw [HW1.out, HKX.out] | fail)
  rw [HW1.out]
  have K1 := Lib.hid fun (dd : Nat) (os : Array Obj) => floorT (grow (redrawn W1 dd) os) r t lv fv (D1.out.below (below_regrown W1 dd os)) x.n x.l rx.n rx.l
  have x0 := cell_of X1.out 0 (.int .u8 x.n) rfl
  have k0 := cell_regrown x0
  have x1 := cell_of X1.out 1 (.int .u16 x.l) rfl
  have k1 := cell_regrown x1
  have x2 := cell_of X1.out 2 (.int .u32 x.s) rfl
  have k2 := cell_regrown x2
  have x3 := cell_of X1.out 3 (.int .u8 x.d) rfl
  have k3 := cell_regrown x3
  clear x0 x1 x2 x3
  by_cases hd : x.d = 0
  · have hv : t.old x = decide (x.s ≤ floorF t.F x.n x.l) := by simp [Tt.old, hd]
    have HV := Lib.hid hv
    have hd1 : decide (x.d = 0) = true := by simpa using hd
    clear hv
    try simp only [Act.put, List.setIfInBounds_toArray, List.set_cons_zero, List.set_cons_succ]
    refine wp_region_quiet_below (by kernel_rfl) (by kernel_rfl) ?_
    repeat (go_big_quiet_step (first | (go_at_call 26; exact Calls.regrown_of (K1.out _ _)) | fail))
    refine wpQuiet_nil ?_
    rintro W9 ⟨p, rfl⟩
    have Y3 := Lib.hid ((HKX.out ▸ B1.out : Below kx W W1).trans ((below_regrown W1 p.d p.os).mono (Nat.le_of_lt S1.out)))
    generalize grow (redrawn W1 p.d) p.os = w3 at *
    clear k0 k1 k2 k3
    go_wp2_with fail
    go_ret
    rw [HV.out]
    exact ⟨rfl, Y3.out⟩
  · have hv : t.old x = false := by simp [Tt.old, hd]
    have HV := Lib.hid hv
    have hd1 : (x.d == 0) = false := by simpa using hd
    clear hv
    try simp only [Act.put, List.setIfInBounds_toArray, List.set_cons_zero, List.set_cons_succ]
    refine wp_region_quiet_below (by kernel_rfl) (by kernel_rfl) ?_
    repeat (go_big_quiet_step (first | (go_at_call 26; exact Calls.regrown_of (K1.out _ _)) | fail))
    refine wpQuiet_nil ?_
    rintro W9 ⟨p, rfl⟩
    have Y3 := Lib.hid ((HKX.out ▸ B1.out : Below kx W W1).trans ((below_regrown W1 p.d p.os).mono (Nat.le_of_lt S1.out)))
    generalize grow (redrawn W1 p.d) p.os = w3 at *
    clear k0 k1 k2 k3
    go_wp2_with fail
    go_ret
    rw [HV.out]
    exact ⟨rfl, Y3.out⟩
theorem isT_row {L : List Rw} {x : I10} (h : isT L x = true) : ∃ y, L[fndT L x]? = some y ∧ fndT L x < L.length ∧ eqI y.id x = true := by
  unfold isT at h
  split at h
  · rename_i y e
    exact ⟨y, e, (List.getElem?_eq_some_iff.1 e).1, h⟩
  · cases h
set_option maxRecDepth 100000 in
set_option maxHeartbeats 4000000 in
theorem stateT (W : World) (r : Nat) (t : Tt) (lv fv : Value) (h : DT W r t lv fv) (x : I10) (rx : x.Rng) :
    Calls Try.prog 24 #[.pointer (some ⟨r, 0, none⟩), .agg #[.int .u8 x.n, .int .u16 x.l, .int .u32 x.s, .int .u8 x.d, .int .u8 x.a0, .int .u8 x.a1, .int .u8 x.b0, .int .u8 x.b1, .int .u8 x.c0, .int .u8 x.c1]] W fun e W' => e = .returned (.int .i64 (t.state x)) ∧ Below W.heap.size W W' := by
  obtain ⟨W1, hW1⟩ : ∃ z, W.alloc (.cells #[.int .u8 x.n, .int .u16 x.l, .int .u32 x.s, .int .u8 x.d, .int .u8 x.a0, .int .u8 x.a1, .int .u8 x.b0, .int .u8 x.b1, .int .u8 x.c0, .int .u8 x.c1] 43) = z := ⟨_, rfl⟩
  have b1 : Below W.heap.size W W1 := by rw [← hW1]; exact (Below.refl _ _).alloc (Nat.le_refl _) _
  obtain ⟨kx, hkx⟩ : ∃ z, W.heap.size = z := ⟨_, rfl⟩
  have R1 : W1.heap[kx]? = some (.cells #[.int .u8 x.n, .int .u16 x.l, .int .u32 x.s, .int .u8 x.d, .int .u8 x.a0, .int .u8 x.a1, .int .u8 x.b0, .int .u8 x.b1, .int .u8 x.c0, .int .u8 x.c1] 43 (0, 0)) := by rw [← hW1, ← hkx]; exact heap_alloc_new _ _
  have D1 := Lib.hid (h.below b1)
  have X1 := Lib.hid R1
  have B1 := Lib.hid b1
  have HW1 := Lib.hid hW1
  have HKX := Lib.hid hkx
  have S1 : Hid (kx < W1.heap.size) := Lib.hid (bltA R1)
  obtain ⟨A, c, rfl, hc, hm, hA⟩ := h.rows.slice
  obtain ⟨n, hn⟩ : ∃ z, t.L.length = z := ⟨_, rfl⟩
  have HN := Lib.hid hn
  rw [hn] at hc
  have HA := Lib.hid hA
  have hcapi : (n : Int) ≤ (c : Int) := by omega
  have KF := Lib.hid (findT W1 r t _ fv D1.out x rx)
  have KO := Lib.hid fun (w : World) (hw : DT w r t (.slice A t.L.length c) fv) => oldT w r t _ fv hw x rx
  have Z1 : Hid (Below kx W W1) := Lib.hid (hkx ▸ b1)
  clear hA hn
  clear h b1 hW1 R1
  rw [hkx]
  go_enter Try.func24, Try.ntmps24
  go_wp2_with (first | rw [HW1.out, HKX.out] | fail)
  rw [HW1.out]
  have hfl := floorF_rng D1.out.frng x.n x.l
  have HFL := Lib.hid hfl
  have HRS := Lib.hid rx.s
  have HWI := Lib.hid D1.out.win
  have KL := Lib.hid fun (w : World) (hw : DT w r t (.slice A t.L.length c) fv) => floorT w r t _ fv hw x.n x.l rx.n rx.l
  clear hfl
  have x0 := cell_of X1.out 0 (.int .u8 x.n) rfl
  have x1 := cell_of X1.out 1 (.int .u16 x.l) rfl
  have x2 := cell_of X1.out 2 (.int .u32 x.s) rfl
  have x3 := cell_of X1.out 3 (.int .u8 x.d) rfl
  have x4 := cell_of X1.out 4 (.int .u8 x.a0) rfl
  have x5 := cell_of X1.out 5 (.int .u8 x.a1) rfl
  have x6 := cell_of X1.out 6 (.int .u8 x.b0) rfl
  have x7 := cell_of X1.out 7 (.int .u8 x.b1) rfl
  have x8 := cell_of X1.out 8 (.int .u8 x.c0) rfl
  have x9 := cell_of X1.out 9 (.int .u8 x.c1) rfl
  by_cases hi : isT t.L x = true
  · as_aux_lemma =>
    skip
    obtain ⟨y, hy, hlt, _⟩ := isT_row hi
    have KF : Hid (Calls Try.prog 38 #[.pointer (some ⟨r, 0, none⟩), .agg #[.int .u8 x.n, .int .u16 x.l, .int .u32 x.s, .int .u8 x.d, .int .u8 x.a0, .int .u8 x.a1, .int .u8 x.b0, .int .u8 x.b1, .int .u8 x.c0, .int .u8 x.c1]] W1 fun e W' => e = .returned (.tuple #[.int .i64 (fndT t.L x), .bool true]) ∧ Below W1.heap.size W1 W') := Lib.hid (hi ▸ KF.out)
    obtain ⟨k, hk⟩ : ∃ k, fndT t.L x = k := ⟨_, rfl⟩
    rw [hk] at KF hy hlt
    rw [HN.out] at hlt
    have hki : (k : Int) < (n : Int) := by omega
    have HY := Lib.hid hy
    have hst : t.state x = if y.en then 2 else 1 := by simp only [Tt.state, Tt.ended, hi, hk, hy, Bool.true_and, if_true]
    have HST := Lib.hid hst
    obtain ⟨g, o, rfl⟩ : ∃ g o, A = some ⟨g, o, none⟩ := by
      rcases HA.out with ⟨_, h1⟩ | h1
      · omega
      · exact h1
    clear hst hi hy
    by_cases hen : y.en = true
    · have HEN := Lib.hid hen
      clear hen
      go_wp2_with (first | (go_at_call 38; refine KF.out.mono ?_; rintro e w2 ⟨rfl, b⟩; have D2 := Lib.hid (D1.out.below b); have X2 := Lib.hid ((b.block kx S1.out).trans X1.out); have Z2 := Lib.hid (Z1.out.trans (b.mono (Nat.le_of_lt S1.out))); have S2 : Hid (kx < w2.heap.size) := Lib.hid (Nat.lt_of_lt_of_le S1.out b.size); clear b; clear x0 x1 x2 x3 x4 x5 x6 x7 x8 x9; have blk := D2.out.blk; rw [HN.out] at blk; have s1 := cell_of blk 1 (.slice (some ⟨g, o, none⟩) n c) rfl; have rows := D2.out.rows; rw [HN.out] at rows; have r10 := (Rw.at_ rows HY.out).2.2.2.2.2.2.2.2.2.2.1; rw [HEN.out] at r10; clear rows blk) | fail)
      go_ret
      rw [HST.out, HEN.out]
      exact ⟨rfl, Z2.out⟩
    · have hen' : y.en = false := by simpa using hen
      have HEN := Lib.hid hen'
      clear hen hen'
      go_wp2_with (first | (go_at_call 38; refine KF.out.mono ?_; rintro e w2 ⟨rfl, b⟩; have D2 := Lib.hid (D1.out.below b); have X2 := Lib.hid ((b.block kx S1.out).trans X1.out); have Z2 := Lib.hid (Z1.out.trans (b.mono (Nat.le_of_lt S1.out))); have S2 : Hid (kx < w2.heap.size) := Lib.hid (Nat.lt_of_lt_of_le S1.out b.size); clear b; clear x0 x1 x2 x3 x4 x5 x6 x7 x8 x9; have blk := D2.out.blk; rw [HN.out] at blk; have s1 := cell_of blk 1 (.slice (some ⟨g, o, none⟩) n c) rfl; have rows := D2.out.rows; rw [HN.out] at rows; have r10 := (Rw.at_ rows HY.out).2.2.2.2.2.2.2.2.2.2.1; rw [HEN.out] at r10; clear rows blk) | fail)
      go_ret
      rw [HST.out, HEN.out]
      exact ⟨rfl, Z2.out⟩
  · as_aux_lemma =>
    skip
    have hi' : isT t.L x = false := by simpa using hi
    have KF : Hid (Calls Try.prog 38 #[.pointer (some ⟨r, 0, none⟩), .agg #[.int .u8 x.n, .int .u16 x.l, .int .u32 x.s, .int .u8 x.d, .int .u8 x.a0, .int .u8 x.a1, .int .u8 x.b0, .int .u8 x.b1, .int .u8 x.c0, .int .u8 x.c1]] W1 fun e W' => e = .returned (.tuple #[.int .i64 (fndT t.L x), .bool false]) ∧ Below W1.heap.size W1 W') := Lib.hid (hi' ▸ KF.out)
    have hst : t.state x = if t.old x then 3 else if decide (x.d = 0) && decide (t.win < x.s - floorF t.F x.n x.l) then 4 else 0 := by simp only [Tt.state, hi', Bool.false_and, Bool.false_eq_true, if_false]
    have HST := Lib.hid hst
    obtain ⟨k, hk⟩ : ∃ k, fndT t.L x = k := ⟨_, rfl⟩
    rw [hk] at KF
    clear hst hi hi'
    obtain ⟨bo, hbo⟩ : ∃ bo, t.old x = bo := ⟨_, rfl⟩
    rw [hbo] at KO HST
    cases bo
    · go_wp2_with (first | (go_at_call 38; refine KF.out.mono ?_; rintro e w2 ⟨rfl, b⟩; have D2 := Lib.hid (D1.out.below b); have X2 := Lib.hid ((b.block kx S1.out).trans X1.out); have Z2 := Lib.hid (Z1.out.trans (b.mono (Nat.le_of_lt S1.out))); have S2 : Hid (kx < w2.heap.size) := Lib.hid (Nat.lt_of_lt_of_le S1.out b.size); clear b; clear x0 x1 x2 x3 x4 x5 x6 x7 x8 x9; have x0 := cell_of X2.out 0 (.int .u8 x.n) rfl; have x1 := cell_of X2.out 1 (.int .u16 x.l) rfl; have x2 := cell_of X2.out 2 (.int .u32 x.s) rfl; have x3 := cell_of X2.out 3 (.int .u8 x.d) rfl; have x4 := cell_of X2.out 4 (.int .u8 x.a0) rfl; have x5 := cell_of X2.out 5 (.int .u8 x.a1) rfl; have x6 := cell_of X2.out 6 (.int .u8 x.b0) rfl; have x7 := cell_of X2.out 7 (.int .u8 x.b1) rfl; have x8 := cell_of X2.out 8 (.int .u8 x.c0) rfl; have x9 := cell_of X2.out 9 (.int .u8 x.c1) rfl) | (go_at_call 40; refine ((KO.out _ D2.out).mono ?_); rintro e w3 ⟨rfl, b⟩; have D3 := Lib.hid (D2.out.below b); have X3 := Lib.hid ((b.block kx S2.out).trans X2.out); have Z3 := Lib.hid (Z2.out.trans (b.mono (Nat.le_of_lt S2.out))); have S3 : Hid (kx < w3.heap.size) := Lib.hid (Nat.lt_of_lt_of_le S2.out b.size); clear b; clear x0 x1 x2 x3 x4 x5 x6 x7 x8 x9) | fail)
      have KQ := Lib.hid fun (dd : Nat) (os : Array Obj) => KL.out (grow (redrawn w3 dd) os) (D3.out.below (below_regrown w3 dd os))
      have x0 := cell_of X3.out 0 (.int .u8 x.n) rfl
      have x1 := cell_of X3.out 1 (.int .u16 x.l) rfl
      have x2 := cell_of X3.out 2 (.int .u32 x.s) rfl
      have x3 := cell_of X3.out 3 (.int .u8 x.d) rfl
      have k0 := cell_regrown x0
      have k1 := cell_regrown x1
      have k2 := cell_regrown x2
      have k3 := cell_regrown x3
      have blk := D3.out.blk
      have s0 := cell_of blk 0 (.int .i64 t.win) rfl
      have t0 := cell_regrown s0
      obtain ⟨fl, hfl⟩ : ∃ fl, floorF t.F x.n x.l = fl := ⟨_, rfl⟩
      rw [hfl] at KQ HST HFL
      have c1 := HFL.out
      have c2 := HRS.out
      have c3 := HWI.out
      clear x0 x1 x2 x3 s0 blk
      have END : ∀ b : Bool, (decide (x.d = 0) && decide (t.win < x.s - fl)) = b → t.state x = if b then 4 else 0 := fun b hb => by rw [HST.out, hb]; rfl
      have END := Lib.hid END
      by_cases hd : x.d = 0
      · by_cases hw : t.win < x.s - fl
        · have HE := Lib.hid (END.out true (by simp [hd, hw]))
          try simp only [Act.put, List.setIfInBounds_toArray, List.set_cons_zero, List.set_cons_succ]
          refine wp_region_quiet_below (by kernel_rfl) (by kernel_rfl) ?_
          repeat (go_big_quiet_step (first | (go_at_call 26; exact Calls.regrown_of (KQ.out _ _)) | fail))
          refine wpQuiet_nil ?_
          rintro W9 ⟨p, rfl⟩
          have Y3 := Lib.hid (Z3.out.trans ((below_regrown w3 p.d p.os).mono (Nat.le_of_lt S3.out)))
          generalize grow (redrawn w3 p.d) p.os = w4 at *
          clear k0 k1 k2 k3 t0
          go_wp2_with fail
          go_ret
          try rw [HE.out]
          exact ⟨rfl, Y3.out⟩
        · have HE := Lib.hid (END.out false (by simp [hd, hw]))
          have hw' : x.s - fl ≤ t.win := by omega
          try simp only [Act.put, List.setIfInBounds_toArray, List.set_cons_zero, List.set_cons_succ]
          refine wp_region_quiet_below (by kernel_rfl) (by kernel_rfl) ?_
          repeat (go_big_quiet_step (first | (go_at_call 26; exact Calls.regrown_of (KQ.out _ _)) | fail))
          refine wpQuiet_nil ?_
          rintro W9 ⟨p, rfl⟩
          have Y3 := Lib.hid (Z3.out.trans ((below_regrown w3 p.d p.os).mono (Nat.le_of_lt S3.out)))
          generalize grow (redrawn w3 p.d) p.os = w4 at *
          clear k0 k1 k2 k3 t0
          go_wp2_with fail
          go_ret
          try rw [HE.out]
          exact ⟨rfl, Y3.out⟩
      · have HE := Lib.hid (END.out false (by simp [hd]))
        have hd1 : (x.d == 0) = false := by simpa using hd
        try simp only [Act.put, List.setIfInBounds_toArray, List.set_cons_zero, List.set_cons_succ]
        refine wp_region_quiet_below (by kernel_rfl) (by kernel_rfl) ?_
        repeat (go_big_quiet_step (first | (go_at_call 26; exact Calls.regrown_of (KQ.out _ _)) | fail))
        refine wpQuiet_nil ?_
        rintro W9 ⟨p, rfl⟩
        have Y3 := Lib.hid (Z3.out.trans ((below_regrown w3 p.d p.os).mono (Nat.le_of_lt S3.out)))
        generalize grow (redrawn w3 p.d) p.os = w4 at *
        clear k0 k1 k2 k3 t0
        go_wp2_with fail
        go_ret
        try rw [HE.out]
        exact ⟨rfl, Y3.out⟩
    · go_wp2_with (first | (go_at_call 38; refine KF.out.mono ?_; rintro e w2 ⟨rfl, b⟩; have D2 := Lib.hid (D1.out.below b); have X2 := Lib.hid ((b.block kx S1.out).trans X1.out); have Z2 := Lib.hid (Z1.out.trans (b.mono (Nat.le_of_lt S1.out))); have S2 : Hid (kx < w2.heap.size) := Lib.hid (Nat.lt_of_lt_of_le S1.out b.size); clear b; clear x0 x1 x2 x3 x4 x5 x6 x7 x8 x9; have x0 := cell_of X2.out 0 (.int .u8 x.n) rfl; have x1 := cell_of X2.out 1 (.int .u16 x.l) rfl; have x2 := cell_of X2.out 2 (.int .u32 x.s) rfl; have x3 := cell_of X2.out 3 (.int .u8 x.d) rfl; have x4 := cell_of X2.out 4 (.int .u8 x.a0) rfl; have x5 := cell_of X2.out 5 (.int .u8 x.a1) rfl; have x6 := cell_of X2.out 6 (.int .u8 x.b0) rfl; have x7 := cell_of X2.out 7 (.int .u8 x.b1) rfl; have x8 := cell_of X2.out 8 (.int .u8 x.c0) rfl; have x9 := cell_of X2.out 9 (.int .u8 x.c1) rfl) | (go_at_call 40; refine ((KO.out _ D2.out).mono ?_); rintro e w3 ⟨rfl, b⟩; have D3 := Lib.hid (D2.out.below b); have X3 := Lib.hid ((b.block kx S2.out).trans X2.out); have Z3 := Lib.hid (Z2.out.trans (b.mono (Nat.le_of_lt S2.out))); have S3 : Hid (kx < w3.heap.size) := Lib.hid (Nat.lt_of_lt_of_le S2.out b.size); clear b; clear x0 x1 x2 x3 x4 x5 x6 x7 x8 x9) | fail)
      go_ret
      rw [HST.out]
      exact ⟨rfl, Z3.out⟩

end Go.Proofs.Ytldbmmganicliaa
