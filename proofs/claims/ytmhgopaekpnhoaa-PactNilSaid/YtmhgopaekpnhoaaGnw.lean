/-
  The law PactNil walked: it answers true. Condition: the act lies in memory.
-/
import Derived.Test.YtmhgopaekpnhoaaGnl
import Derived.Test.YtmhgopaekpnhoaaGkw
import Derived.Test.YtmhgopaekpnhoaaGla
import Derived.Test.YtmhgopaekpnhoaaGsv
import Derived.Deep.MidRow
import Derived.Great.BuildSlice
import Derived.LoopN
namespace Go.Proofs.Ytmhgopaekpnhoaa
set_option linter.unusedSimpArgs false
set_option linter.unusedVariables false
open Go.RowKit Go.Maps Go.Sort
open V (P2)

theorem actI : (Try.prog.info? 40).map (fun i => (i.zero, i.size, i.bytes)) = some (some (.agg #[.int .i64 0, .int .u64 0, .int .u8 0, .int .u16 0, .slice none 0 0, .slice none 0 0, .slice none 0 0, .bool false]), 8, 104) := by kernel_rfl
theorem fillA (a : Ax) : Instr.fill (fun i => some (i * 8, 8)) ((Array.range (1 * 8)).map ((Value.agg #[.int .i64 0, .int .u64 0, .int .u8 0, .int .u16 0, .slice none 0 0, .slice none 0 0, .slice none 0 0, .bool false]).cells[· % (Value.agg #[.int .i64 0, .int .u64 0, .int .u8 0, .int .u16 0, .slice none 0 0, .slice none 0 0, .slice none 0 0, .bool false]).cells.size]!)) [(0, Value.agg a.cs)] = some a.cs := by
  obtain ⟨kd, b, p, TA, T, tc, ⟨xm, X, xt, L⟩, has⟩ := a
  kernel_rfl
theorem wpList_bsA {ops : Array Oper} {rest : List Oper} {o : Oper} {a : Act} {w : World} {Q : Exit → Act → World → Prop} (hg : o.guard = none) (x : Operand) (ho : o.op = .buildSlice 22 1 #[(0, x)]) (e : Ax) (hx : a.eval x = .agg e.cs)
    (h : wpList Try.prog ops Q rest (a.put o.dst (.slice (some ⟨w.heap.size, 0, none⟩) 1 1)) (w.alloc (.cells e.cs 40))) : wpList Try.prog ops Q (o :: rest) a w := by
  obtain ⟨i0, hi0, hz0, hz1, hz2⟩ := info_parts actI
  refine wpList_buildSlice hg 22 40 1 #[(0, x)] ho e.cs i0 _ Try.underlying22 hi0 hz0 (by rw [hz1]; decide) (by rw [hz1]; decide) ?_ h
  have := fillA e
  rw [hz1]
  simpa [hx] using this
theorem rowA1 (W : World) (a : Ax) (ha : a.In W W.heap.size) : RowsA (W.alloc (.cells a.cs 40)) (W.alloc (.cells a.cs 40)).heap.size (some ⟨W.heap.size, 0, none⟩) [a] := fun _ => by
  refine ⟨W.heap.size, 0, rfl, by simp, fun i x hx => ?_⟩
  have hi : i = 0 := by
    have := (List.getElem?_eq_some_iff.1 hx).1
    simpa using this
  subst hi
  simp at hx
  subst hx
  have b : Below W.heap.size W (W.alloc (.cells a.cs 40)) := (Below.refl _ _).alloc (Nat.le_refl _) _
  refine ⟨fun j u hj => ?_, ha.below b (Nat.le_refl _) b.size⟩
  rw [cell_of_row _ _ _ _ _ _ (heap_alloc_new W _)]
  simpa using hj
theorem proc2 (x : P2) (W : World) : Calls Try.prog 27 #[.agg #[.int .u8 x.n, .int .u16 x.l]] W fun e W' => e = .returned (.agg #[.int .u8 x.n, .int .u16 x.l]) ∧ Below W.heap.size W W' :=
  (I.toProc x.n x.l W).mono fun e W' h => ⟨h.1, by
    first
      | (rw [← h.2]; exact ((Below.refl _ _).alloc (Nat.le_refl _) _).alloc (by simp) _)
      | (rw [h.2]; exact ((Below.refl _ _).alloc (Nat.le_refl _) _).alloc (by simp) _)⟩
set_option maxRecDepth 100000 in
set_option maxHeartbeats 2000000 in
theorem walkPNil (a : Ax) (W : World) (ha : a.In W W.heap.size) :
    Calls Try.prog 7 #[.agg a.cs] W fun e W' => e = .returned (.bool true) ∧ Below W.heap.size W W' := by
  obtain ⟨kx, hkx⟩ : ∃ k, W.heap.size = k := ⟨_, rfl⟩
  obtain ⟨w1, hw1⟩ : ∃ z, W.alloc (.cells a.cs 40) = z := ⟨_, rfl⟩
  have b1 : Below W.heap.size W w1 := by rw [← hw1]; exact (Below.refl _ _).alloc (Nat.le_refl _) _
  have r1 : w1.heap[kx]? = some (.cells a.cs 40 (0, 0)) := by rw [← hw1, ← hkx]; exact heap_alloc_new _ _
  have s1 : w1.heap.size = kx + 1 := by rw [← hw1, ← hkx]; simp
  have ha1 := ha.below b1 (Nat.le_refl _) b1.size
  obtain ⟨w2, hw2⟩ : ∃ z, w1.alloc (.cells a.cs 40) = z := ⟨_, rfl⟩
  have b2 : Below w1.heap.size w1 w2 := by rw [← hw2]; exact (Below.refl _ _).alloc (Nat.le_refl _) _
  have hrow := rowA1 w1 a ha1
  rw [hw2] at hrow
  have KL := Lib.hid (lightA _ [a] 1 w2 hrow (Nat.le_refl _) (by unfold maxLen; omega))
  have R2 := Lib.hid ((b2.block kx (heap_lt r1)).trans r1)
  have B2 := Lib.hid (b1.trans (b2.mono b1.size))
  have HA2 := Lib.hid (ha1.below b2 (Nat.le_refl _) b2.size)
  have HW1 := Lib.hid hw1
  have HW2 := Lib.hid hw2
  have HS1 := Lib.hid s1
  have HKX := Lib.hid hkx
  have R1 := Lib.hid r1
  have HSZA : Hid ((Try.prog.info? 40).map (·.size) = some a.cs.size) := Lib.hid (by kernel_rfl)
  have KK := Lib.hid (fun w => knowsC w)
  have KSM : Hid (∀ u, Calls Try.prog 45 #[.agg #[.slice none 0 0, .slice none 0 0], .agg #[.slice none 0 0, .slice none 0 0]] u fun r w' => r = .returned (.bool true) ∧ Below u.heap.size u w') := Lib.hid (fun u => valSame V0 V0 u (V0.ok u).at_ (V0.ok u).at_ rfl)
  clear ha b1 r1 s1 ha1 hw1 hw2 b2 hrow hkx
  rw [HS1.out] at KL
  go_enter Try.func7, Try.ntmps7
  go_wp2_with (first
    | (rw [HW1.out, HKX.out])
    | (refine wpList_load_row rfl 40 (.tmp 1) rfl kx (by rfl) 40 a.cs (0, 0) _ R1.out Try.underlying40 rfl HSZA.out ?_)
    | (refine wpList_bsA rfl (.tmp 11) rfl a (by rfl) ?_; rw [HW2.out, HS1.out])
    | fail)
  refine KL.out.mono ?_
  rintro e w3 ⟨⟨bo, rfl, hbo⟩, b3⟩
  have B3 := Lib.hid (B2.out.trans (b3.mono B2.out.size))
  cases bo with
  | false =>
    clear hbo b3
    go_wp2_with fail
    refine (KK.out _).mono ?_
    rintro e w4 ⟨rfl, b4⟩
    have B4 := Lib.hid (B3.out.trans (b4.mono B3.out.size))
    clear b4
    go_wp2_with fail
    go_ret
    exact ⟨rfl, B4.out⟩
  | true =>
    obtain ⟨_, hfine⟩ := hbo rfl
    have hf := hfine a (by simp)
    have R3 := (b3.block kx (heap_lt R2.out)).trans R2.out
    have ha3 := HA2.out.below b3 (Nat.le_refl _) b3.size
    have hat3 := ha3.v.at_ (Nat.le_trans hf.1 (by omega)) (Nat.le_trans hf.2.2 (by omega))
    clear hbo hfine HA2 R2 KL R1 HSZA
    obtain ⟨kd, ab, ap, TA, T, tc, ⟨xm, X, xt, L⟩, has⟩ := a
    obtain ⟨MA, mc, e1, mr, ml, mm⟩ := ha3.v.m
    obtain ⟨LA, lc, e2, lr, ll, lm⟩ := ha3.v.t
    dsimp only at e1 e2 mr ml lr ll
    subst e1 e2
    have hX20 : X.length ≤ 20 := hf.1
    have KOW : Hid (∀ u, Below w3.heap.size w3 u → Calls Try.prog 14 #[.agg #[.slice MA X.length mc, .slice LA L.length lc]] u fun r w' => ∃ x' : Vl, r = .returned (.agg x'.cs) ∧ x'.Ok w' ∧ Below u.heap.size u w') := Lib.hid (fun u hu => (ownVal ⟨.slice MA X.length mc, X, .slice LA L.length lc, L⟩ u (hat3.below hu (Nat.le_refl _) hu.size)).mono fun r w' h => by
      obtain ⟨x', e, ok, _, hb⟩ := h
      exact ⟨x', e, ok, hb⟩)
    have KPR : Hid (∀ u, Below w3.heap.size w3 u → Calls Try.prog 31 #[.slice MA X.length mc] u fun e w' => ∃ v, e = .returned v ∧ Below u.heap.size u w') := Lib.hid (fun u hu => (V.procs MA X mc u (mr.below hu (Nat.le_refl _) hu.size) (by omega) ml mm).mono fun r w' h => by
      obtain ⟨v, e, _, hb⟩ := h
      exact ⟨v, e, hb⟩)
    obtain ⟨nT, hnT⟩ : ∃ z, T.length = z := ⟨_, rfl⟩
    obtain ⟨nX, hnX⟩ : ∃ z, X.length = z := ⟨_, rfl⟩
    obtain ⟨nL, hnL⟩ : ∃ z, L.length = z := ⟨_, rfl⟩
    have RXA : Hid (w3.heap[kx]? = some (.cells #[.int .i64 kd, .int .u64 ab, .int .u8 ap.n, .int .u16 ap.l, .slice TA nT tc, .slice MA nX mc, .slice LA nL lc, .bool has] 40 (0, 0))) := Lib.hid (by
      rw [← hnT, ← hnX, ← hnL]
      exact R3)
    rw [hnX, hnL] at KOW
    rw [hnX] at KPR
    simp only [Ax.cs, hnT, hnX, hnL]
    clear R3 ha3 hat3 mr ml mm lr ll lm hX20 hf hnT hnX hnL b3
    go_wp2_with fail
    go_loopw [3, 4, 5] (fun av pv iv wr => ∃ k : Nat, k ≤ 2 ∧ iv = .int .i64 k ∧ ∃ ao, av = .pointer ao ∧ ∃ po, pv = .pointer po ∧ Hid (NoA wr ao) ∧ Hid (NoP wr po) ∧ Hid (Below w3.heap.size w3 wr)) (fun _ _ iv _ => 2 - (intOf iv).toNat)
    case atStart => exact ⟨0, by omega, rfl, none, rfl, none, rfl, Lib.hid (.inl rfl), Lib.hid (.inl rfl), Lib.hid (Below.refl _ _)⟩
    case round =>
      obtain ⟨k, hk, rfl, ao, rfl, po, rfl, NA0, NP0, BB0⟩ := hrel
      obtain ⟨u0, hu0⟩ : ∃ z : World, z = wr := ⟨_, rfl⟩
      subst hu0
      by_cases hk2 : k < 2
      · as_aux_lemma =>
        skip
        have hk2' : (k : Int) < 2 := by omega
        have RX0 : Hid (u0.heap[kx]? = some (.cells #[.int .i64 kd, .int .u64 ab, .int .u8 ap.n, .int .u16 ap.l, .slice TA nT tc, .slice MA nX mc, .slice LA nL lc, .bool has] 40 (0, 0))) := Lib.hid ((BB0.out.block kx (heap_lt RXA.out)).trans RXA.out)
        go_wp2_with fail
        refine (heldN _ _ NA0.out).mono ?_
        rintro e u1 ⟨⟨hm, HX, ht, HL⟩, rfl, hok, b1⟩
        have NA1 := Lib.hid (NA0.out.below b1)
        have NP1 := Lib.hid (NP0.out.below b1)
        have BB1 := Lib.hid (BB0.out.trans (b1.mono BB0.out.size))
        have RX1 := Lib.hid ((b1.block kx (heap_lt RX0.out)).trans RX0.out)
        obtain ⟨A1, c1, e1, -, -, -, -⟩ := hok.m.rows
        obtain ⟨A2, c2, e2, -, -, -, -⟩ := hok.t.rows
        dsimp only at e1 e2
        subst e1 e2
        obtain ⟨n1, hn1⟩ : ∃ z, HX.length = z := ⟨_, rfl⟩
        obtain ⟨n2, hn2⟩ : ∃ z, HL.length = z := ⟨_, rfl⟩
        dsimp only [Vl.cs]
        rw [hn1, hn2]
        obtain ⟨kh, hkh⟩ : ∃ z, u1.heap.size = z := ⟨_, rfl⟩
        obtain ⟨u2, hu2⟩ : ∃ z, u1.alloc (.cells #[.slice none 0 0, .slice none 0 0] 46) = z := ⟨_, rfl⟩
        have r2 : u2.heap[kh]? = some (.cells #[.slice none 0 0, .slice none 0 0] 46 (0, 0)) := by rw [← hu2, ← hkh]; exact heap_alloc_new _ _
        obtain ⟨u3, hu3⟩ : ∃ z, u2.setRow kh #[.slice A1 n1 c1, .slice A2 n2 c2] = z := ⟨_, rfl⟩
        have b3 : Below u1.heap.size u1 u3 := by
          rw [← hu3, ← hu2, ← hkh]
          exact ((Below.refl _ _).alloc (Nat.le_refl _) _).trans ⟨rfl, rfl, rfl, by simp [World.setRow], fun k hk => setRow_other _ u1.heap.size k _ (by omega)⟩
        have NA3 := Lib.hid (NA1.out.below b3)
        have NP3 := Lib.hid (NP1.out.below b3)
        have BB3 := Lib.hid (BB1.out.trans (b3.mono BB1.out.size))
        have RX3 := Lib.hid ((b3.block kx (heap_lt RX1.out)).trans RX1.out)
        have HU2 := Lib.hid hu2
        have HU3 := Lib.hid hu3
        have HKH := Lib.hid hkh
        have RH2 := Lib.hid r2
        clear b1 hok hn1 hn2 hkh hu2 r2 hu3 b3
        go_wp2_with (first
          | (rw [HU2.out, HKH.out])
          | (refine wpList_store_row rfl 46 (.tmp 7) (.tmp 24) rfl kh #[.slice A1 n1 c1, .slice A2 n2 c2] (by rfl) (by rfl) 46 _ RH2.out (by kernel_rfl) rfl (by simp [Value.oneCell']) ?_; rw [HU3.out])
          | fail)
        have NA4 : Hid (NoA u3.drew ao) := Lib.hid (NA3.out.below (Below.refl _ _).drew)
        have NP4 : Hid (NoP u3.drew po) := Lib.hid (NP3.out.below (Below.refl _ _).drew)
        have BB4 : Hid (Below w3.heap.size w3 u3.drew) := Lib.hid BB3.out.drew
        have RX4 : Hid (u3.drew.heap[kx]? = some (.cells #[.int .i64 kd, .int .u64 ab, .int .u8 ap.n, .int .u16 ap.l, .slice TA nT tc, .slice MA nX mc, .slice LA nL lc, .bool has] 40 (0, 0))) := Lib.hid RX3.out
        refine region_heldT (S := fun u => u.heap[kx]? = some (.cells #[.int .i64 kd, .int .u64 ab, .int .u8 ap.n, .int .u16 ap.l, .slice TA nT tc, .slice MA nX mc, .slice LA nL lc, .bool has] 40 (0, 0))) 11 (by kernel_rfl) (by decide) (fun inv => ?_)
        have HS := RX4.out
        change FirstH _ _ _ _ _ _ _ _ _ _ u3.drew
        generalize u3.drew = u4 at *
        refine FirstH.go (i := 0) (v := .pointer po) rfl rfl 26 rfl (Op.move (.tmp 4)) rfl (by kernel_rfl) (fun _ _ _ h => h) inv (fun W hS => by unfold bareO; go_simp) HS (fun inv => ?_)
        try simp only [Act.put, List.setIfInBounds_toArray, List.set_cons_zero, List.set_cons_succ]
        refine FirstH.go (i := 1) (v := .pointer (some ⟨kx, 2, none⟩)) rfl rfl 27 rfl (Op.fieldAddr 40 (.tmp 1) 2) rfl (by kernel_rfl) (fun _ _ _ h => h) inv (fun W hS => by unfold bareO; go_simp) HS (fun inv => ?_)
        try simp only [Act.put, List.setIfInBounds_toArray, List.set_cons_zero, List.set_cons_succ]
        refine FirstH.go (i := 2) (v := .agg #[.int .u8 ap.n, .int .u16 ap.l]) rfl rfl 28 rfl (Op.load 38 (.tmp 27)) rfl (by kernel_rfl) (fun _ _ _ h => h) inv (fun W hS => by have q1 := cell_of hS 1 (.int .u64 ab) rfl; have q2 := cell_of hS 2 (.int .u8 ap.n) rfl; have q3 := cell_of hS 3 (.int .u16 ap.l) rfl; have q5 := cell_of hS 5 (.slice MA nX mc) rfl; have q6 := cell_of hS 6 (.slice LA nL lc) rfl; have q7 := cell_of hS 7 (.bool has) rfl; unfold bareO; go_simp) HS (fun inv => ?_)
        try simp only [Act.put, List.setIfInBounds_toArray, List.set_cons_zero, List.set_cons_succ]
        refine FirstH.go (i := 4) (v := .pointer (some ⟨kx, 1, none⟩)) rfl rfl 30 rfl (Op.fieldAddr 40 (.tmp 1) 1) rfl (by kernel_rfl) (fun _ _ _ h => h) inv (fun W hS => by unfold bareO; go_simp) HS (fun inv => ?_)
        try simp only [Act.put, List.setIfInBounds_toArray, List.set_cons_zero, List.set_cons_succ]
        refine FirstH.go (i := 5) (v := .int .u64 ab) rfl rfl 31 rfl (Op.load 29 (.tmp 30)) rfl (by kernel_rfl) (fun _ _ _ h => h) inv (fun W hS => by have q1 := cell_of hS 1 (.int .u64 ab) rfl; have q2 := cell_of hS 2 (.int .u8 ap.n) rfl; have q3 := cell_of hS 3 (.int .u16 ap.l) rfl; have q5 := cell_of hS 5 (.slice MA nX mc) rfl; have q6 := cell_of hS 6 (.slice LA nL lc) rfl; have q7 := cell_of hS 7 (.bool has) rfl; unfold bareO; go_simp) HS (fun inv => ?_)
        try simp only [Act.put, List.setIfInBounds_toArray, List.set_cons_zero, List.set_cons_succ]
        refine FirstH.go (i := 6) (v := .pointer (some ⟨kx, 5, none⟩)) rfl rfl 32 rfl (Op.fieldAddr 40 (.tmp 1) 4) rfl (by kernel_rfl) (fun _ _ _ h => h) inv (fun W hS => by unfold bareO; go_simp) HS (fun inv => ?_)
        try simp only [Act.put, List.setIfInBounds_toArray, List.set_cons_zero, List.set_cons_succ]
        refine FirstH.go (i := 7) (v := .agg #[.slice MA nX mc, .slice LA nL lc]) rfl rfl 33 rfl (Op.load 33 (.tmp 32)) rfl (by kernel_rfl) (fun _ _ _ h => h) inv (fun W hS => by have q1 := cell_of hS 1 (.int .u64 ab) rfl; have q2 := cell_of hS 2 (.int .u8 ap.n) rfl; have q3 := cell_of hS 3 (.int .u16 ap.l) rfl; have q5 := cell_of hS 5 (.slice MA nX mc) rfl; have q6 := cell_of hS 6 (.slice LA nL lc) rfl; have q7 := cell_of hS 7 (.bool has) rfl; unfold bareO; go_simp) HS (fun inv => ?_)
        try simp only [Act.put, List.setIfInBounds_toArray, List.set_cons_zero, List.set_cons_succ]
        refine FirstH.go (i := 9) (v := .pointer (some ⟨kx, 7, none⟩)) rfl rfl 35 rfl (Op.fieldAddr 40 (.tmp 1) 5) rfl (by kernel_rfl) (fun _ _ _ h => h) inv (fun W hS => by unfold bareO; go_simp) HS (fun inv => ?_)
        try simp only [Act.put, List.setIfInBounds_toArray, List.set_cons_zero, List.set_cons_succ]
        refine FirstH.go (i := 10) (v := .bool has) rfl rfl 36 rfl (Op.load 4 (.tmp 35)) rfl (by kernel_rfl) (fun _ _ _ h => h) inv (fun W hS => by have q1 := cell_of hS 1 (.int .u64 ab) rfl; have q2 := cell_of hS 2 (.int .u8 ap.n) rfl; have q3 := cell_of hS 3 (.int .u16 ap.l) rfl; have q5 := cell_of hS 5 (.slice MA nX mc) rfl; have q6 := cell_of hS 6 (.slice LA nL lc) rfl; have q7 := cell_of hS 7 (.bool has) rfl; unfold bareO; go_simp) HS (fun inv => ?_)
        try simp only [Act.put, List.setIfInBounds_toArray, List.set_cons_zero, List.set_cons_succ]
        refine FirstH.only (i := 3) (by kernel_rfl) (by decide) inv (fun inv => wpOp_call (i := 3) rfl rfl 29 rfl (Op.call { callee := .value (.func 27), args := #[.tmp 28], argTypes := #[38] }) rfl 27 #[.agg #[.int .u8 ap.n, .int .u16 ap.l]] (by unfold bareO; go_simp) (proc2 ap u4) ?_)
        rintro e u5 ⟨rfl, b5⟩
        have NA5 := Lib.hid (NA4.out.below b5)
        have NP5 := Lib.hid (NP4.out.below b5)
        have BB5 := Lib.hid (BB4.out.trans (b5.mono BB4.out.size))
        have RX5 := Lib.hid ((b5.block kx (heap_lt RX4.out)).trans RX4.out)
        clear b5
        refine ⟨_, rfl, RX5.out, ?_⟩
        try simp only [Act.put, List.setIfInBounds_toArray, List.set_cons_zero, List.set_cons_succ]
        refine FirstH.only (i := 8) (by kernel_rfl) (by decide) inv (fun inv => wpOp_call (i := 8) rfl rfl 34 rfl (Op.call { callee := .value (.func 14), args := #[.tmp 33], argTypes := #[33] }) rfl 14 #[.agg #[.slice MA nX mc, .slice LA nL lc]] (by unfold bareO; go_simp) (KOW.out u5 BB5.out) ?_)
        rintro e u6 ⟨⟨m6, X6, t6, L6⟩, rfl, ok6, b6⟩
        have NA6 := Lib.hid (NA5.out.below b6)
        have NP6 := Lib.hid (NP5.out.below b6)
        have BB6 := Lib.hid (BB5.out.trans (b6.mono BB5.out.size))
        have RX6 := Lib.hid ((b6.block kx (heap_lt RX5.out)).trans RX5.out)
        obtain ⟨y6, hy6⟩ : ∃ z, (⟨m6, X6, t6, L6⟩ : Vl) = z := ⟨_, rfl⟩
        rw [hy6]
        clear b6 ok6 hy6 HS
        refine ⟨_, rfl, RX6.out, ?_⟩
        try simp only [Act.put, List.setIfInBounds_toArray, List.set_cons_zero, List.set_cons_succ]
        refine ⟨by kernel_rfl, ?_⟩
        simp only [List.drop_succ_cons, List.drop_zero]
        go_wp2_with fail
        refine (promN _ _ NP6.out ap ab y6 has).mono ?_
        rintro e u7 ⟨rfl, b7⟩
        have NA7 := Lib.hid (NA6.out.below b7)
        have NP7 := Lib.hid (NP6.out.below b7)
        have BB7 := Lib.hid (BB6.out.trans (b7.mono BB6.out.size))
        have RX7 := Lib.hid ((b7.block kx (heap_lt RX6.out)).trans RX6.out)
        clear b7
        have q5 := cell_of RX7.out 5 (.slice MA nX mc) rfl
        go_wp2_with fail
        refine (KPR.out _ BB7.out).mono ?_
        rintro e u8 ⟨wv, rfl, b8⟩
        have NA8 := Lib.hid (NA7.out.below b8)
        have NP8 := Lib.hid (NP7.out.below b8)
        have BB8 := Lib.hid (BB7.out.trans (b8.mono BB7.out.size))
        have RX8 := Lib.hid ((b8.block kx (heap_lt RX7.out)).trans RX7.out)
        clear b8 q5
        go_wp2_with fail
        refine (propN _ _ NP8.out wv).mono ?_
        rintro e u9 ⟨rfl, b9⟩
        have NA9 := Lib.hid (NA8.out.below b9)
        have NP9 := Lib.hid (NP8.out.below b9)
        have BB9 := Lib.hid (BB8.out.trans (b9.mono BB8.out.size))
        have RX9 := Lib.hid ((b9.block kx (heap_lt RX8.out)).trans RX8.out)
        obtain ⟨kv, hkv⟩ : ∃ z, u9.heap.size = z := ⟨_, rfl⟩
        obtain ⟨u10, hu10⟩ : ∃ z, u9.alloc (.cells #[.slice none 0 0, .slice none 0 0] 46) = z := ⟨_, rfl⟩
        have r10 : u10.heap[kv]? = some (.cells #[.slice none 0 0, .slice none 0 0] 46 (0, 0)) := by rw [← hu10, ← hkv]; exact heap_alloc_new _ _
        obtain ⟨u11, hu11⟩ : ∃ z, u10.setRow kv #[.slice none 0 0, .slice none 0 0] = z := ⟨_, rfl⟩
        have b11 : Below u9.heap.size u9 u11 := by
          rw [← hu11, ← hu10, ← hkv]
          exact ((Below.refl _ _).alloc (Nat.le_refl _) _).trans ⟨rfl, rfl, rfl, by simp [World.setRow], fun k hk => setRow_other _ u9.heap.size k _ (by omega)⟩
        have NA11 := Lib.hid (NA9.out.below b11)
        have NP11 := Lib.hid (NP9.out.below b11)
        have BB11 := Lib.hid (BB9.out.trans (b11.mono BB9.out.size))
        have RX11 := Lib.hid ((b11.block kx (heap_lt RX9.out)).trans RX9.out)
        have RV11 : Hid (u11.heap[kv]? = some (.cells #[.slice none 0 0, .slice none 0 0] 46 (0, 0))) := Lib.hid (by rw [← hu11]; exact setRow_heapG _ _ _ _ _ _ r10)
        have HU10 := Lib.hid hu10
        have HU11 := Lib.hid hu11
        have HKV := Lib.hid hkv
        have RV10 := Lib.hid r10
        clear b9 hkv hu10 r10 hu11 b11
        go_wp2_with (first
          | (rw [HU10.out, HKV.out])
          | (refine wpList_store_row rfl 46 (.tmp 9) (.tmp 45) rfl kv #[.slice none 0 0, .slice none 0 0] (by rfl) (by rfl) 46 _ RV10.out (by kernel_rfl) rfl (by simp [Value.oneCell']) ?_; rw [HU11.out])
          | fail)
        have NA12 : Hid (NoA u11.drew ao) := Lib.hid (NA11.out.below (Below.refl _ _).drew)
        have NP12 : Hid (NoP u11.drew po) := Lib.hid (NP11.out.below (Below.refl _ _).drew)
        have BB12 : Hid (Below w3.heap.size w3 u11.drew) := Lib.hid BB11.out.drew
        have RX12 : Hid (u11.drew.heap[kx]? = some (.cells #[.int .i64 kd, .int .u64 ab, .int .u8 ap.n, .int .u16 ap.l, .slice TA nT tc, .slice MA nX mc, .slice LA nL lc, .bool has] 40 (0, 0))) := Lib.hid RX11.out
        have RV12 : Hid (u11.drew.heap[kv]? = some (.cells #[.slice none 0 0, .slice none 0 0] 46 (0, 0))) := Lib.hid RV11.out
        refine region_heldT (S := fun u => u.heap[kx]? = some (.cells #[.int .i64 kd, .int .u64 ab, .int .u8 ap.n, .int .u16 ap.l, .slice TA nT tc, .slice MA nX mc, .slice LA nL lc, .bool has] 40 (0, 0)) ∧ u.heap[kv]? = some (.cells #[.slice none 0 0, .slice none 0 0] 46 (0, 0))) 63 (by kernel_rfl) (by decide) (fun inv => ?_)
        have HS : u11.drew.heap[kx]? = some (.cells #[.int .i64 kd, .int .u64 ab, .int .u8 ap.n, .int .u16 ap.l, .slice TA nT tc, .slice MA nX mc, .slice LA nL lc, .bool has] 40 (0, 0)) ∧ u11.drew.heap[kv]? = some (.cells #[.slice none 0 0, .slice none 0 0] 46 (0, 0)) := ⟨RX12.out, RV12.out⟩
        change FirstH _ _ _ _ _ _ _ _ _ _ u11.drew
        generalize u11.drew = u12 at *
        refine FirstH.go (i := 0) (v := .pointer ao) rfl rfl 47 rfl (Op.move (.tmp 3)) rfl (by kernel_rfl) (fun _ _ _ h => h) inv (fun W hS => by unfold bareO; go_simp) HS (fun inv => ?_)
        try simp only [Act.put, List.setIfInBounds_toArray, List.set_cons_zero, List.set_cons_succ]
        refine FirstH.go (i := 1) (v := .pointer (some ⟨kx, 1, none⟩)) rfl rfl 48 rfl (Op.fieldAddr 40 (.tmp 1) 1) rfl (by kernel_rfl) (fun _ _ _ h => h) inv (fun W hS => by unfold bareO; go_simp) HS (fun inv => ?_)
        try simp only [Act.put, List.setIfInBounds_toArray, List.set_cons_zero, List.set_cons_succ]
        refine FirstH.go (i := 2) (v := .int .u64 ab) rfl rfl 49 rfl (Op.load 29 (.tmp 48)) rfl (by kernel_rfl) (fun _ _ _ h => h) inv (fun W hS => by have q1 := cell_of hS.1 1 (.int .u64 ab) rfl; have q2 := cell_of hS.1 2 (.int .u8 ap.n) rfl; have q3 := cell_of hS.1 3 (.int .u16 ap.l) rfl; have q5 := cell_of hS.1 5 (.slice MA nX mc) rfl; have q6 := cell_of hS.1 6 (.slice LA nL lc) rfl; have q7 := cell_of hS.1 7 (.bool has) rfl; have v0 := cell_of hS.2 0 (.slice none 0 0) rfl; have v1 := cell_of hS.2 1 (.slice none 0 0) rfl; unfold bareO; go_simp) HS (fun inv => ?_)
        try simp only [Act.put, List.setIfInBounds_toArray, List.set_cons_zero, List.set_cons_succ]
        refine FirstH.only (i := 3) (by kernel_rfl) (by decide) inv (fun inv => wpOp_call (i := 3) rfl rfl 50 rfl (Op.call { callee := .value (.func 11), args := #[.tmp 47, .tmp 49], argTypes := #[26, 29] }) rfl 11 #[.pointer ao, .int .u64 ab] (by unfold bareO; go_simp) (prepN u12 ao NA12.out ab) ?_)
        rintro e ux ⟨rfl, rfl⟩
        have HS : u12.heap[kx]? = some (.cells #[.int .i64 kd, .int .u64 ab, .int .u8 ap.n, .int .u16 ap.l, .slice TA nT tc, .slice MA nX mc, .slice LA nL lc, .bool has] 40 (0, 0)) ∧ u12.heap[kv]? = some (.cells #[.slice none 0 0, .slice none 0 0] 46 (0, 0)) := ⟨RX12.out, RV12.out⟩
        refine ⟨_, rfl, HS, ?_⟩
        try simp only [Act.put, List.setIfInBounds_toArray, List.set_cons_zero, List.set_cons_succ]
        refine FirstH.go (i := 4) (v := .bool false) rfl rfl 51 rfl (Op.move (.tmp 50)) rfl (by kernel_rfl) (fun _ _ _ h => h) inv (fun W hS => by unfold bareO; go_simp) HS (fun inv => ?_)
        try simp only [Act.put, List.setIfInBounds_toArray, List.set_cons_zero, List.set_cons_succ]
        refine FirstH.goG (i := 5) (v := .pointer ao) rfl (by rfl) 52 rfl (Op.move (.tmp 3)) rfl (by kernel_rfl) (fun _ _ _ h => h) inv (fun W hS => by unfold bareO; go_simp) HS (fun inv => ?_)
        try simp only [Act.put, List.setIfInBounds_toArray, List.set_cons_zero, List.set_cons_succ]
        refine FirstH.goG (i := 6) (v := .pointer (some ⟨kx, 1, none⟩)) rfl (by rfl) 53 rfl (Op.fieldAddr 40 (.tmp 1) 1) rfl (by kernel_rfl) (fun _ _ _ h => h) inv (fun W hS => by unfold bareO; go_simp) HS (fun inv => ?_)
        try simp only [Act.put, List.setIfInBounds_toArray, List.set_cons_zero, List.set_cons_succ]
        refine FirstH.goG (i := 7) (v := .int .u64 ab) rfl (by rfl) 54 rfl (Op.load 29 (.tmp 53)) rfl (by kernel_rfl) (fun _ _ _ h => h) inv (fun W hS => by have q1 := cell_of hS.1 1 (.int .u64 ab) rfl; have q2 := cell_of hS.1 2 (.int .u8 ap.n) rfl; have q3 := cell_of hS.1 3 (.int .u16 ap.l) rfl; have q5 := cell_of hS.1 5 (.slice MA nX mc) rfl; have q6 := cell_of hS.1 6 (.slice LA nL lc) rfl; have q7 := cell_of hS.1 7 (.bool has) rfl; have v0 := cell_of hS.2 0 (.slice none 0 0) rfl; have v1 := cell_of hS.2 1 (.slice none 0 0) rfl; unfold bareO; go_simp) HS (fun inv => ?_)
        try simp only [Act.put, List.setIfInBounds_toArray, List.set_cons_zero, List.set_cons_succ]
        refine FirstH.goG (i := 8) (v := .pointer (some ⟨kx, 5, none⟩)) rfl (by rfl) 55 rfl (Op.fieldAddr 40 (.tmp 1) 4) rfl (by kernel_rfl) (fun _ _ _ h => h) inv (fun W hS => by unfold bareO; go_simp) HS (fun inv => ?_)
        try simp only [Act.put, List.setIfInBounds_toArray, List.set_cons_zero, List.set_cons_succ]
        refine FirstH.goG (i := 9) (v := .agg #[.slice MA nX mc, .slice LA nL lc]) rfl (by rfl) 56 rfl (Op.load 33 (.tmp 55)) rfl (by kernel_rfl) (fun _ _ _ h => h) inv (fun W hS => by have q1 := cell_of hS.1 1 (.int .u64 ab) rfl; have q2 := cell_of hS.1 2 (.int .u8 ap.n) rfl; have q3 := cell_of hS.1 3 (.int .u16 ap.l) rfl; have q5 := cell_of hS.1 5 (.slice MA nX mc) rfl; have q6 := cell_of hS.1 6 (.slice LA nL lc) rfl; have q7 := cell_of hS.1 7 (.bool has) rfl; have v0 := cell_of hS.2 0 (.slice none 0 0) rfl; have v1 := cell_of hS.2 1 (.slice none 0 0) rfl; unfold bareO; go_simp) HS (fun inv => ?_)
        try simp only [Act.put, List.setIfInBounds_toArray, List.set_cons_zero, List.set_cons_succ]
        refine FirstH.only (i := 10) (by kernel_rfl) (by decide) inv (fun inv => wpOp_callG (i := 10) rfl (by rfl) 57 rfl (Op.call { callee := .value (.func 14), args := #[.tmp 56], argTypes := #[33] }) rfl 14 #[.agg #[.slice MA nX mc, .slice LA nL lc]] (by unfold bareO; go_simp) (KOW.out u12 BB12.out) ?_)
        rintro e u13 ⟨⟨m7, X7, t7, L7⟩, rfl, ok7, b13⟩
        have NA13 := Lib.hid (NA12.out.below b13)
        have NP13 := Lib.hid (NP12.out.below b13)
        have BB13 := Lib.hid (BB12.out.trans (b13.mono BB12.out.size))
        have RX13 := Lib.hid ((b13.block kx (heap_lt RX12.out)).trans RX12.out)
        have RV13 := Lib.hid ((b13.block kv (heap_lt RV12.out)).trans RV12.out)
        obtain ⟨y7, hy7⟩ : ∃ z, (⟨m7, X7, t7, L7⟩ : Vl) = z := ⟨_, rfl⟩
        rw [hy7]
        clear b13 ok7 hy7
        have HS : u13.heap[kx]? = some (.cells #[.int .i64 kd, .int .u64 ab, .int .u8 ap.n, .int .u16 ap.l, .slice TA nT tc, .slice MA nX mc, .slice LA nL lc, .bool has] 40 (0, 0)) ∧ u13.heap[kv]? = some (.cells #[.slice none 0 0, .slice none 0 0] 46 (0, 0)) := ⟨RX13.out, RV13.out⟩
        refine ⟨_, rfl, HS, ?_⟩
        try simp only [Act.put, List.setIfInBounds_toArray, List.set_cons_zero, List.set_cons_succ]
        refine FirstH.only (i := 11) (by kernel_rfl) (by decide) inv (fun inv => wpOp_callG (i := 11) rfl (by rfl) 58 rfl (Op.call { callee := .value (.func 13), args := #[.tmp 52, .tmp 54, .tmp 57], argTypes := #[26, 29, 46] }) rfl 13 #[.pointer ao, .int .u64 ab, .agg y7.cs] (by unfold bareO; go_simp) (accAN u13 ao NA13.out ab y7) ?_)
        rintro e u14 ⟨rfl, b14⟩
        have NA14 := Lib.hid (NA13.out.below b14)
        have NP14 := Lib.hid (NP13.out.below b14)
        have BB14 := Lib.hid (BB13.out.trans (b14.mono BB13.out.size))
        have RX14 := Lib.hid ((b14.block kx (heap_lt RX13.out)).trans RX13.out)
        have RV14 := Lib.hid ((b14.block kv (heap_lt RV13.out)).trans RV13.out)
        
        clear b14
        have HS : u14.heap[kx]? = some (.cells #[.int .i64 kd, .int .u64 ab, .int .u8 ap.n, .int .u16 ap.l, .slice TA nT tc, .slice MA nX mc, .slice LA nL lc, .bool has] 40 (0, 0)) ∧ u14.heap[kv]? = some (.cells #[.slice none 0 0, .slice none 0 0] 46 (0, 0)) := ⟨RX14.out, RV14.out⟩
        refine ⟨_, rfl, HS, ?_⟩
        try simp only [Act.put, List.setIfInBounds_toArray, List.set_cons_zero, List.set_cons_succ]
        refine FirstH.go (i := 12) (v := .bool false) rfl rfl 59 rfl (Op.pick (.tmp 51) (.const (.bool true)) (.tmp 58)) rfl (by kernel_rfl) (fun _ _ _ h => h) inv (fun W hS => by unfold bareO; go_simp) HS (fun inv => ?_)
        try simp only [Act.put, List.setIfInBounds_toArray, List.set_cons_zero, List.set_cons_succ]
        refine FirstH.go (i := 13) (v := .bool false) rfl rfl 60 rfl (Op.move (.tmp 59)) rfl (by kernel_rfl) (fun _ _ _ h => h) inv (fun W hS => by unfold bareO; go_simp) HS (fun inv => ?_)
        try simp only [Act.put, List.setIfInBounds_toArray, List.set_cons_zero, List.set_cons_succ]
        refine FirstH.goG (i := 14) (v := .pointer ao) rfl (by rfl) 61 rfl (Op.move (.tmp 3)) rfl (by kernel_rfl) (fun _ _ _ h => h) inv (fun W hS => by unfold bareO; go_simp) HS (fun inv => ?_)
        try simp only [Act.put, List.setIfInBounds_toArray, List.set_cons_zero, List.set_cons_succ]
        refine FirstH.only (i := 15) (by kernel_rfl) (by decide) inv (fun inv => wpOp_callG (i := 15) rfl (by rfl) 62 rfl (Op.call { callee := .value (.func 17), args := #[.tmp 61], argTypes := #[26] }) rfl 17 #[.pointer ao] (by unfold bareO; go_simp) (promAN u14 ao NA14.out) ?_)
        rintro e ux ⟨rfl, rfl⟩
        have HS : u14.heap[kx]? = some (.cells #[.int .i64 kd, .int .u64 ab, .int .u8 ap.n, .int .u16 ap.l, .slice TA nT tc, .slice MA nX mc, .slice LA nL lc, .bool has] 40 (0, 0)) ∧ u14.heap[kv]? = some (.cells #[.slice none 0 0, .slice none 0 0] 46 (0, 0)) := ⟨RX14.out, RV14.out⟩
        refine ⟨_, rfl, HS, ?_⟩
        try simp only [Act.put, List.setIfInBounds_toArray, List.set_cons_zero, List.set_cons_succ]
        refine FirstH.goG (i := 16) (v := .bool false) rfl (by rfl) 63 rfl (Op.binOp .neq 29 (.tmp 62) (.const (.int .u64 0)) 29) rfl (by kernel_rfl) (fun _ _ _ h => h) inv (fun W hS => by unfold bareO; go_simp) HS (fun inv => ?_)
        try simp only [Act.put, List.setIfInBounds_toArray, List.set_cons_zero, List.set_cons_succ]
        refine FirstH.go (i := 17) (v := .bool false) rfl rfl 64 rfl (Op.pick (.tmp 60) (.const (.bool true)) (.tmp 63)) rfl (by kernel_rfl) (fun _ _ _ h => h) inv (fun W hS => by unfold bareO; go_simp) HS (fun inv => ?_)
        try simp only [Act.put, List.setIfInBounds_toArray, List.set_cons_zero, List.set_cons_succ]
        refine FirstH.go (i := 18) (v := .bool false) rfl rfl 65 rfl (Op.move (.tmp 64)) rfl (by kernel_rfl) (fun _ _ _ h => h) inv (fun W hS => by unfold bareO; go_simp) HS (fun inv => ?_)
        try simp only [Act.put, List.setIfInBounds_toArray, List.set_cons_zero, List.set_cons_succ]
        refine FirstH.goG (i := 19) (v := .bool false) rfl (by rfl) 66 rfl (Op.move (.tmp 8)) rfl (by kernel_rfl) (fun _ _ _ h => h) inv (fun W hS => by unfold bareO; go_simp) HS (fun inv => ?_)
        try simp only [Act.put, List.setIfInBounds_toArray, List.set_cons_zero, List.set_cons_succ]
        refine FirstH.go (i := 20) (v := .bool false) rfl rfl 67 rfl (Op.pick (.tmp 65) (.const (.bool true)) (.tmp 66)) rfl (by kernel_rfl) (fun _ _ _ h => h) inv (fun W hS => by unfold bareO; go_simp) HS (fun inv => ?_)
        try simp only [Act.put, List.setIfInBounds_toArray, List.set_cons_zero, List.set_cons_succ]
        refine FirstH.go (i := 21) (v := .bool false) rfl rfl 68 rfl (Op.move (.tmp 67)) rfl (by kernel_rfl) (fun _ _ _ h => h) inv (fun W hS => by unfold bareO; go_simp) HS (fun inv => ?_)
        try simp only [Act.put, List.setIfInBounds_toArray, List.set_cons_zero, List.set_cons_succ]
        refine FirstH.goG (i := 22) (v := .pointer po) rfl (by rfl) 69 rfl (Op.move (.tmp 4)) rfl (by kernel_rfl) (fun _ _ _ h => h) inv (fun W hS => by unfold bareO; go_simp) HS (fun inv => ?_)
        try simp only [Act.put, List.setIfInBounds_toArray, List.set_cons_zero, List.set_cons_succ]
        refine FirstH.only (i := 23) (by kernel_rfl) (by decide) inv (fun inv => wpOp_callG (i := 23) rfl (by rfl) 70 rfl (Op.call { callee := .value (.func 36), args := #[.tmp 69], argTypes := #[59] }) rfl 36 #[.pointer po] (by unfold bareO; go_simp) (readyN u14 po NP14.out) ?_)
        rintro e ux ⟨rfl, rfl⟩
        have HS : u14.heap[kx]? = some (.cells #[.int .i64 kd, .int .u64 ab, .int .u8 ap.n, .int .u16 ap.l, .slice TA nT tc, .slice MA nX mc, .slice LA nL lc, .bool has] 40 (0, 0)) ∧ u14.heap[kv]? = some (.cells #[.slice none 0 0, .slice none 0 0] 46 (0, 0)) := ⟨RX14.out, RV14.out⟩
        refine ⟨_, rfl, HS, ?_⟩
        try simp only [Act.put, List.setIfInBounds_toArray, List.set_cons_zero, List.set_cons_succ]
        refine FirstH.go (i := 24) (v := .bool false) rfl rfl 71 rfl (Op.pick (.tmp 68) (.const (.bool true)) (.tmp 70)) rfl (by kernel_rfl) (fun _ _ _ h => h) inv (fun W hS => by unfold bareO; go_simp) HS (fun inv => ?_)
        try simp only [Act.put, List.setIfInBounds_toArray, List.set_cons_zero, List.set_cons_succ]
        refine FirstH.go (i := 25) (v := .bool false) rfl rfl 72 rfl (Op.move (.tmp 71)) rfl (by kernel_rfl) (fun _ _ _ h => h) inv (fun W hS => by unfold bareO; go_simp) HS (fun inv => ?_)
        try simp only [Act.put, List.setIfInBounds_toArray, List.set_cons_zero, List.set_cons_succ]
        refine FirstH.goG (i := 26) (v := .bool false) rfl (by rfl) 73 rfl (Op.move (.tmp 10)) rfl (by kernel_rfl) (fun _ _ _ h => h) inv (fun W hS => by unfold bareO; go_simp) HS (fun inv => ?_)
        try simp only [Act.put, List.setIfInBounds_toArray, List.set_cons_zero, List.set_cons_succ]
        refine FirstH.go (i := 27) (v := .bool false) rfl rfl 74 rfl (Op.pick (.tmp 72) (.const (.bool true)) (.tmp 73)) rfl (by kernel_rfl) (fun _ _ _ h => h) inv (fun W hS => by unfold bareO; go_simp) HS (fun inv => ?_)
        try simp only [Act.put, List.setIfInBounds_toArray, List.set_cons_zero, List.set_cons_succ]
        refine FirstH.go (i := 28) (v := .bool false) rfl rfl 75 rfl (Op.move (.tmp 74)) rfl (by kernel_rfl) (fun _ _ _ h => h) inv (fun W hS => by unfold bareO; go_simp) HS (fun inv => ?_)
        try simp only [Act.put, List.setIfInBounds_toArray, List.set_cons_zero, List.set_cons_succ]
        refine FirstH.goG (i := 29) (v := .agg #[.slice none 0 0, .slice none 0 0]) rfl (by rfl) 76 rfl (Op.load 46 (.tmp 9)) rfl (by kernel_rfl) (fun _ _ _ h => h) inv (fun W hS => by have q1 := cell_of hS.1 1 (.int .u64 ab) rfl; have q2 := cell_of hS.1 2 (.int .u8 ap.n) rfl; have q3 := cell_of hS.1 3 (.int .u16 ap.l) rfl; have q5 := cell_of hS.1 5 (.slice MA nX mc) rfl; have q6 := cell_of hS.1 6 (.slice LA nL lc) rfl; have q7 := cell_of hS.1 7 (.bool has) rfl; have v0 := cell_of hS.2 0 (.slice none 0 0) rfl; have v1 := cell_of hS.2 1 (.slice none 0 0) rfl; unfold bareO; go_simp) HS (fun inv => ?_)
        try simp only [Act.put, List.setIfInBounds_toArray, List.set_cons_zero, List.set_cons_succ]
        refine FirstH.goG (i := 30) (v := .agg #[.slice none 0 0, .slice none 0 0]) rfl (by rfl) 77 rfl (Op.build 46 #[]) rfl (by kernel_rfl) (fun _ _ _ h => h) inv (fun W hS => by unfold bareO; go_simp) HS (fun inv => ?_)
        try simp only [Act.put, List.setIfInBounds_toArray, List.set_cons_zero, List.set_cons_succ]
        refine FirstH.only (i := 31) (by kernel_rfl) (by decide) inv (fun inv => wpOp_callG (i := 31) rfl (by rfl) 78 rfl (Op.call { callee := .value (.func 45), args := #[.tmp 76, .tmp 77], argTypes := #[46, 46] }) rfl 45 #[.agg #[.slice none 0 0, .slice none 0 0], .agg #[.slice none 0 0, .slice none 0 0]] (by unfold bareO; go_simp) (KSM.out u14) ?_)
        rintro e u15 ⟨rfl, b15⟩
        have NA15 := Lib.hid (NA14.out.below b15)
        have NP15 := Lib.hid (NP14.out.below b15)
        have BB15 := Lib.hid (BB14.out.trans (b15.mono BB14.out.size))
        have RX15 := Lib.hid ((b15.block kx (heap_lt RX14.out)).trans RX14.out)
        have RV15 := Lib.hid ((b15.block kv (heap_lt RV14.out)).trans RV14.out)
        
        clear b15
        have HS : u15.heap[kx]? = some (.cells #[.int .i64 kd, .int .u64 ab, .int .u8 ap.n, .int .u16 ap.l, .slice TA nT tc, .slice MA nX mc, .slice LA nL lc, .bool has] 40 (0, 0)) ∧ u15.heap[kv]? = some (.cells #[.slice none 0 0, .slice none 0 0] 46 (0, 0)) := ⟨RX15.out, RV15.out⟩
        refine ⟨_, rfl, HS, ?_⟩
        try simp only [Act.put, List.setIfInBounds_toArray, List.set_cons_zero, List.set_cons_succ]
        refine FirstH.goG (i := 32) (v := .bool false) rfl (by rfl) 79 rfl (Op.unOp .not 4 (.tmp 78)) rfl (by kernel_rfl) (fun _ _ _ h => h) inv (fun W hS => by unfold bareO; go_simp) HS (fun inv => ?_)
        try simp only [Act.put, List.setIfInBounds_toArray, List.set_cons_zero, List.set_cons_succ]
        refine FirstH.go (i := 33) (v := .bool false) rfl rfl 80 rfl (Op.pick (.tmp 75) (.const (.bool true)) (.tmp 79)) rfl (by kernel_rfl) (fun _ _ _ h => h) inv (fun W hS => by unfold bareO; go_simp) HS (fun inv => ?_)
        try simp only [Act.put, List.setIfInBounds_toArray, List.set_cons_zero, List.set_cons_succ]
        refine FirstH.go (i := 34) (v := .bool false) rfl rfl 81 rfl (Op.move (.tmp 80)) rfl (by kernel_rfl) (fun _ _ _ h => h) inv (fun W hS => by unfold bareO; go_simp) HS (fun inv => ?_)
        try simp only [Act.put, List.setIfInBounds_toArray, List.set_cons_zero, List.set_cons_succ]
        refine FirstH.goG (i := 35) (v := .pointer po) rfl (by rfl) 82 rfl (Op.move (.tmp 4)) rfl (by kernel_rfl) (fun _ _ _ h => h) inv (fun W hS => by unfold bareO; go_simp) HS (fun inv => ?_)
        try simp only [Act.put, List.setIfInBounds_toArray, List.set_cons_zero, List.set_cons_succ]
        refine FirstH.goG (i := 36) (v := .pointer (some ⟨kx, 2, none⟩)) rfl (by rfl) 83 rfl (Op.fieldAddr 40 (.tmp 1) 2) rfl (by kernel_rfl) (fun _ _ _ h => h) inv (fun W hS => by unfold bareO; go_simp) HS (fun inv => ?_)
        try simp only [Act.put, List.setIfInBounds_toArray, List.set_cons_zero, List.set_cons_succ]
        refine FirstH.goG (i := 37) (v := .agg #[.int .u8 ap.n, .int .u16 ap.l]) rfl (by rfl) 84 rfl (Op.load 38 (.tmp 83)) rfl (by kernel_rfl) (fun _ _ _ h => h) inv (fun W hS => by have q1 := cell_of hS.1 1 (.int .u64 ab) rfl; have q2 := cell_of hS.1 2 (.int .u8 ap.n) rfl; have q3 := cell_of hS.1 3 (.int .u16 ap.l) rfl; have q5 := cell_of hS.1 5 (.slice MA nX mc) rfl; have q6 := cell_of hS.1 6 (.slice LA nL lc) rfl; have q7 := cell_of hS.1 7 (.bool has) rfl; have v0 := cell_of hS.2 0 (.slice none 0 0) rfl; have v1 := cell_of hS.2 1 (.slice none 0 0) rfl; unfold bareO; go_simp) HS (fun inv => ?_)
        try simp only [Act.put, List.setIfInBounds_toArray, List.set_cons_zero, List.set_cons_succ]
        refine FirstH.only (i := 38) (by kernel_rfl) (by decide) inv (fun inv => wpOp_callG (i := 38) rfl (by rfl) 85 rfl (Op.call { callee := .value (.func 27), args := #[.tmp 84], argTypes := #[38] }) rfl 27 #[.agg #[.int .u8 ap.n, .int .u16 ap.l]] (by unfold bareO; go_simp) (proc2 ap u15) ?_)
        rintro e u16 ⟨rfl, b16⟩
        have NA16 := Lib.hid (NA15.out.below b16)
        have NP16 := Lib.hid (NP15.out.below b16)
        have BB16 := Lib.hid (BB15.out.trans (b16.mono BB15.out.size))
        have RX16 := Lib.hid ((b16.block kx (heap_lt RX15.out)).trans RX15.out)
        have RV16 := Lib.hid ((b16.block kv (heap_lt RV15.out)).trans RV15.out)
        
        clear b16
        have HS : u16.heap[kx]? = some (.cells #[.int .i64 kd, .int .u64 ab, .int .u8 ap.n, .int .u16 ap.l, .slice TA nT tc, .slice MA nX mc, .slice LA nL lc, .bool has] 40 (0, 0)) ∧ u16.heap[kv]? = some (.cells #[.slice none 0 0, .slice none 0 0] 46 (0, 0)) := ⟨RX16.out, RV16.out⟩
        refine ⟨_, rfl, HS, ?_⟩
        try simp only [Act.put, List.setIfInBounds_toArray, List.set_cons_zero, List.set_cons_succ]
        refine FirstH.only (i := 39) (by kernel_rfl) (by decide) inv (fun inv => wpOp_callG (i := 39) rfl (by rfl) 86 rfl (Op.call { callee := .value (.func 33), args := #[.tmp 82, .tmp 85], argTypes := #[59, 67] }) rfl 33 #[.pointer po, .agg #[.int .u8 ap.n, .int .u16 ap.l]] (by unfold bareO; go_simp) (accN u16 po NP16.out ap) ?_)
        rintro e u17 ⟨rfl, b17⟩
        have NA17 := Lib.hid (NA16.out.below b17)
        have NP17 := Lib.hid (NP16.out.below b17)
        have BB17 := Lib.hid (BB16.out.trans (b17.mono BB16.out.size))
        have RX17 := Lib.hid ((b17.block kx (heap_lt RX16.out)).trans RX16.out)
        have RV17 := Lib.hid ((b17.block kv (heap_lt RV16.out)).trans RV16.out)
        
        clear b17
        have HS : u17.heap[kx]? = some (.cells #[.int .i64 kd, .int .u64 ab, .int .u8 ap.n, .int .u16 ap.l, .slice TA nT tc, .slice MA nX mc, .slice LA nL lc, .bool has] 40 (0, 0)) ∧ u17.heap[kv]? = some (.cells #[.slice none 0 0, .slice none 0 0] 46 (0, 0)) := ⟨RX17.out, RV17.out⟩
        refine ⟨_, rfl, HS, ?_⟩
        try simp only [Act.put, List.setIfInBounds_toArray, List.set_cons_zero, List.set_cons_succ]
        refine FirstH.go (i := 40) (v := .bool false) rfl rfl 87 rfl (Op.pick (.tmp 81) (.const (.bool true)) (.tmp 86)) rfl (by kernel_rfl) (fun _ _ _ h => h) inv (fun W hS => by unfold bareO; go_simp) HS (fun inv => ?_)
        try simp only [Act.put, List.setIfInBounds_toArray, List.set_cons_zero, List.set_cons_succ]
        refine FirstH.go (i := 41) (v := .bool false) rfl rfl 88 rfl (Op.move (.tmp 87)) rfl (by kernel_rfl) (fun _ _ _ h => h) inv (fun W hS => by unfold bareO; go_simp) HS (fun inv => ?_)
        try simp only [Act.put, List.setIfInBounds_toArray, List.set_cons_zero, List.set_cons_succ]
        refine FirstH.goG (i := 42) (v := .pointer po) rfl (by rfl) 89 rfl (Op.move (.tmp 4)) rfl (by kernel_rfl) (fun _ _ _ h => h) inv (fun W hS => by unfold bareO; go_simp) HS (fun inv => ?_)
        try simp only [Act.put, List.setIfInBounds_toArray, List.set_cons_zero, List.set_cons_succ]
        refine FirstH.only (i := 43) (by kernel_rfl) (by decide) inv (fun inv => wpOp_callG (i := 43) rfl (by rfl) 90 rfl (Op.call { callee := .value (.func 35), args := #[.tmp 89], argTypes := #[59] }) rfl 35 #[.pointer po] (by unfold bareO; go_simp) (phaseN u17 po NP17.out) ?_)
        rintro e ux ⟨rfl, rfl⟩
        have HS : u17.heap[kx]? = some (.cells #[.int .i64 kd, .int .u64 ab, .int .u8 ap.n, .int .u16 ap.l, .slice TA nT tc, .slice MA nX mc, .slice LA nL lc, .bool has] 40 (0, 0)) ∧ u17.heap[kv]? = some (.cells #[.slice none 0 0, .slice none 0 0] 46 (0, 0)) := ⟨RX17.out, RV17.out⟩
        refine ⟨_, rfl, HS, ?_⟩
        try simp only [Act.put, List.setIfInBounds_toArray, List.set_cons_zero, List.set_cons_succ]
        refine FirstH.goG (i := 44) (v := .bool false) rfl (by rfl) 91 rfl (Op.binOp .neq 3 (.tmp 90) (.const (.int .i64 0)) 3) rfl (by kernel_rfl) (fun _ _ _ h => h) inv (fun W hS => by unfold bareO; go_simp) HS (fun inv => ?_)
        try simp only [Act.put, List.setIfInBounds_toArray, List.set_cons_zero, List.set_cons_succ]
        refine FirstH.go (i := 45) (v := .bool false) rfl rfl 92 rfl (Op.pick (.tmp 88) (.const (.bool true)) (.tmp 91)) rfl (by kernel_rfl) (fun _ _ _ h => h) inv (fun W hS => by unfold bareO; go_simp) HS (fun inv => ?_)
        try simp only [Act.put, List.setIfInBounds_toArray, List.set_cons_zero, List.set_cons_succ]
        refine FirstH.go (i := 46) (v := .bool false) rfl rfl 93 rfl (Op.move (.tmp 92)) rfl (by kernel_rfl) (fun _ _ _ h => h) inv (fun W hS => by unfold bareO; go_simp) HS (fun inv => ?_)
        try simp only [Act.put, List.setIfInBounds_toArray, List.set_cons_zero, List.set_cons_succ]
        refine FirstH.goG (i := 47) (v := .pointer po) rfl (by rfl) 94 rfl (Op.move (.tmp 4)) rfl (by kernel_rfl) (fun _ _ _ h => h) inv (fun W hS => by unfold bareO; go_simp) HS (fun inv => ?_)
        try simp only [Act.put, List.setIfInBounds_toArray, List.set_cons_zero, List.set_cons_succ]
        refine FirstH.only (i := 48) (by kernel_rfl) (by decide) inv (fun inv => wpOp_callG (i := 48) rfl (by rfl) 95 rfl (Op.call { callee := .value (.func 38), args := #[.tmp 94], argTypes := #[59] }) rfl 38 #[.pointer po] (by unfold bareO; go_simp) (ballotN u17 po NP17.out) ?_)
        rintro e ux ⟨rfl, rfl⟩
        have HS : u17.heap[kx]? = some (.cells #[.int .i64 kd, .int .u64 ab, .int .u8 ap.n, .int .u16 ap.l, .slice TA nT tc, .slice MA nX mc, .slice LA nL lc, .bool has] 40 (0, 0)) ∧ u17.heap[kv]? = some (.cells #[.slice none 0 0, .slice none 0 0] 46 (0, 0)) := ⟨RX17.out, RV17.out⟩
        refine ⟨_, rfl, HS, ?_⟩
        try simp only [Act.put, List.setIfInBounds_toArray, List.set_cons_zero, List.set_cons_succ]
        refine FirstH.goG (i := 49) (v := .bool false) rfl (by rfl) 96 rfl (Op.binOp .neq 29 (.tmp 95) (.const (.int .u64 0)) 29) rfl (by kernel_rfl) (fun _ _ _ h => h) inv (fun W hS => by unfold bareO; go_simp) HS (fun inv => ?_)
        try simp only [Act.put, List.setIfInBounds_toArray, List.set_cons_zero, List.set_cons_succ]
        refine FirstH.go (i := 50) (v := .bool false) rfl rfl 97 rfl (Op.pick (.tmp 93) (.const (.bool true)) (.tmp 96)) rfl (by kernel_rfl) (fun _ _ _ h => h) inv (fun W hS => by unfold bareO; go_simp) HS (fun inv => ?_)
        try simp only [Act.put, List.setIfInBounds_toArray, List.set_cons_zero, List.set_cons_succ]
        refine FirstH.go (i := 51) (v := .bool false) rfl rfl 98 rfl (Op.move (.tmp 97)) rfl (by kernel_rfl) (fun _ _ _ h => h) inv (fun W hS => by unfold bareO; go_simp) HS (fun inv => ?_)
        try simp only [Act.put, List.setIfInBounds_toArray, List.set_cons_zero, List.set_cons_succ]
        refine FirstH.goG (i := 52) (v := .pointer po) rfl (by rfl) 99 rfl (Op.move (.tmp 4)) rfl (by kernel_rfl) (fun _ _ _ h => h) inv (fun W hS => by unfold bareO; go_simp) HS (fun inv => ?_)
        try simp only [Act.put, List.setIfInBounds_toArray, List.set_cons_zero, List.set_cons_succ]
        refine FirstH.only (i := 53) (by kernel_rfl) (by decide) inv (fun inv => wpOp_callG (i := 53) rfl (by rfl) 100 rfl (Op.call { callee := .value (.func 42), args := #[.tmp 99], argTypes := #[59] }) rfl 42 #[.pointer po] (by unfold bareO; go_simp) (missN u17 po NP17.out) ?_)
        rintro e ux ⟨rfl, rfl⟩
        have HS : u17.heap[kx]? = some (.cells #[.int .i64 kd, .int .u64 ab, .int .u8 ap.n, .int .u16 ap.l, .slice TA nT tc, .slice MA nX mc, .slice LA nL lc, .bool has] 40 (0, 0)) ∧ u17.heap[kv]? = some (.cells #[.slice none 0 0, .slice none 0 0] 46 (0, 0)) := ⟨RX17.out, RV17.out⟩
        refine ⟨_, rfl, HS, ?_⟩
        try simp only [Act.put, List.setIfInBounds_toArray, List.set_cons_zero, List.set_cons_succ]
        refine FirstH.goG (i := 54) (v := .int .i64 0) rfl (by rfl) 101 rfl (Op.call { callee := .builtin .len, args := #[.tmp 100], argTypes := #[43] }) rfl (by kernel_rfl) (fun _ _ _ h => h) inv (fun W hS => by unfold bareO; go_simp) HS (fun inv => ?_)
        try simp only [Act.put, List.setIfInBounds_toArray, List.set_cons_zero, List.set_cons_succ]
        refine FirstH.goG (i := 55) (v := .bool false) rfl (by rfl) 102 rfl (Op.binOp .neq 3 (.tmp 101) (.const (.int .i64 0)) 3) rfl (by kernel_rfl) (fun _ _ _ h => h) inv (fun W hS => by unfold bareO; go_simp) HS (fun inv => ?_)
        try simp only [Act.put, List.setIfInBounds_toArray, List.set_cons_zero, List.set_cons_succ]
        refine FirstH.go (i := 56) (v := .bool false) rfl rfl 103 rfl (Op.pick (.tmp 98) (.const (.bool true)) (.tmp 102)) rfl (by kernel_rfl) (fun _ _ _ h => h) inv (fun W hS => by unfold bareO; go_simp) HS (fun inv => ?_)
        try simp only [Act.put, List.setIfInBounds_toArray, List.set_cons_zero, List.set_cons_succ]
        refine FirstH.go (i := 57) (v := .bool false) rfl rfl 104 rfl (Op.move (.tmp 103)) rfl (by kernel_rfl) (fun _ _ _ h => h) inv (fun W hS => by unfold bareO; go_simp) HS (fun inv => ?_)
        try simp only [Act.put, List.setIfInBounds_toArray, List.set_cons_zero, List.set_cons_succ]
        refine FirstH.goG (i := 58) (v := .pointer po) rfl (by rfl) 105 rfl (Op.move (.tmp 4)) rfl (by kernel_rfl) (fun _ _ _ h => h) inv (fun W hS => by unfold bareO; go_simp) HS (fun inv => ?_)
        try simp only [Act.put, List.setIfInBounds_toArray, List.set_cons_zero, List.set_cons_succ]
        refine FirstH.goG (i := 60) (v := .agg #[.slice none 0 0, .slice none 0 0]) rfl (by rfl) 107 rfl (Op.load 46 (.tmp 9)) rfl (by kernel_rfl) (fun _ _ _ h => h) inv (fun W hS => by have q1 := cell_of hS.1 1 (.int .u64 ab) rfl; have q2 := cell_of hS.1 2 (.int .u8 ap.n) rfl; have q3 := cell_of hS.1 3 (.int .u16 ap.l) rfl; have q5 := cell_of hS.1 5 (.slice MA nX mc) rfl; have q6 := cell_of hS.1 6 (.slice LA nL lc) rfl; have q7 := cell_of hS.1 7 (.bool has) rfl; have v0 := cell_of hS.2 0 (.slice none 0 0) rfl; have v1 := cell_of hS.2 1 (.slice none 0 0) rfl; unfold bareO; go_simp) HS (fun inv => ?_)
        try simp only [Act.put, List.setIfInBounds_toArray, List.set_cons_zero, List.set_cons_succ]
        refine FirstH.only (i := 59) (by kernel_rfl) (by decide) inv (fun inv => wpOp_callG (i := 59) rfl (by rfl) 106 rfl (Op.call { callee := .value (.func 39), args := #[.tmp 105], argTypes := #[59] }) rfl 39 #[.pointer po] (by unfold bareO; go_simp) (valueN u17 po NP17.out) ?_)
        rintro e u18 ⟨rfl, b18⟩
        have NA18 := Lib.hid (NA17.out.below b18)
        have NP18 := Lib.hid (NP17.out.below b18)
        have BB18 := Lib.hid (BB17.out.trans (b18.mono BB17.out.size))
        have RX18 := Lib.hid ((b18.block kx (heap_lt RX17.out)).trans RX17.out)
        have RV18 := Lib.hid ((b18.block kv (heap_lt RV17.out)).trans RV17.out)
        
        clear b18
        have HS : u18.heap[kx]? = some (.cells #[.int .i64 kd, .int .u64 ab, .int .u8 ap.n, .int .u16 ap.l, .slice TA nT tc, .slice MA nX mc, .slice LA nL lc, .bool has] 40 (0, 0)) ∧ u18.heap[kv]? = some (.cells #[.slice none 0 0, .slice none 0 0] 46 (0, 0)) := ⟨RX18.out, RV18.out⟩
        refine ⟨_, rfl, HS, ?_⟩
        try simp only [Act.put, List.setIfInBounds_toArray, List.set_cons_zero, List.set_cons_succ]
        refine FirstH.only (i := 61) (by kernel_rfl) (by decide) inv (fun inv => wpOp_callG (i := 61) rfl (by rfl) 108 rfl (Op.call { callee := .value (.func 45), args := #[.tmp 106, .tmp 107], argTypes := #[46, 46] }) rfl 45 #[.agg #[.slice none 0 0, .slice none 0 0], .agg #[.slice none 0 0, .slice none 0 0]] (by unfold bareO; go_simp) (KSM.out u18) ?_)
        rintro e u19 ⟨rfl, b19⟩
        have NA19 := Lib.hid (NA18.out.below b19)
        have NP19 := Lib.hid (NP18.out.below b19)
        have BB19 := Lib.hid (BB18.out.trans (b19.mono BB18.out.size))
        have RX19 := Lib.hid ((b19.block kx (heap_lt RX18.out)).trans RX18.out)
        have RV19 := Lib.hid ((b19.block kv (heap_lt RV18.out)).trans RV18.out)
        
        clear b19
        have HS : u19.heap[kx]? = some (.cells #[.int .i64 kd, .int .u64 ab, .int .u8 ap.n, .int .u16 ap.l, .slice TA nT tc, .slice MA nX mc, .slice LA nL lc, .bool has] 40 (0, 0)) ∧ u19.heap[kv]? = some (.cells #[.slice none 0 0, .slice none 0 0] 46 (0, 0)) := ⟨RX19.out, RV19.out⟩
        refine ⟨_, rfl, HS, ?_⟩
        try simp only [Act.put, List.setIfInBounds_toArray, List.set_cons_zero, List.set_cons_succ]
        refine FirstH.goG (i := 62) (v := .bool false) rfl (by rfl) 109 rfl (Op.unOp .not 4 (.tmp 108)) rfl (by kernel_rfl) (fun _ _ _ h => h) inv (fun W hS => by unfold bareO; go_simp) HS (fun inv => ?_)
        try simp only [Act.put, List.setIfInBounds_toArray, List.set_cons_zero, List.set_cons_succ]
        refine ⟨by kernel_rfl, ?_⟩
        simp only [List.drop_succ_cons, List.drop_zero]
        clear HS
        obtain ⟨ka, hka⟩ : ∃ z, u19.heap.size = z := ⟨_, rfl⟩
        obtain ⟨ua, hua⟩ : ∃ z, u19.alloc (.cells #[.bool false, .int .u64 0, .int .u64 0, .slice none 0 0, .slice none 0 0, .bool false] 104) = z := ⟨_, rfl⟩
        have ra : ua.heap[ka]? = some (.cells #[.bool false, .int .u64 0, .int .u64 0, .slice none 0 0, .slice none 0 0, .bool false] 104 (0, 0)) := by rw [← hua, ← hka]; exact heap_alloc_new _ _
        have ba : Below u19.heap.size u19 ua := by rw [← hua]; exact (Below.refl _ _).alloc (Nat.le_refl _) _
        have sa : ua.heap.size = ka + 1 := by rw [← hua, ← hka]; simp
        obtain ⟨ub, hub⟩ : ∃ z, ua.alloc (.cells #[.int .u8 0, .int .u32 0, .slice none 0 0, .int .u64 0, .int .i64 0, .map none, .slice none 0 0, .int .u64 0, .slice none 0 0, .slice none 0 0, .bool false, .slice none 0 0, .slice none 0 0] 107) = z := ⟨_, rfl⟩
        have rb : ub.heap[ka + 1]? = some (.cells #[.int .u8 0, .int .u32 0, .slice none 0 0, .int .u64 0, .int .i64 0, .map none, .slice none 0 0, .int .u64 0, .slice none 0 0, .slice none 0 0, .bool false, .slice none 0 0, .slice none 0 0] 107 (0, 0)) := by rw [← hub, ← sa]; exact heap_alloc_new _ _
        have bb : Below ua.heap.size ua ub := by rw [← hub]; exact (Below.refl _ _).alloc (Nat.le_refl _) _
        have NAE : Hid (NoA ub (some ⟨ka, 0, none⟩)) := Lib.hid (.inr ⟨ka, rfl, AP.below ⟨V0, ra, V0.ok _, rfl⟩ bb⟩)
        have NPE : Hid (NoP ub (some ⟨ka + 1, 0, none⟩)) := Lib.hid (.inr ⟨ka + 1, rfl, rb⟩)
        have BBE := Lib.hid (BB19.out.trans ((ba.trans (bb.mono ba.size)).mono BB19.out.size))
        have HUA := Lib.hid hua
        have HUB := Lib.hid hub
        have HKA := Lib.hid hka
        have HSA := Lib.hid sa
        clear ra ba rb bb hua hub hka sa
        go_wp2_with (first
          | (rw [HUA.out, HKA.out])
          | (rw [HUB.out, HSA.out])
          | fail)
        go_roundw
        case rel => exact ⟨k + 1, by omega, by go_num, _, rfl, _, rfl, NAE, NPE, BBE⟩
        case measure => simp [intOf]; omega
      · obtain rfl : k = 2 := by omega
        go_wp2_with fail
        refine (KK.out _).mono ?_
        rintro e w9 ⟨rfl, b9⟩
        have B9 := Lib.hid (B3.out.trans ((BB0.out.trans (b9.mono BB0.out.size)).mono B3.out.size))
        clear b9
        go_wp2_with fail
        go_ret
        exact ⟨rfl, B9.out⟩

end Go.Proofs.Ytmhgopaekpnhoaa
