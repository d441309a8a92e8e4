/-
  The law RollNil walked: it answers true. Condition: the act's entries lie in memory.
-/
import Derived.Test.YtjdmjiikpnlkjaaRpl
import Derived.Test.YtjdmjiikpnlkjaaRpn
import Derived.Test.YtjdmjiikpnlkjaaRom
import Derived.Test.YtjdmjiikpnlkjaaWel
import Derived.Deep.MidRow
import Derived.Great.BuildSlice
import Derived.LoopN
namespace Go.Proofs.Ytjdmjiikpnlkjaa
set_option linter.unusedSimpArgs false
set_option linter.unusedVariables false
open Go.RowKit Go.Maps Go.Sort
open V (P2)

theorem actI : (Try.prog.info? 71).map (fun i => (i.zero, i.size, i.bytes)) = some (some (.agg #[.int .i64 0, .int .i64 0, .int .i64 0, .int .u8 0, .int .u16 0, .slice none 0 0]), 6, 56) := by kernel_rfl
theorem fillQ (a : Aq) : Instr.fill (fun i => some (i * 6, 6)) ((Array.range (1 * 6)).map ((Value.agg #[.int .i64 0, .int .i64 0, .int .i64 0, .int .u8 0, .int .u16 0, .slice none 0 0]).cells[· % (Value.agg #[.int .i64 0, .int .i64 0, .int .i64 0, .int .u8 0, .int .u16 0, .slice none 0 0]).cells.size]!)) [(0, Value.agg a.cs)] = some a.cs := by
  obtain ⟨kd, fr, co, p, A, L, c⟩ := a
  kernel_rfl
theorem wpList_bsQ {ops : Array Oper} {rest : List Oper} {o : Oper} {a : Act} {w : World} {Q : Exit → Act → World → Prop} (hg : o.guard = none) (x : Operand) (ho : o.op = .buildSlice 73 1 #[(0, x)]) (e : Aq) (hx : a.eval x = .agg e.cs)
    (h : wpList Try.prog ops Q rest (a.put o.dst (.slice (some ⟨w.heap.size, 0, none⟩) 1 1)) (w.alloc (.cells e.cs 71))) : wpList Try.prog ops Q (o :: rest) a w := by
  obtain ⟨i0, hi0, hz0, hz1, hz2⟩ := info_parts actI
  refine wpList_buildSlice hg 73 71 1 #[(0, x)] ho e.cs i0 _ Try.underlying73 hi0 hz0 (by rw [hz1]; decide) (by rw [hz1]; decide) ?_ h
  have := fillQ e
  rw [hz1]
  simpa [hx] using this
theorem proc2 (x : P2) (W : World) : Calls Try.prog 24 #[.agg #[.int .u8 x.n, .int .u16 x.l]] W fun e W' => e = .returned (.agg #[.int .u8 x.n, .int .u16 x.l]) ∧ Below W.heap.size W W' :=
  (I.toProc x.n x.l W).mono fun e W' h => ⟨h.1, by
    first
      | (rw [← h.2]; exact ((Below.refl _ _).alloc (Nat.le_refl _) _).alloc (by simp) _)
      | (rw [h.2]; exact ((Below.refl _ _).alloc (Nat.le_refl _) _).alloc (by simp) _)⟩
set_option maxRecDepth 100000 in
set_option maxHeartbeats 2000000 in
theorem walkRN (a : Aq) (W : World) (ha : a.In W W.heap.size) :
    Calls Try.prog 6 #[.agg a.cs] W fun e W' => e = .returned (.bool true) ∧ Below W.heap.size W W' := by
  obtain ⟨kx, hkx⟩ : ∃ k, W.heap.size = k := ⟨_, rfl⟩
  obtain ⟨w1, hw1⟩ : ∃ z, W.alloc (.cells a.cs 71) = z := ⟨_, rfl⟩
  have b1 : Below W.heap.size W w1 := by rw [← hw1]; exact (Below.refl _ _).alloc (Nat.le_refl _) _
  have r1 : w1.heap[kx]? = some (.cells a.cs 71 (0, 0)) := by rw [← hw1, ← hkx]; exact heap_alloc_new _ _
  have s1 : w1.heap.size = kx + 1 := by rw [← hw1, ← hkx]; simp
  have ha1 := ha.below b1 (Nat.le_refl _) b1.size
  obtain ⟨w2, hw2⟩ : ∃ z, w1.alloc (.cells a.cs 71) = z := ⟨_, rfl⟩
  have b2 : Below w1.heap.size w1 w2 := by rw [← hw2]; exact (Below.refl _ _).alloc (Nat.le_refl _) _
  have r2 : w2.heap[kx + 1]? = some (.cells a.cs 71 (0, 0)) := by rw [← hw2, ← s1]; exact heap_alloc_new _ _
  have ha2 := ha1.below b2 (Nat.le_refl _) b2.size
  have KL := Lib.hid (lightQ (kx + 1) a w2 r2 ha2)
  have R2 := Lib.hid ((b2.block kx (heap_lt r1)).trans r1)
  have B2 := Lib.hid (b1.trans (b2.mono b1.size))
  have HA2 := Lib.hid ha2
  have HW1 := Lib.hid hw1
  have HW2 := Lib.hid hw2
  have HS1 := Lib.hid s1
  have HKX := Lib.hid hkx
  have R1 := Lib.hid r1
  have HSZA : Hid ((Try.prog.info? 71).map (·.size) = some a.cs.size) := Lib.hid (by kernel_rfl)
  have KK := Lib.hid (fun w => knowsR w)
  clear ha b1 r1 s1 ha1 hw1 hw2 b2 r2 ha2 hkx
  go_enter Try.func6, Try.ntmps6
  go_wp2_with (first
    | (rw [HW1.out, HKX.out])
    | (refine wpList_load_row rfl 71 (.tmp 1) rfl kx (by rfl) 71 a.cs (0, 0) _ R1.out Try.underlying71 rfl HSZA.out ?_)
    | (refine wpList_bsQ rfl (.tmp 7) rfl a (by rfl) ?_; rw [HW2.out, HS1.out])
    | fail)
  refine KL.out.mono ?_
  rintro e w3 ⟨⟨bo, rfl, hbo⟩, b3⟩
  have B3 := Lib.hid (B2.out.trans (b3.mono B2.out.size))
  cases bo with
  | false =>
    clear hbo b3
    go_wp2_with fail
    refine (KK.out _).mono ?_
    rintro e w4 ⟨rfl, b4⟩
    have B4 := Lib.hid (B3.out.trans (b4.mono B3.out.size))
    clear b4
    go_wp2_with fail
    go_ret
    exact ⟨rfl, B4.out⟩
  | true =>
    have hl20 := hbo rfl
    have R3 := (b3.block kx (heap_lt R2.out)).trans R2.out
    have ha3 := HA2.out.below b3 (Nat.le_refl _) b3.size
    clear hbo HA2 R2 KL R1 HSZA
    obtain ⟨kd, fr, co, p, A, L, c⟩ := a
    have KOW : Hid (∀ u, Below w3.heap.size w3 u → Calls Try.prog 26 #[.slice A L.length c] u fun r w' => ∃ v, r = .returned v ∧ Below u.heap.size u w') := Lib.hid (fun u hu => (ownsE A L c u (ha3.t.below hu (Nat.le_refl _) hu.size) (Nat.le_trans hl20 (by omega)) ha3.tl ha3.tm).mono fun r w' h => by
      obtain ⟨v, L', e, _, _, _, hb⟩ := h
      exact ⟨v, e, hb⟩)
    obtain ⟨nL, hnL⟩ : ∃ z, L.length = z := ⟨_, rfl⟩
    have RXA : Hid (w3.heap[kx]? = some (.cells #[.int .i64 kd, .int .i64 fr, .int .i64 co, .int .u8 p.n, .int .u16 p.l, .slice A nL c] 71 (0, 0))) := Lib.hid (by
      rw [← hnL]
      exact R3)
    rw [hnL] at KOW
    simp only [Aq.cs, hnL]
    clear R3 ha3 hl20 hnL b3
    go_wp2_with fail
    go_loopw [3, 4] (fun pv iv wr => ∃ k : Nat, k ≤ 2 ∧ iv = .int .i64 k ∧ ∃ po, pv = .pointer po ∧ Hid (NoR wr po) ∧ Hid (Below w3.heap.size w3 wr)) (fun _ iv _ => 2 - (intOf iv).toNat)
    case atStart => exact ⟨0, by omega, rfl, none, rfl, Lib.hid (.inl rfl), Lib.hid (Below.refl _ _)⟩
    case round =>
      obtain ⟨k, hk, rfl, po, rfl, N0, BB0⟩ := hrel
      obtain ⟨u0, hu0⟩ : ∃ z : World, z = wr := ⟨_, rfl⟩
      subst hu0
      by_cases hk2 : k < 2
      · as_aux_lemma =>
        skip
        have hk2' : (k : Int) < 2 := by omega
        have HK2 := Lib.hid hk2
        have RX0 : Hid (u0.heap[kx]? = some (.cells #[.int .i64 kd, .int .i64 fr, .int .i64 co, .int .u8 p.n, .int .u16 p.l, .slice A nL c] 71 (0, 0))) := Lib.hid ((BB0.out.block kx (heap_lt RXA.out)).trans RXA.out)
        clear hk2 hk
        go_wp2_with fail
        refine (shutZ _ _ N0.out).mono ?_
        rintro e u1 ⟨rfl, b1⟩
        have N1 := Lib.hid (N0.out.below b1)
        have BB1 := Lib.hid (BB0.out.trans (b1.mono BB0.out.size))
        have RX1 : Hid (u1.heap[kx]? = some (.cells #[.int .i64 kd, .int .i64 fr, .int .i64 co, .int .u8 p.n, .int .u16 p.l, .slice A nL c] 71 (0, 0))) := Lib.hid ((b1.block kx (heap_lt RX0.out)).trans RX0.out)
        clear b1
        go_wp2_with fail
        obtain ⟨u2, hu2⟩ : ∃ z, u1.drew = z := ⟨_, rfl⟩
        have N2 : Hid (NoR u2 po) := Lib.hid (hu2 ▸ N1.out.below (Below.refl _ _).drew)
        have BB2 : Hid (Below w3.heap.size w3 u2) := Lib.hid (hu2 ▸ BB1.out.drew)
        have RX2 : Hid (u2.heap[kx]? = some (.cells #[.int .i64 kd, .int .i64 fr, .int .i64 co, .int .u8 p.n, .int .u16 p.l, .slice A nL c] 71 (0, 0))) := Lib.hid (hu2 ▸ RX1.out)
        refine region_heldT (S := fun u => u.heap[kx]? = some (.cells #[.int .i64 kd, .int .i64 fr, .int .i64 co, .int .u8 p.n, .int .u16 p.l, .slice A nL c] 71 (0, 0))) 6 (by kernel_rfl) (by decide) (fun inv => ?_)
        have HS := RX2.out
        change FirstH _ _ _ _ _ _ _ _ _ _ u1.drew
        rw [hu2]
        clear hu2
        refine FirstH.go (i := 0) (v := .pointer po) rfl rfl 18 rfl (Op.move (Operand.tmp 3)) rfl (by kernel_rfl) (fun _ _ _ h => h) inv (fun W hS => by unfold bareO; go_simp) HS (fun inv => ?_)
        try simp only [Act.put, List.setIfInBounds_toArray, List.set_cons_zero, List.set_cons_succ]
        refine FirstH.go (i := 1) (v := .pointer (some ⟨kx, 3, none⟩)) rfl rfl 19 rfl (Op.fieldAddr 71 (Operand.tmp 1) 3) rfl (by kernel_rfl) (fun _ _ _ h => h) inv (fun W hS => by unfold bareO; go_simp) HS (fun inv => ?_)
        try simp only [Act.put, List.setIfInBounds_toArray, List.set_cons_zero, List.set_cons_succ]
        refine FirstH.go (i := 2) (v := .agg #[.int .u8 p.n, .int .u16 p.l]) rfl rfl 20 rfl (Op.load 68 (Operand.tmp 19)) rfl (by kernel_rfl) (fun _ _ _ h => h) inv (fun W hS => by have q1 := cell_of hS 1 (.int .i64 fr) rfl; have q2 := cell_of hS 2 (.int .i64 co) rfl; have q3 := cell_of hS 3 (.int .u8 p.n) rfl; have q4 := cell_of hS 4 (.int .u16 p.l) rfl; have q5 := cell_of hS 5 (.slice A nL c) rfl; unfold bareO; go_simp) HS (fun inv => ?_)
        try simp only [Act.put, List.setIfInBounds_toArray, List.set_cons_zero, List.set_cons_succ]
        refine FirstH.go (i := 4) (v := .pointer (some ⟨kx, 1, none⟩)) rfl rfl 22 rfl (Op.fieldAddr 71 (Operand.tmp 1) 1) rfl (by kernel_rfl) (fun _ _ _ h => h) inv (fun W hS => by unfold bareO; go_simp) HS (fun inv => ?_)
        try simp only [Act.put, List.setIfInBounds_toArray, List.set_cons_zero, List.set_cons_succ]
        refine FirstH.go (i := 5) (v := .int .i64 fr) rfl rfl 23 rfl (Op.load 3 (Operand.tmp 22)) rfl (by kernel_rfl) (fun _ _ _ h => h) inv (fun W hS => by have q1 := cell_of hS 1 (.int .i64 fr) rfl; have q2 := cell_of hS 2 (.int .i64 co) rfl; have q3 := cell_of hS 3 (.int .u8 p.n) rfl; have q4 := cell_of hS 4 (.int .u16 p.l) rfl; have q5 := cell_of hS 5 (.slice A nL c) rfl; unfold bareO; go_simp) HS (fun inv => ?_)
        try simp only [Act.put, List.setIfInBounds_toArray, List.set_cons_zero, List.set_cons_succ]
        refine FirstH.only (i := 3) (by kernel_rfl) (by decide) inv (fun inv => wpOp_call (i := 3) rfl rfl 21 rfl (Op.call { callee := Callee.value (.func 24), args := #[Operand.tmp 20], argTypes := #[68] }) rfl 24 #[.agg #[.int .u8 p.n, .int .u16 p.l]] (by unfold bareO; go_simp) (proc2 p u2) ?_)
        rintro e u3 ⟨rfl, b⟩
        have N3 := Lib.hid (N2.out.below b)
        have BB3 := Lib.hid (BB2.out.trans (b.mono BB2.out.size))
        have RX3 : Hid (u3.heap[kx]? = some (.cells #[.int .i64 kd, .int .i64 fr, .int .i64 co, .int .u8 p.n, .int .u16 p.l, .slice A nL c] 71 (0, 0))) := Lib.hid ((b.block kx (heap_lt RX2.out)).trans RX2.out)
        clear b
        have HS := RX3.out
        refine ⟨_, rfl, RX3.out, ?_⟩
        try simp only [Act.put, List.setIfInBounds_toArray, List.set_cons_zero, List.set_cons_succ]
        refine ⟨by kernel_rfl, ?_⟩
        simp only [List.drop_succ_cons, List.drop_zero]
        clear HS inv
        go_wp2_with fail
        refine (ackedZ _ _ N3.out p fr).mono ?_
        rintro e u4 ⟨rfl, b⟩
        have N4 := Lib.hid (N3.out.below b)
        have BB4 := Lib.hid (BB3.out.trans (b.mono BB3.out.size))
        have RX4 : Hid (u4.heap[kx]? = some (.cells #[.int .i64 kd, .int .i64 fr, .int .i64 co, .int .u8 p.n, .int .u16 p.l, .slice A nL c] 71 (0, 0))) := Lib.hid ((b.block kx (heap_lt RX3.out)).trans RX3.out)
        clear b
        go_wp2_with fail
        obtain ⟨u5, hu5⟩ : ∃ z, u4.drew = z := ⟨_, rfl⟩
        have N5 : Hid (NoR u5 po) := Lib.hid (hu5 ▸ N4.out.below (Below.refl _ _).drew)
        have BB5 : Hid (Below w3.heap.size w3 u5) := Lib.hid (hu5 ▸ BB4.out.drew)
        have RX5 : Hid (u5.heap[kx]? = some (.cells #[.int .i64 kd, .int .i64 fr, .int .i64 co, .int .u8 p.n, .int .u16 p.l, .slice A nL c] 71 (0, 0))) := Lib.hid (hu5 ▸ RX4.out)
        refine region_heldT (S := fun u => u.heap[kx]? = some (.cells #[.int .i64 kd, .int .i64 fr, .int .i64 co, .int .u8 p.n, .int .u16 p.l, .slice A nL c] 71 (0, 0))) 11 (by kernel_rfl) (by decide) (fun inv => ?_)
        have HS := RX5.out
        change FirstH _ _ _ _ _ _ _ _ _ _ u4.drew
        rw [hu5]
        clear hu5
        refine FirstH.go (i := 0) (v := .pointer po) rfl rfl 26 rfl (Op.move (Operand.tmp 3)) rfl (by kernel_rfl) (fun _ _ _ h => h) inv (fun W hS => by unfold bareO; go_simp) HS (fun inv => ?_)
        try simp only [Act.put, List.setIfInBounds_toArray, List.set_cons_zero, List.set_cons_succ]
        refine FirstH.go (i := 1) (v := .pointer (some ⟨kx, 3, none⟩)) rfl rfl 27 rfl (Op.fieldAddr 71 (Operand.tmp 1) 3) rfl (by kernel_rfl) (fun _ _ _ h => h) inv (fun W hS => by unfold bareO; go_simp) HS (fun inv => ?_)
        try simp only [Act.put, List.setIfInBounds_toArray, List.set_cons_zero, List.set_cons_succ]
        refine FirstH.go (i := 2) (v := .agg #[.int .u8 p.n, .int .u16 p.l]) rfl rfl 28 rfl (Op.load 68 (Operand.tmp 27)) rfl (by kernel_rfl) (fun _ _ _ h => h) inv (fun W hS => by have q1 := cell_of hS 1 (.int .i64 fr) rfl; have q2 := cell_of hS 2 (.int .i64 co) rfl; have q3 := cell_of hS 3 (.int .u8 p.n) rfl; have q4 := cell_of hS 4 (.int .u16 p.l) rfl; have q5 := cell_of hS 5 (.slice A nL c) rfl; unfold bareO; go_simp) HS (fun inv => ?_)
        try simp only [Act.put, List.setIfInBounds_toArray, List.set_cons_zero, List.set_cons_succ]
        refine FirstH.go (i := 4) (v := .pointer (some ⟨kx, 1, none⟩)) rfl rfl 30 rfl (Op.fieldAddr 71 (Operand.tmp 1) 1) rfl (by kernel_rfl) (fun _ _ _ h => h) inv (fun W hS => by unfold bareO; go_simp) HS (fun inv => ?_)
        try simp only [Act.put, List.setIfInBounds_toArray, List.set_cons_zero, List.set_cons_succ]
        refine FirstH.go (i := 5) (v := .int .i64 fr) rfl rfl 31 rfl (Op.load 3 (Operand.tmp 30)) rfl (by kernel_rfl) (fun _ _ _ h => h) inv (fun W hS => by have q1 := cell_of hS 1 (.int .i64 fr) rfl; have q2 := cell_of hS 2 (.int .i64 co) rfl; have q3 := cell_of hS 3 (.int .u8 p.n) rfl; have q4 := cell_of hS 4 (.int .u16 p.l) rfl; have q5 := cell_of hS 5 (.slice A nL c) rfl; unfold bareO; go_simp) HS (fun inv => ?_)
        try simp only [Act.put, List.setIfInBounds_toArray, List.set_cons_zero, List.set_cons_succ]
        refine FirstH.only (i := 3) (by kernel_rfl) (by decide) inv (fun inv => wpOp_call (i := 3) rfl rfl 29 rfl (Op.call { callee := Callee.value (.func 24), args := #[Operand.tmp 28], argTypes := #[68] }) rfl 24 #[.agg #[.int .u8 p.n, .int .u16 p.l]] (by unfold bareO; go_simp) (proc2 p u5) ?_)
        rintro e u6 ⟨rfl, b⟩
        have N6 := Lib.hid (N5.out.below b)
        have BB6 := Lib.hid (BB5.out.trans (b.mono BB5.out.size))
        have RX6 : Hid (u6.heap[kx]? = some (.cells #[.int .i64 kd, .int .i64 fr, .int .i64 co, .int .u8 p.n, .int .u16 p.l, .slice A nL c] 71 (0, 0))) := Lib.hid ((b.block kx (heap_lt RX5.out)).trans RX5.out)
        clear b
        have HS := RX6.out
        refine ⟨_, rfl, RX6.out, ?_⟩
        try simp only [Act.put, List.setIfInBounds_toArray, List.set_cons_zero, List.set_cons_succ]
        refine FirstH.only (i := 6) (by kernel_rfl) (by decide) inv (fun inv => wpOp_call (i := 6) rfl rfl 32 rfl (Op.call { callee := Callee.value (.func 25), args := #[Operand.tmp 26, Operand.tmp 29, Operand.tmp 31], argTypes := #[36, 49, 3] }) rfl 25 #[.pointer po, .agg #[.int .u8 p.n, .int .u16 p.l], .int .i64 fr] (by unfold bareO; go_simp) (sinceZ u6 po N6.out p fr) ?_)
        rintro e u7 ⟨rfl, b⟩
        have N7 := Lib.hid (N6.out.below b)
        have BB7 := Lib.hid (BB6.out.trans (b.mono BB6.out.size))
        have RX7 : Hid (u7.heap[kx]? = some (.cells #[.int .i64 kd, .int .i64 fr, .int .i64 co, .int .u8 p.n, .int .u16 p.l, .slice A nL c] 71 (0, 0))) := Lib.hid ((b.block kx (heap_lt RX6.out)).trans RX6.out)
        clear b
        have HS := RX7.out
        refine ⟨_, rfl, RX7.out, ?_⟩
        try simp only [Act.put, List.setIfInBounds_toArray, List.set_cons_zero, List.set_cons_succ]
        refine FirstH.go (i := 7) (v := .tuple #[.int .i64 0, .slice none 0 0]) rfl rfl 25 rfl (Op.move (Operand.tmp 32)) rfl (by kernel_rfl) (fun _ _ _ h => h) inv (fun W hS => by unfold bareO; go_simp) HS (fun inv => ?_)
        try simp only [Act.put, List.setIfInBounds_toArray, List.set_cons_zero, List.set_cons_succ]
        refine FirstH.go (i := 8) (v := .int .i64 0) rfl rfl 33 rfl (Op.extract (Operand.tmp 25) 0) rfl (by kernel_rfl) (fun _ _ _ h => h) inv (fun W hS => by unfold bareO; go_simp) HS (fun inv => ?_)
        try simp only [Act.put, List.setIfInBounds_toArray, List.set_cons_zero, List.set_cons_succ]
        refine FirstH.go (i := 9) (v := .slice none 0 0) rfl rfl 34 rfl (Op.extract (Operand.tmp 25) 1) rfl (by kernel_rfl) (fun _ _ _ h => h) inv (fun W hS => by unfold bareO; go_simp) HS (fun inv => ?_)
        try simp only [Act.put, List.setIfInBounds_toArray, List.set_cons_zero, List.set_cons_succ]
        refine FirstH.go (i := 10) (v := .int .i64 0) rfl rfl 5 rfl (Op.assign (Operand.tmp 33)) rfl (by kernel_rfl) (fun _ _ _ h => h) inv (fun W hS => by unfold bareO; go_simp) HS (fun inv => ?_)
        try simp only [Act.put, List.setIfInBounds_toArray, List.set_cons_zero, List.set_cons_succ]
        refine ⟨by kernel_rfl, ?_⟩
        simp only [List.drop_succ_cons, List.drop_zero]
        clear HS inv
        go_wp2_with fail
        obtain ⟨u8, hu8⟩ : ∃ z, u7.drew = z := ⟨_, rfl⟩
        have N8 : Hid (NoR u8 po) := Lib.hid (hu8 ▸ N7.out.below (Below.refl _ _).drew)
        have BB8 : Hid (Below w3.heap.size w3 u8) := Lib.hid (hu8 ▸ BB7.out.drew)
        have RX8 : Hid (u8.heap[kx]? = some (.cells #[.int .i64 kd, .int .i64 fr, .int .i64 co, .int .u8 p.n, .int .u16 p.l, .slice A nL c] 71 (0, 0))) := Lib.hid (hu8 ▸ RX7.out)
        refine region_heldT (S := fun u => u.heap[kx]? = some (.cells #[.int .i64 kd, .int .i64 fr, .int .i64 co, .int .u8 p.n, .int .u16 p.l, .slice A nL c] 71 (0, 0))) 45 (by kernel_rfl) (by decide) (fun inv => ?_)
        have HS := RX8.out
        change FirstH _ _ _ _ _ _ _ _ _ _ u7.drew
        rw [hu8]
        clear hu8
        refine FirstH.go (i := 0) (v := .pointer po) rfl rfl 35 rfl (Op.move (Operand.tmp 3)) rfl (by kernel_rfl) (fun _ _ _ h => h) inv (fun W hS => by unfold bareO; go_simp) HS (fun inv => ?_)
        try simp only [Act.put, List.setIfInBounds_toArray, List.set_cons_zero, List.set_cons_succ]
        refine FirstH.only (i := 1) (by kernel_rfl) (by decide) inv (fun inv => wpOp_call (i := 1) rfl rfl 36 rfl (Op.call { callee := Callee.value (.func 18), args := #[Operand.const (Value.int IntKind.i64 1)], argTypes := #[3] }) rfl 18 #[.int .i64 1] (by unfold bareO; go_simp) (killC 1 (by omega) u8) ?_)
        rintro e u9 ⟨rfl, b⟩
        have N9 := Lib.hid (N8.out.below b)
        have BB9 := Lib.hid (BB8.out.trans (b.mono BB8.out.size))
        have RX9 : Hid (u9.heap[kx]? = some (.cells #[.int .i64 kd, .int .i64 fr, .int .i64 co, .int .u8 p.n, .int .u16 p.l, .slice A nL c] 71 (0, 0))) := Lib.hid ((b.block kx (heap_lt RX8.out)).trans RX8.out)
        clear b
        have HS := RX9.out
        refine ⟨_, rfl, RX9.out, ?_⟩
        try simp only [Act.put, List.setIfInBounds_toArray, List.set_cons_zero, List.set_cons_succ]
        refine FirstH.only (i := 2) (by kernel_rfl) (by decide) inv (fun inv => wpOp_call (i := 2) rfl rfl 37 rfl (Op.call { callee := Callee.value (.func 17), args := #[Operand.tmp 35, Operand.tmp 36], argTypes := #[36, 63] }) rfl 17 #[.pointer po, .agg (killE 1).cs] (by unfold bareO; go_simp) (addZ u9 po N9.out (killE 1)) ?_)
        rintro e u10 ⟨rfl, b⟩
        have N10 := Lib.hid (N9.out.below b)
        have BB10 := Lib.hid (BB9.out.trans (b.mono BB9.out.size))
        have RX10 : Hid (u10.heap[kx]? = some (.cells #[.int .i64 kd, .int .i64 fr, .int .i64 co, .int .u8 p.n, .int .u16 p.l, .slice A nL c] 71 (0, 0))) := Lib.hid ((b.block kx (heap_lt RX9.out)).trans RX9.out)
        clear b
        have HS := RX10.out
        refine ⟨_, rfl, RX10.out, ?_⟩
        try simp only [Act.put, List.setIfInBounds_toArray, List.set_cons_zero, List.set_cons_succ]
        refine FirstH.only (i := 3) (by kernel_rfl) (by decide) inv (fun inv => wpOp_call (i := 3) rfl rfl 38 rfl (Op.call { callee := Callee.value (.func 19), args := #[Operand.tmp 37], argTypes := #[51] }) rfl 19 #[.int .i64 1] (by unfold bareO; go_simp) ((numC 1 u10).mono fun e w' h => (⟨h.1, h.2 ▸ Below.refl _ _⟩ : _ ∧ Below u10.heap.size u10 w')) ?_)
        rintro e u11 ⟨rfl, b⟩
        have N11 := Lib.hid (N10.out.below b)
        have BB11 := Lib.hid (BB10.out.trans (b.mono BB10.out.size))
        have RX11 : Hid (u11.heap[kx]? = some (.cells #[.int .i64 kd, .int .i64 fr, .int .i64 co, .int .u8 p.n, .int .u16 p.l, .slice A nL c] 71 (0, 0))) := Lib.hid ((b.block kx (heap_lt RX10.out)).trans RX10.out)
        clear b
        have HS := RX11.out
        refine ⟨_, rfl, RX11.out, ?_⟩
        try simp only [Act.put, List.setIfInBounds_toArray, List.set_cons_zero, List.set_cons_succ]
        refine FirstH.go (i := 4) (v := .bool false) rfl rfl 39 rfl (Op.binOp BinOp.neq 3 (Operand.tmp 38) (Operand.const (Value.int IntKind.i64 1)) 3) rfl (by kernel_rfl) (fun _ _ _ h => h) inv (fun W hS => by unfold bareO; go_simp) HS (fun inv => ?_)
        try simp only [Act.put, List.setIfInBounds_toArray, List.set_cons_zero, List.set_cons_succ]
        refine FirstH.go (i := 5) (v := .bool false) rfl rfl 40 rfl (Op.move (Operand.tmp 39)) rfl (by kernel_rfl) (fun _ _ _ h => h) inv (fun W hS => by unfold bareO; go_simp) HS (fun inv => ?_)
        try simp only [Act.put, List.setIfInBounds_toArray, List.set_cons_zero, List.set_cons_succ]
        refine FirstH.goG (i := 6) (v := .pointer po) rfl (by rfl) 41 rfl (Op.move (Operand.tmp 3)) rfl (by kernel_rfl) (fun _ _ _ h => h) inv (fun W hS => by unfold bareO; go_simp) HS (fun inv => ?_)
        try simp only [Act.put, List.setIfInBounds_toArray, List.set_cons_zero, List.set_cons_succ]
        refine FirstH.goG (i := 7) (v := .pointer (some ⟨kx, 1, none⟩)) rfl (by rfl) 42 rfl (Op.fieldAddr 71 (Operand.tmp 1) 1) rfl (by kernel_rfl) (fun _ _ _ h => h) inv (fun W hS => by unfold bareO; go_simp) HS (fun inv => ?_)
        try simp only [Act.put, List.setIfInBounds_toArray, List.set_cons_zero, List.set_cons_succ]
        refine FirstH.goG (i := 8) (v := .int .i64 fr) rfl (by rfl) 43 rfl (Op.load 3 (Operand.tmp 42)) rfl (by kernel_rfl) (fun _ _ _ h => h) inv (fun W hS => by have q1 := cell_of hS 1 (.int .i64 fr) rfl; have q2 := cell_of hS 2 (.int .i64 co) rfl; have q3 := cell_of hS 3 (.int .u8 p.n) rfl; have q4 := cell_of hS 4 (.int .u16 p.l) rfl; have q5 := cell_of hS 5 (.slice A nL c) rfl; unfold bareO; go_simp) HS (fun inv => ?_)
        try simp only [Act.put, List.setIfInBounds_toArray, List.set_cons_zero, List.set_cons_succ]
        refine FirstH.goG (i := 9) (v := .pointer (some ⟨kx, 5, none⟩)) rfl (by rfl) 44 rfl (Op.fieldAddr 71 (Operand.tmp 1) 4) rfl (by kernel_rfl) (fun _ _ _ h => h) inv (fun W hS => by unfold bareO; go_simp) HS (fun inv => ?_)
        try simp only [Act.put, List.setIfInBounds_toArray, List.set_cons_zero, List.set_cons_succ]
        refine FirstH.goG (i := 10) (v := .slice A nL c) rfl (by rfl) 45 rfl (Op.load 69 (Operand.tmp 44)) rfl (by kernel_rfl) (fun _ _ _ h => h) inv (fun W hS => by have q1 := cell_of hS 1 (.int .i64 fr) rfl; have q2 := cell_of hS 2 (.int .i64 co) rfl; have q3 := cell_of hS 3 (.int .u8 p.n) rfl; have q4 := cell_of hS 4 (.int .u16 p.l) rfl; have q5 := cell_of hS 5 (.slice A nL c) rfl; unfold bareO; go_simp) HS (fun inv => ?_)
        try simp only [Act.put, List.setIfInBounds_toArray, List.set_cons_zero, List.set_cons_succ]
        refine FirstH.goG (i := 12) (v := .pointer (some ⟨kx, 2, none⟩)) rfl (by rfl) 47 rfl (Op.fieldAddr 71 (Operand.tmp 1) 2) rfl (by kernel_rfl) (fun _ _ _ h => h) inv (fun W hS => by unfold bareO; go_simp) HS (fun inv => ?_)
        try simp only [Act.put, List.setIfInBounds_toArray, List.set_cons_zero, List.set_cons_succ]
        refine FirstH.goG (i := 13) (v := .int .i64 co) rfl (by rfl) 48 rfl (Op.load 3 (Operand.tmp 47)) rfl (by kernel_rfl) (fun _ _ _ h => h) inv (fun W hS => by have q1 := cell_of hS 1 (.int .i64 fr) rfl; have q2 := cell_of hS 2 (.int .i64 co) rfl; have q3 := cell_of hS 3 (.int .u8 p.n) rfl; have q4 := cell_of hS 4 (.int .u16 p.l) rfl; have q5 := cell_of hS 5 (.slice A nL c) rfl; unfold bareO; go_simp) HS (fun inv => ?_)
        try simp only [Act.put, List.setIfInBounds_toArray, List.set_cons_zero, List.set_cons_succ]
        refine FirstH.only (i := 11) (by kernel_rfl) (by decide) inv (fun inv => wpOp_callG (i := 11) rfl (by rfl) 46 rfl (Op.call { callee := Callee.value (.func 26), args := #[Operand.tmp 45], argTypes := #[69] }) rfl 26 #[.slice A nL c] (by unfold bareO; go_simp) (KOW.out u11 BB11.out) ?_)
        rintro e u12 ⟨v, rfl, b⟩
        have N12 := Lib.hid (N11.out.below b)
        have BB12 := Lib.hid (BB11.out.trans (b.mono BB11.out.size))
        have RX12 : Hid (u12.heap[kx]? = some (.cells #[.int .i64 kd, .int .i64 fr, .int .i64 co, .int .u8 p.n, .int .u16 p.l, .slice A nL c] 71 (0, 0))) := Lib.hid ((b.block kx (heap_lt RX11.out)).trans RX11.out)
        clear b
        have HS := RX12.out
        refine ⟨_, rfl, RX12.out, ?_⟩
        try simp only [Act.put, List.setIfInBounds_toArray, List.set_cons_zero, List.set_cons_succ]
        refine FirstH.only (i := 14) (by kernel_rfl) (by decide) inv (fun inv => wpOp_callG (i := 14) rfl (by rfl) 49 rfl (Op.call { callee := Callee.value (.func 20), args := #[Operand.tmp 41, Operand.tmp 43, Operand.tmp 46, Operand.tmp 48], argTypes := #[36, 3, 37, 3] }) rfl 20 #[.pointer po, .int .i64 fr, v, .int .i64 co] (by unfold bareO; go_simp) (takeZ u12 po N12.out fr co v) ?_)
        rintro e u13 ⟨rfl, b⟩
        have N13 := Lib.hid (N12.out.below b)
        have BB13 := Lib.hid (BB12.out.trans (b.mono BB12.out.size))
        have RX13 : Hid (u13.heap[kx]? = some (.cells #[.int .i64 kd, .int .i64 fr, .int .i64 co, .int .u8 p.n, .int .u16 p.l, .slice A nL c] 71 (0, 0))) := Lib.hid ((b.block kx (heap_lt RX12.out)).trans RX12.out)
        clear b
        have HS := RX13.out
        refine ⟨_, rfl, RX13.out, ?_⟩
        try simp only [Act.put, List.setIfInBounds_toArray, List.set_cons_zero, List.set_cons_succ]
        refine FirstH.go (i := 15) (v := .bool false) rfl rfl 50 rfl (Op.pick (Operand.tmp 40) (Operand.const (Value.bool true)) (Operand.tmp 49)) rfl (by kernel_rfl) (fun _ _ _ h => h) inv (fun W hS => by unfold bareO; go_simp) HS (fun inv => ?_)
        try simp only [Act.put, List.setIfInBounds_toArray, List.set_cons_zero, List.set_cons_succ]
        refine FirstH.go (i := 16) (v := .bool false) rfl rfl 51 rfl (Op.move (Operand.tmp 50)) rfl (by kernel_rfl) (fun _ _ _ h => h) inv (fun W hS => by unfold bareO; go_simp) HS (fun inv => ?_)
        try simp only [Act.put, List.setIfInBounds_toArray, List.set_cons_zero, List.set_cons_succ]
        refine FirstH.goG (i := 17) (v := .int .i64 0) rfl (by rfl) 52 rfl (Op.move (Operand.tmp 5)) rfl (by kernel_rfl) (fun _ _ _ h => h) inv (fun W hS => by unfold bareO; go_simp) HS (fun inv => ?_)
        try simp only [Act.put, List.setIfInBounds_toArray, List.set_cons_zero, List.set_cons_succ]
        refine FirstH.goG (i := 18) (v := .bool false) rfl (by rfl) 53 rfl (Op.binOp BinOp.neq 3 (Operand.tmp 52) (Operand.const (Value.int IntKind.i64 0)) 3) rfl (by kernel_rfl) (fun _ _ _ h => h) inv (fun W hS => by unfold bareO; go_simp) HS (fun inv => ?_)
        try simp only [Act.put, List.setIfInBounds_toArray, List.set_cons_zero, List.set_cons_succ]
        refine FirstH.go (i := 19) (v := .bool false) rfl rfl 54 rfl (Op.pick (Operand.tmp 51) (Operand.const (Value.bool true)) (Operand.tmp 53)) rfl (by kernel_rfl) (fun _ _ _ h => h) inv (fun W hS => by unfold bareO; go_simp) HS (fun inv => ?_)
        try simp only [Act.put, List.setIfInBounds_toArray, List.set_cons_zero, List.set_cons_succ]
        refine FirstH.go (i := 20) (v := .bool false) rfl rfl 55 rfl (Op.move (Operand.tmp 54)) rfl (by kernel_rfl) (fun _ _ _ h => h) inv (fun W hS => by unfold bareO; go_simp) HS (fun inv => ?_)
        try simp only [Act.put, List.setIfInBounds_toArray, List.set_cons_zero, List.set_cons_succ]
        refine FirstH.goG (i := 21) (v := .slice none 0 0) rfl (by rfl) 56 rfl (Op.move (Operand.tmp 6)) rfl (by kernel_rfl) (fun _ _ _ h => h) inv (fun W hS => by unfold bareO; go_simp) HS (fun inv => ?_)
        try simp only [Act.put, List.setIfInBounds_toArray, List.set_cons_zero, List.set_cons_succ]
        refine FirstH.goG (i := 23) (v := .pointer po) rfl (by rfl) 58 rfl (Op.move (Operand.tmp 3)) rfl (by kernel_rfl) (fun _ _ _ h => h) inv (fun W hS => by unfold bareO; go_simp) HS (fun inv => ?_)
        try simp only [Act.put, List.setIfInBounds_toArray, List.set_cons_zero, List.set_cons_succ]
        refine FirstH.goG (i := 27) (v := .pointer po) rfl (by rfl) 62 rfl (Op.move (Operand.tmp 3)) rfl (by kernel_rfl) (fun _ _ _ h => h) inv (fun W hS => by unfold bareO; go_simp) HS (fun inv => ?_)
        try simp only [Act.put, List.setIfInBounds_toArray, List.set_cons_zero, List.set_cons_succ]
        refine FirstH.goG (i := 31) (v := .pointer po) rfl (by rfl) 66 rfl (Op.move (Operand.tmp 3)) rfl (by kernel_rfl) (fun _ _ _ h => h) inv (fun W hS => by unfold bareO; go_simp) HS (fun inv => ?_)
        try simp only [Act.put, List.setIfInBounds_toArray, List.set_cons_zero, List.set_cons_succ]
        refine FirstH.goG (i := 34) (v := .pointer po) rfl (by rfl) 69 rfl (Op.move (Operand.tmp 3)) rfl (by kernel_rfl) (fun _ _ _ h => h) inv (fun W hS => by unfold bareO; go_simp) HS (fun inv => ?_)
        try simp only [Act.put, List.setIfInBounds_toArray, List.set_cons_zero, List.set_cons_succ]
        refine FirstH.goG (i := 37) (v := .pointer po) rfl (by rfl) 72 rfl (Op.move (Operand.tmp 3)) rfl (by kernel_rfl) (fun _ _ _ h => h) inv (fun W hS => by unfold bareO; go_simp) HS (fun inv => ?_)
        try simp only [Act.put, List.setIfInBounds_toArray, List.set_cons_zero, List.set_cons_succ]
        refine FirstH.goG (i := 22) (v := .int .i64 0) rfl (by rfl) 57 rfl (Op.call { callee := Callee.builtin Builtin.len, args := #[Operand.tmp 56], argTypes := #[37] }) rfl (by kernel_rfl) (fun _ _ _ h => h) inv (fun W hS => by unfold bareO; go_simp) HS (fun inv => ?_)
        try simp only [Act.put, List.setIfInBounds_toArray, List.set_cons_zero, List.set_cons_succ]
        refine FirstH.only (i := 24) (by kernel_rfl) (by decide) inv (fun inv => wpOp_callG (i := 24) rfl (by rfl) 59 rfl (Op.call { callee := Callee.value (.func 27), args := #[Operand.tmp 58], argTypes := #[36] }) rfl 27 #[.pointer po] (by unfold bareO; go_simp) (logZ u13 po N13.out) ?_)
        rintro e u14 ⟨rfl, b⟩
        have N14 := Lib.hid (N13.out.below b)
        have BB14 := Lib.hid (BB13.out.trans (b.mono BB13.out.size))
        have RX14 : Hid (u14.heap[kx]? = some (.cells #[.int .i64 kd, .int .i64 fr, .int .i64 co, .int .u8 p.n, .int .u16 p.l, .slice A nL c] 71 (0, 0))) := Lib.hid ((b.block kx (heap_lt RX13.out)).trans RX13.out)
        clear b
        have HS := RX14.out
        refine ⟨_, rfl, RX14.out, ?_⟩
        try simp only [Act.put, List.setIfInBounds_toArray, List.set_cons_zero, List.set_cons_succ]
        refine FirstH.goG (i := 25) (v := .int .i64 0) rfl (by rfl) 60 rfl (Op.call { callee := Callee.builtin Builtin.len, args := #[Operand.tmp 59], argTypes := #[37] }) rfl (by kernel_rfl) (fun _ _ _ h => h) inv (fun W hS => by unfold bareO; go_simp) HS (fun inv => ?_)
        try simp only [Act.put, List.setIfInBounds_toArray, List.set_cons_zero, List.set_cons_succ]
        refine FirstH.goG (i := 26) (v := .int .i64 0) rfl (by rfl) 61 rfl (Op.binOp BinOp.add 3 (Operand.tmp 57) (Operand.tmp 60) 3) rfl (by kernel_rfl) (fun _ _ _ h => h) inv (fun W hS => by unfold bareO; go_simp; try (first | rfl | decide | kernel_rfl)) HS (fun inv => ?_)
        try simp only [Act.put, List.setIfInBounds_toArray, List.set_cons_zero, List.set_cons_succ]
        refine FirstH.only (i := 28) (by kernel_rfl) (by decide) inv (fun inv => wpOp_callG (i := 28) rfl (by rfl) 63 rfl (Op.call { callee := Callee.value (.func 12), args := #[Operand.tmp 62], argTypes := #[36] }) rfl 12 #[.pointer po] (by unfold bareO; go_simp) (tailZ u14 po N14.out) ?_)
        rintro e u15 ⟨rfl, b⟩
        have N15 := Lib.hid (N14.out.below b)
        have BB15 := Lib.hid (BB14.out.trans (b.mono BB14.out.size))
        have RX15 : Hid (u15.heap[kx]? = some (.cells #[.int .i64 kd, .int .i64 fr, .int .i64 co, .int .u8 p.n, .int .u16 p.l, .slice A nL c] 71 (0, 0))) := Lib.hid ((b.block kx (heap_lt RX14.out)).trans RX14.out)
        clear b
        have HS := RX15.out
        refine ⟨_, rfl, RX15.out, ?_⟩
        try simp only [Act.put, List.setIfInBounds_toArray, List.set_cons_zero, List.set_cons_succ]
        refine FirstH.goG (i := 29) (v := .int .i64 0) rfl (by rfl) 64 rfl (Op.call { callee := Callee.builtin Builtin.len, args := #[Operand.tmp 63], argTypes := #[37] }) rfl (by kernel_rfl) (fun _ _ _ h => h) inv (fun W hS => by unfold bareO; go_simp) HS (fun inv => ?_)
        try simp only [Act.put, List.setIfInBounds_toArray, List.set_cons_zero, List.set_cons_succ]
        refine FirstH.goG (i := 30) (v := .int .i64 0) rfl (by rfl) 65 rfl (Op.binOp BinOp.add 3 (Operand.tmp 61) (Operand.tmp 64) 3) rfl (by kernel_rfl) (fun _ _ _ h => h) inv (fun W hS => by unfold bareO; go_simp; try (first | rfl | decide | kernel_rfl)) HS (fun inv => ?_)
        try simp only [Act.put, List.setIfInBounds_toArray, List.set_cons_zero, List.set_cons_succ]
        refine FirstH.only (i := 32) (by kernel_rfl) (by decide) inv (fun inv => wpOp_callG (i := 32) rfl (by rfl) 67 rfl (Op.call { callee := Callee.value (.func 21), args := #[Operand.tmp 66], argTypes := #[36] }) rfl 21 #[.pointer po] (by unfold bareO; go_simp) (lenZ u15 po N15.out) ?_)
        rintro e u16 ⟨rfl, b⟩
        have N16 := Lib.hid (N15.out.below b)
        have BB16 := Lib.hid (BB15.out.trans (b.mono BB15.out.size))
        have RX16 : Hid (u16.heap[kx]? = some (.cells #[.int .i64 kd, .int .i64 fr, .int .i64 co, .int .u8 p.n, .int .u16 p.l, .slice A nL c] 71 (0, 0))) := Lib.hid ((b.block kx (heap_lt RX15.out)).trans RX15.out)
        clear b
        have HS := RX16.out
        refine ⟨_, rfl, RX16.out, ?_⟩
        try simp only [Act.put, List.setIfInBounds_toArray, List.set_cons_zero, List.set_cons_succ]
        refine FirstH.goG (i := 33) (v := .int .i64 0) rfl (by rfl) 68 rfl (Op.binOp BinOp.add 3 (Operand.tmp 65) (Operand.tmp 67) 3) rfl (by kernel_rfl) (fun _ _ _ h => h) inv (fun W hS => by unfold bareO; go_simp; try (first | rfl | decide | kernel_rfl)) HS (fun inv => ?_)
        try simp only [Act.put, List.setIfInBounds_toArray, List.set_cons_zero, List.set_cons_succ]
        refine FirstH.only (i := 35) (by kernel_rfl) (by decide) inv (fun inv => wpOp_callG (i := 35) rfl (by rfl) 70 rfl (Op.call { callee := Callee.value (.func 28), args := #[Operand.tmp 69], argTypes := #[36] }) rfl 28 #[.pointer po] (by unfold bareO; go_simp) (baseZ u16 po N16.out) ?_)
        rintro e u17 ⟨rfl, b⟩
        have N17 := Lib.hid (N16.out.below b)
        have BB17 := Lib.hid (BB16.out.trans (b.mono BB16.out.size))
        have RX17 : Hid (u17.heap[kx]? = some (.cells #[.int .i64 kd, .int .i64 fr, .int .i64 co, .int .u8 p.n, .int .u16 p.l, .slice A nL c] 71 (0, 0))) := Lib.hid ((b.block kx (heap_lt RX16.out)).trans RX16.out)
        clear b
        have HS := RX17.out
        refine ⟨_, rfl, RX17.out, ?_⟩
        try simp only [Act.put, List.setIfInBounds_toArray, List.set_cons_zero, List.set_cons_succ]
        refine FirstH.goG (i := 36) (v := .int .i64 0) rfl (by rfl) 71 rfl (Op.binOp BinOp.add 3 (Operand.tmp 68) (Operand.tmp 70) 3) rfl (by kernel_rfl) (fun _ _ _ h => h) inv (fun W hS => by unfold bareO; go_simp; try (first | rfl | decide | kernel_rfl)) HS (fun inv => ?_)
        try simp only [Act.put, List.setIfInBounds_toArray, List.set_cons_zero, List.set_cons_succ]
        refine FirstH.only (i := 38) (by kernel_rfl) (by decide) inv (fun inv => wpOp_callG (i := 38) rfl (by rfl) 73 rfl (Op.call { callee := Callee.value (.func 13), args := #[Operand.tmp 72], argTypes := #[36] }) rfl 13 #[.pointer po] (by unfold bareO; go_simp) (commitZ u17 po N17.out) ?_)
        rintro e u18 ⟨rfl, b⟩
        have N18 := Lib.hid (N17.out.below b)
        have BB18 := Lib.hid (BB17.out.trans (b.mono BB17.out.size))
        have RX18 : Hid (u18.heap[kx]? = some (.cells #[.int .i64 kd, .int .i64 fr, .int .i64 co, .int .u8 p.n, .int .u16 p.l, .slice A nL c] 71 (0, 0))) := Lib.hid ((b.block kx (heap_lt RX17.out)).trans RX17.out)
        clear b
        have HS := RX18.out
        refine ⟨_, rfl, RX18.out, ?_⟩
        try simp only [Act.put, List.setIfInBounds_toArray, List.set_cons_zero, List.set_cons_succ]
        refine FirstH.goG (i := 39) (v := .int .i64 0) rfl (by rfl) 74 rfl (Op.binOp BinOp.add 3 (Operand.tmp 71) (Operand.tmp 73) 3) rfl (by kernel_rfl) (fun _ _ _ h => h) inv (fun W hS => by unfold bareO; go_simp; try (first | rfl | decide | kernel_rfl)) HS (fun inv => ?_)
        try simp only [Act.put, List.setIfInBounds_toArray, List.set_cons_zero, List.set_cons_succ]
        refine FirstH.goG (i := 40) (v := .bool false) rfl (by rfl) 75 rfl (Op.binOp BinOp.neq 3 (Operand.tmp 74) (Operand.const (Value.int IntKind.i64 0)) 3) rfl (by kernel_rfl) (fun _ _ _ h => h) inv (fun W hS => by unfold bareO; go_simp) HS (fun inv => ?_)
        try simp only [Act.put, List.setIfInBounds_toArray, List.set_cons_zero, List.set_cons_succ]
        refine FirstH.go (i := 41) (v := .bool false) rfl rfl 76 rfl (Op.pick (Operand.tmp 55) (Operand.const (Value.bool true)) (Operand.tmp 75)) rfl (by kernel_rfl) (fun _ _ _ h => h) inv (fun W hS => by unfold bareO; go_simp) HS (fun inv => ?_)
        try simp only [Act.put, List.setIfInBounds_toArray, List.set_cons_zero, List.set_cons_succ]
        refine FirstH.go (i := 42) (v := .bool false) rfl rfl 77 rfl (Op.move (Operand.tmp 76)) rfl (by kernel_rfl) (fun _ _ _ h => h) inv (fun W hS => by unfold bareO; go_simp) HS (fun inv => ?_)
        try simp only [Act.put, List.setIfInBounds_toArray, List.set_cons_zero, List.set_cons_succ]
        refine FirstH.goG (i := 43) (v := .pointer po) rfl (by rfl) 78 rfl (Op.move (Operand.tmp 3)) rfl (by kernel_rfl) (fun _ _ _ h => h) inv (fun W hS => by unfold bareO; go_simp) HS (fun inv => ?_)
        try simp only [Act.put, List.setIfInBounds_toArray, List.set_cons_zero, List.set_cons_succ]
        refine FirstH.only (i := 44) (by kernel_rfl) (by decide) inv (fun inv => wpOp_callG (i := 44) rfl (by rfl) 79 rfl (Op.call { callee := Callee.value (.func 29), args := #[Operand.tmp 78], argTypes := #[36] }) rfl 29 #[.pointer po] (by unfold bareO; go_simp) (openZ u18 po N18.out) ?_)
        rintro e u19 ⟨rfl, b⟩
        have N19 := Lib.hid (N18.out.below b)
        have BB19 := Lib.hid (BB18.out.trans (b.mono BB18.out.size))
        have RX19 : Hid (u19.heap[kx]? = some (.cells #[.int .i64 kd, .int .i64 fr, .int .i64 co, .int .u8 p.n, .int .u16 p.l, .slice A nL c] 71 (0, 0))) := Lib.hid ((b.block kx (heap_lt RX18.out)).trans RX18.out)
        clear b
        have HS := RX19.out
        refine ⟨_, rfl, RX19.out, ?_⟩
        try simp only [Act.put, List.setIfInBounds_toArray, List.set_cons_zero, List.set_cons_succ]
        refine ⟨by kernel_rfl, ?_⟩
        simp only [List.drop_succ_cons, List.drop_zero]
        clear HS inv
        have NEW : Hid (NoR (u19.alloc (.cells #[.int .u8 0, .int .u32 0, .slice none 0 0, .int .u8 0, .int .u16 0, .slice none 0 0, .int .i64 0, .int .i64 0, .bool false, .map none] 81)) (some ⟨u19.heap.size, 0, none⟩) ∧ Below w3.heap.size w3 (u19.alloc (.cells #[.int .u8 0, .int .u32 0, .slice none 0 0, .int .u8 0, .int .u16 0, .slice none 0 0, .int .i64 0, .int .i64 0, .bool false, .map none] 81))) := Lib.hid ⟨.inr ⟨_, rfl, heap_alloc_new _ _⟩, BB19.out.alloc BB19.out.size _⟩
        go_wp2_with fail
        go_roundw
        case rel => exact ⟨k + 1, by have := HK2.out; omega, by have := HK2.out; go_num, _, rfl, Lib.hid NEW.out.1, Lib.hid NEW.out.2⟩
        case measure => have := HK2.out; simp [intOf]; omega
      · obtain rfl : k = 2 := by omega
        go_wp2_with fail
        refine (KK.out _).mono ?_
        rintro e w4 ⟨rfl, b4⟩
        have B4 := Lib.hid (B3.out.trans ((BB0.out.trans (b4.mono BB0.out.size)).mono B3.out.size))
        clear b4
        go_wp2_with fail
        go_ret
        exact ⟨rfl, B4.out⟩

end Go.Proofs.Ytjdmjiikpnlkjaa
