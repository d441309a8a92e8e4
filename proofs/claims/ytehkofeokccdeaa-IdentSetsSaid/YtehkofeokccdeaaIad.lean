/-
  The document's Set: Add, by a contract. Condition: its list is a row that its own calls made.
-/
import Derived.Test.YtehkofeokccdeaaIrem
import Derived.Test.YtehkofeokccdeaaTlh
import Derived.Test.YtehkofeokccdeaaOrk
import Derived.Test.YtehkofeokccdeaaRgt
import Derived.OwnWalk
import Derived.Laws.OwnMore
namespace Go.Proofs.Ytehkofeokccdeaa
set_option linter.unusedSimpArgs false
set_option linter.unusedVariables false
open Go.RowKit

/-- what an append reads: nil, or a list that lies in memory. -/
def SrcI (W : World) (sv : Value) (X : List I10) : Prop := (sv = .slice none 0 0 ∧ X = []) ∨ ∃ ad c, sv = .slice (some ad) X.length c ∧ RowsI W W.heap.size (some ad) X
theorem SrcI.below {W W' : World} {sv : Value} {X : List I10} (h : SrcI W sv X) (hb : Below W.heap.size W W') : SrcI W' sv X := by
  rcases h with h | ⟨ad, c, e, hr⟩
  · exact .inl h
  · exact .inr ⟨ad, c, e, hr.below hb (Nat.le_refl _) hb.size⟩

/-- an operation without its place. -/
def bareO (p : Op) (t : TypeId) : Oper := { dst := none, op := p, type := t, pos := "", after := #[], guard := none }
theorem execOp_bare {o : Oper} {p : Op} (ho : o.op = p) {ρ : Operand → Value} : execOp ρ (bareO p o.type) = execOp ρ o := by
  subst ho
  rfl

theorem wpOp_app {w : World} {ops : Array Oper} {o : Oper} {i : Nat} {a : Act} {K : Act → World → Prop} {Q : Exit → Act → World → Prop} (hi : ops[i]? = some o) (hgd : o.guard = none) (d : Tmp) (hd : o.dst = some d) (s xo : Operand)
    (ho : o.op = .call { callee := .builtin .append, args := #[s, xo], argTypes := #[27, 27] })
    (base : Nat) (v : Value) (n : Nat) (xs : List Value) (hs : a.eval s = v) (hown : w.ownsRow base 38 10 v n xs)
    (sv : Value) (X : List I10) (hx : a.eval xo = sv) (hr : SrcI w sv X)
    (hlen : (n + X.length) * 16 ≤ 140737488355328) (hbase : base ≤ w.heap.size)
    (h : ∀ v' w', w'.ownsRow base 38 10 v' (n + X.length) (xs ++ cellsI X) → w.grownBy w' v.ownBlock → K (a.put (some d) v') w') : wpOp Try.prog ops Q i K a w := by
  rw [← hd] at h
  unfold wpOp
  simp only [hi]
  rw [if_pos (by simp [Region.wanted, hgd])]
  refine .inl ?_
  obtain ⟨i0, hi0, hz0, hz1, hz2⟩ := info_parts refid_info
  rcases hr with ⟨rfl, rfl⟩ | ⟨ad, c, rfl, hr⟩
  · have hrun := run_append_owned_none (P := Try.prog) (w := w) base 27 o.type 38 i0 10 Try.underlying27 hi0 v n xs hown
    unfold Oper.wp
    simp [execOp, ho, resolve, invoke, builtin, hs, hx, hrun, Result.andThen]
    exact h v w (by simpa [cellsI] using hown) (World.grownBy.refl _ _)
  · exact wp_append_own w s xo 27 ho base 38 i0 _ 10 16 Try.underlying27 hi0 hz0 hz1 hz2 rfl (by decide) v n xs hs hown ad X.length c (cellsI X) hx (cellsI_length X) (cells_of_rowsI hr) (cellsI_one X)
      (by unfold maxLen; omega) hlen hbase fun v' w' h2 h3 _ => h v' w' h2 h3

theorem wpOp_run {P : Program} {w w' : World} {ops : Array Oper} {o : Oper} {i : Nat} {a : Act} {K : Act → World → Prop} {Q : Exit → Act → World → Prop} {v : Value} (hi : ops[i]? = some o) (hgd : o.guard = none) (d : Tmp) (hd : o.dst = some d) (p : Op) (ho : o.op = p)
    (hr : (execOp a.eval (bareO p o.type)).run P w = .ok (.value v) w') (h : K (a.put (some d) v) w') : wpOp P ops Q i K a w := by
  rw [← hd] at h
  rw [execOp_bare ho] at hr
  unfold wpOp
  simp only [hi]
  rw [if_pos (by simp [Region.wanted, hgd])]
  refine .inl ?_
  unfold Oper.wp
  rw [hr]
  exact h

theorem run_slOp {P : Program} {w : World} {o : Oper} {a : Act} {sv xv : Value} {t : TypeId} {x : Operand} {lo hi : Option Operand} {lo' hi' : Option Value} (ho : o.op = .slice t x lo hi none) (hx : a.eval x = xv) (hlo : lo.map a.eval = lo') (hhi : hi.map a.eval = hi')
    (hr : (Instr.sliceAt t xv lo' hi' none).run P w = .ok sv w) : (execOp a.eval o).run P w = .ok (.value sv) w := by
  unfold execOp
  simp only [ho, hx, hlo, hhi, Option.map_none, Sem.run_bind, hr, Result.andThen_ok, Sem.run_pure]

/-- One operation of the first n that yields under S is taken now. -/
theorem FirstH.go {P : Program} {ops : Array Oper} {Q : Exit → Act → World → Prop} {S : World → Prop} {n i g f : Nat} {oi : Oper} {v : Value} {Lq : Act → World → Prop} {done : Array Bool} {a : Act} {w : World} (hi : ops[i]? = some oi) (hgd : oi.guard = none) (d : Tmp) (hd : oi.dst = some d) (p : Op) (ho : oi.op = p)
    (hB : (Region.noSelect ops && Region.sinkB .any ops n && Region.chainB .any ops n && decide (n < ops.size) && decide (i < n) && Region.free .any ops done i && (Region.ready .any ops done).contains i) = true)
    (hQ : ∀ c a w, Q (.panic c) (a.put (some d) v) w → Q (.panic c) a w) (inv : HeadInv .any ops n done) (hy : ∀ W, S W → (execOp a.eval (bareO p oi.type)).run P W = .ok (.value v) W) (hS : S w)
    (H : HeadInv .any ops n (done.setIfInBounds i true) → FirstH P .any ops Q S n (fun done' a' w' => Region.seqB .any ops g n done' = true ∧ Lq a' w') f (done.setIfInBounds i true) (a.put (some d) v) w) :
    FirstH P .any ops Q S n (fun done' a' w' => Region.seqB .any ops g n done' = true ∧ Lq a' w') (f + 1) done a w := by
  rw [← hd] at hQ H
  simp only [Bool.and_eq_true, decide_eq_true_eq] at hB
  obtain ⟨⟨⟨⟨⟨⟨h1, h2⟩, h3⟩, h4⟩, h5⟩, h6⟩, h7⟩ := hB
  exact FirstH.step hi h1 h6 h7 hQ h2 h3 h4 h5 (fun _ _ _ hL => seqB_ready hL.1) inv (Or.inl ⟨by simp [Region.wanted, hgd], fun W hW => by rw [← execOp_bare ho]; exact hy W hW⟩) hS H

/-- Two of the first n may come up. -/
theorem FirstH.two {P : Program} {ops : Array Oper} {Q : Exit → Act → World → Prop} {S : World → Prop} {n i j f : Nat} {L : Array Bool → Act → World → Prop} {done : Array Bool} {a : Act} {w : World} (hr : Region.ready .any ops done = [i, j]) (hi : i < n) (hj : j < n) (inv : HeadInv .any ops n done)
    (Hi : HeadInv .any ops n (done.setIfInBounds i true) → wpOp P ops Q i (fun a' w' => S w' ∧ FirstH P .any ops Q S n L f (done.setIfInBounds i true) a' w') a w)
    (Hj : HeadInv .any ops n (done.setIfInBounds j true) → wpOp P ops Q j (fun a' w' => S w' ∧ FirstH P .any ops Q S n L f (done.setIfInBounds j true) a' w') a w) : FirstH P .any ops Q S n L (f + 1) done a w :=
  ⟨by rw [hr]; simp, fun k hk => by
    have hk' := hk
    rw [hr] at hk
    rcases (by simpa using hk : k = i ∨ k = j) with rfl | rfl
    · exact ⟨hi, Hi (inv.set hk' hi)⟩
    · exact ⟨hj, Hj (inv.set hk' hj)⟩⟩

/-- the two reslicings of a list that the Set owns. -/
theorem slTo {W0 : World} {base : Nat} {v : Value} {X : List I10} (O : W0.ownsRow base 38 10 v X.length (cellsI X)) (k : Nat) (hk : k ≤ X.length) :
    ∃ sv, (∀ w, (Instr.sliceAt 27 v none (some (.int .i64 (k : Int))) none).run Try.prog w = .ok sv w) ∧ SrcI W0 sv (X.take k) := by
  have O' := O
  rcases O.2 with ⟨rfl, hn⟩ | ⟨g, cap, cur, rfl, hb, hg, hnc, hcm, hcs, ht⟩
  · have : X = [] := List.eq_nil_of_length_eq_zero hn
    subst this
    obtain rfl : k = 0 := by simpa using hk
    exact ⟨.slice none 0 0, fun w => by kernel_rfl, .inl ⟨rfl, rfl⟩⟩
  · refine ⟨.slice (some ⟨g, 0, none⟩) k cap, fun w => ?_, .inr ⟨⟨g, 0, none⟩, cap, by rw [List.length_take, Nat.min_eq_left hk], ?_⟩⟩
    · unfold maxLen at hcm
      have h1 : (0 : Int) ≤ (k : Int) := by omega
      have h2 : (k : Int) ≤ (cap : Int) := by omega
      go_simp
    · obtain ⟨A, c', e, R, _, _⟩ := rowsI_of_own O'
      cases e
      exact rowsI_take R k
theorem slFrom {W0 : World} {base : Nat} {v : Value} {X : List I10} (O : W0.ownsRow base 38 10 v X.length (cellsI X)) (k : Nat) (hk : k ≤ X.length) :
    ∃ sv, (∀ w, (Instr.sliceAt 27 v (some (.int .i64 (k : Int))) none none).run Try.prog w = .ok sv w) ∧ SrcI W0 sv (X.drop k) := by
  have O' := O
  rcases O.2 with ⟨rfl, hn⟩ | ⟨g, cap, cur, rfl, hb, hg, hnc, hcm, hcs, ht⟩
  · have : X = [] := List.eq_nil_of_length_eq_zero hn
    subst this
    obtain rfl : k = 0 := by simpa using hk
    exact ⟨.slice none 0 0, fun w => by kernel_rfl, .inl ⟨rfl, rfl⟩⟩
  · obtain ⟨A, c', e, R, _, _⟩ := rowsI_of_own O'
    cases e
    unfold maxLen at hcm
    have h1 : (0 : Int) ≤ (k : Int) := by omega
    have h2 : (k : Int) ≤ (X.length : Int) := by omega
    have h3 : (X.length : Int) ≤ (cap : Int) := by omega
    by_cases hc : cap = k
    · subst hc
      have hX : X.length = cap := by omega
      refine ⟨.slice (some ⟨g, 0, none⟩) (X.length - cap) (cap - cap), fun w => ?_, .inr ⟨⟨g, 0, none⟩, cap - cap, by simp, rowsI_empty (by simp; omega)⟩⟩
      go_simp
    · have h4 : (k : Int) < (cap : Int) := by omega
      refine ⟨.slice (some ⟨g, 0 + k * 10, none⟩) (X.length - k) (cap - k), fun w => ?_, .inr ⟨⟨g, 0 + k * 10, none⟩, cap - k, by simp, rowsI_drop R k⟩⟩
      go_simp
set_option maxRecDepth 100000 in
set_option maxHeartbeats 4000000 in
theorem refAddArg (X : List I10) (x : I10) (rb base : Nat) (v : Value) (most : Int) (w : World) (h0 : w.cell? ⟨rb, 0, none⟩ = some v) (h1 : w.cell? ⟨rb, 1, none⟩ = some (.int .i64 most)) (O : w.ownsRow base 38 10 v X.length (cellsI X)) (rX : ∀ y ∈ X, y.Rng) (rx : x.Rng) (hx : x.ok = false) :
    Calls Try.prog 9 #[.pointer (some ⟨rb, 0, none⟩), .agg #[.int .u8 x.n, .int .u16 x.l, .int .u32 x.s, .int .u8 x.d, .int .u8 x.a0, .int .u8 x.a1, .int .u8 x.b0, .int .u8 x.b1, .int .u8 x.c0, .int .u8 x.c1]] w fun e w' => e = .returned (.int .i64 1) ∧ Below w.heap.size w w' := by
  have hx' : rI x.n x.l x.s x.d x.a0 x.a1 x.b0 x.b1 x.c0 x.c1 = false := hx
  have HX := Lib.hid hx'
  have bx := Lib.hid ((Below.refl _ _).alloc (Nat.le_refl _) _ : Below w.heap.size w (w.alloc (.cells #[.int .u8 x.n, .int .u16 x.l, .int .u32 x.s, .int .u8 x.d, .int .u8 x.a0, .int .u8 x.a1, .int .u8 x.b0, .int .u8 x.b1, .int .u8 x.c0, .int .u8 x.c1] 38)))
  clear h0 h1 O rX hx hx'
  go_enter Try.func9, Try.ntmps9
  go_wp2_with fail
  refine (refRight _ _ _ _ _ _ _ _ _ _ _ rx.d.1).mono ?_
  rintro e w1 ⟨rfl, b1⟩
  rw [HX.out]
  have B1 := Lib.hid b1
  clear b1
  go_wp2
  go_ret
  exact ⟨rfl, bx.out.trans (B1.out.mono (by simp))⟩

set_option maxRecDepth 100000 in
set_option maxHeartbeats 4000000 in
theorem refAddThere (X : List I10) (x : I10) (rb base : Nat) (v : Value) (most : Int) (w : World) (h0 : w.cell? ⟨rb, 0, none⟩ = some v) (h1 : w.cell? ⟨rb, 1, none⟩ = some (.int .i64 most)) (O : w.ownsRow base 38 10 v X.length (cellsI X)) (rX : ∀ y ∈ X, y.Rng) (rx : x.Rng) (hx : x.ok = true) (hat : isAt X x = true) :
    Calls Try.prog 9 #[.pointer (some ⟨rb, 0, none⟩), .agg #[.int .u8 x.n, .int .u16 x.l, .int .u32 x.s, .int .u8 x.d, .int .u8 x.a0, .int .u8 x.a1, .int .u8 x.b0, .int .u8 x.b1, .int .u8 x.c0, .int .u8 x.c1]] w fun e w' => e = .returned (.int .i64 4) ∧ Below w.heap.size w w' := by
  have hx' : rI x.n x.l x.s x.d x.a0 x.a1 x.b0 x.b1 x.c0 x.c1 = true := hx
  have HX := Lib.hid hx'
  have hl := World.block_lt_of_cell? w _ h0
  have bx := Lib.hid ((Below.refl _ _).alloc (Nat.le_refl _) _ : Below w.heap.size w (w.alloc (.cells #[.int .u8 x.n, .int .u16 x.l, .int .u32 x.s, .int .u8 x.d, .int .u8 x.a0, .int .u8 x.a1, .int .u8 x.b0, .int .u8 x.b1, .int .u8 x.c0, .int .u8 x.c1] 38)))
  have FO := Lib.hid (fun w2 h => findOwn X x rb base v w2 h)
  have H0 := Lib.hid h0
  have OO := Lib.hid O
  have RX := Lib.hid rX
  have HA := Lib.hid hat
  have q := fun (j : Nat) (u : Value) (hh : (w.alloc (.cells #[.int .u8 x.n, .int .u16 x.l, .int .u32 x.s, .int .u8 x.d, .int .u8 x.a0, .int .u8 x.a1, .int .u8 x.b0, .int .u8 x.b1, .int .u8 x.c0, .int .u8 x.c1] 38)).cell? ⟨w.heap.size, j, none⟩ = some u) => hh
  clear h0 h1 O rX hx hx' hat
  go_enter Try.func9, Try.ntmps9
  go_wp2_with fail
  refine (refRight _ _ _ _ _ _ _ _ _ _ _ rx.d.1).mono ?_
  rintro e w1 ⟨rfl, b1⟩
  rw [HX.out]
  have B1 := Lib.hid b1
  have k0 := kept b1 w.heap.size 0 (.int .u8 x.n) (by simp) (by simp)
  have k1 := kept b1 w.heap.size 1 (.int .u16 x.l) (by simp) (by simp)
  have k2 := kept b1 w.heap.size 2 (.int .u32 x.s) (by simp) (by simp)
  have k3 := kept b1 w.heap.size 3 (.int .u8 x.d) (by simp) (by simp)
  have k4 := kept b1 w.heap.size 4 (.int .u8 x.a0) (by simp) (by simp)
  have k5 := kept b1 w.heap.size 5 (.int .u8 x.a1) (by simp) (by simp)
  have k6 := kept b1 w.heap.size 6 (.int .u8 x.b0) (by simp) (by simp)
  have k7 := kept b1 w.heap.size 7 (.int .u8 x.b1) (by simp) (by simp)
  have k8 := kept b1 w.heap.size 8 (.int .u8 x.c0) (by simp) (by simp)
  have k9 := kept b1 w.heap.size 9 (.int .u8 x.c1) (by simp) (by simp)
  clear b1 q
  go_wp2_with fail
  refine (FO.out _ (B1.out.cell (p := ⟨rb, 0, none⟩) (by simp; omega) |>.trans (bx.out.cell (p := ⟨rb, 0, none⟩) hl |>.trans H0.out)) (own_belowI (OO.out.alloc _) B1.out) RX.out rx).mono ?_
  rw [HA.out]
  rintro e w2 ⟨rfl, b2⟩
  have B2 := Lib.hid b2
  clear b2
  go_wp2
  go_ret
  exact ⟨rfl, (bx.out.trans (B1.out.mono (by simp))).trans (B2.out.mono (by have := B1.out.size; simp at this; omega))⟩

set_option maxRecDepth 100000 in
set_option maxHeartbeats 4000000 in
theorem refAddFull (X : List I10) (x : I10) (rb base : Nat) (v : Value) (most : Int) (w : World) (h0 : w.cell? ⟨rb, 0, none⟩ = some v) (h1 : w.cell? ⟨rb, 1, none⟩ = some (.int .i64 most)) (O : w.ownsRow base 38 10 v X.length (cellsI X)) (rX : ∀ y ∈ X, y.Rng) (rx : x.Rng) (hx : x.ok = true) (hat : isAt X x = false) (hm : most ≤ (X.length : Int)) :
    Calls Try.prog 9 #[.pointer (some ⟨rb, 0, none⟩), .agg #[.int .u8 x.n, .int .u16 x.l, .int .u32 x.s, .int .u8 x.d, .int .u8 x.a0, .int .u8 x.a1, .int .u8 x.b0, .int .u8 x.b1, .int .u8 x.c0, .int .u8 x.c1]] w fun e w' => e = .returned (.int .i64 11) ∧ Below w.heap.size w w' := by
  have hx' : rI x.n x.l x.s x.d x.a0 x.a1 x.b0 x.b1 x.c0 x.c1 = true := hx
  have HX := Lib.hid hx'
  have hl := World.block_lt_of_cell? w _ h0
  have bx := Lib.hid ((Below.refl _ _).alloc (Nat.le_refl _) _ : Below w.heap.size w (w.alloc (.cells #[.int .u8 x.n, .int .u16 x.l, .int .u32 x.s, .int .u8 x.d, .int .u8 x.a0, .int .u8 x.a1, .int .u8 x.b0, .int .u8 x.b1, .int .u8 x.c0, .int .u8 x.c1] 38)))
  have FO := Lib.hid (fun w2 h => findOwn X x rb base v w2 h)
  have HA := Lib.hid hat
  obtain ⟨A, cap, rfl, R, hc, hmx⟩ := rowsI_of_own O
  have H0 := Lib.hid h0
  have H1 := Lib.hid h1
  have OO := Lib.hid O
  have RX := Lib.hid rX
  have q := fun (j : Nat) (u : Value) (hh : (w.alloc (.cells #[.int .u8 x.n, .int .u16 x.l, .int .u32 x.s, .int .u8 x.d, .int .u8 x.a0, .int .u8 x.a1, .int .u8 x.b0, .int .u8 x.b1, .int .u8 x.c0, .int .u8 x.c1] 38)).cell? ⟨w.heap.size, j, none⟩ = some u) => hh
  clear h0 h1 O rX hx hx' hat R
  unfold maxLen at hmx
  have HM := Lib.hid hm
  clear hm
  go_enter Try.func9, Try.ntmps9
  go_wp2_with fail
  refine (refRight _ _ _ _ _ _ _ _ _ _ _ rx.d.1).mono ?_
  rintro e w1 ⟨rfl, b1⟩
  rw [HX.out]
  have B1 := Lib.hid b1
  have k0 := kept b1 w.heap.size 0 (.int .u8 x.n) (by simp) (by simp)
  have k1 := kept b1 w.heap.size 1 (.int .u16 x.l) (by simp) (by simp)
  have k2 := kept b1 w.heap.size 2 (.int .u32 x.s) (by simp) (by simp)
  have k3 := kept b1 w.heap.size 3 (.int .u8 x.d) (by simp) (by simp)
  have k4 := kept b1 w.heap.size 4 (.int .u8 x.a0) (by simp) (by simp)
  have k5 := kept b1 w.heap.size 5 (.int .u8 x.a1) (by simp) (by simp)
  have k6 := kept b1 w.heap.size 6 (.int .u8 x.b0) (by simp) (by simp)
  have k7 := kept b1 w.heap.size 7 (.int .u8 x.b1) (by simp) (by simp)
  have k8 := kept b1 w.heap.size 8 (.int .u8 x.c0) (by simp) (by simp)
  have k9 := kept b1 w.heap.size 9 (.int .u8 x.c1) (by simp) (by simp)
  clear b1 q
  go_wp2_with fail
  refine (FO.out _ (B1.out.cell (p := ⟨rb, 0, none⟩) (by simp; omega) |>.trans (bx.out.cell (p := ⟨rb, 0, none⟩) hl |>.trans H0.out)) (own_belowI (OO.out.alloc _) B1.out) RX.out rx).mono ?_
  rw [HA.out]
  rintro e w2 ⟨rfl, b2⟩
  have B12 := Lib.hid (B1.out.trans (b2.mono B1.out.size))
  have s0 := (B12.out.cell (p := ⟨rb, 0, none⟩) (by simp; omega)).trans ((bx.out.cell (p := ⟨rb, 0, none⟩) hl).trans H0.out)
  have s1 := (B12.out.cell (p := ⟨rb, 1, none⟩) (by simp; omega)).trans ((bx.out.cell (p := ⟨rb, 1, none⟩) hl).trans H1.out)
  clear b2 k0 k1 k2 k3 k4 k5 k6 k7 k8 k9
  have hd : max 0 most ≤ (X.length : Int) := by have := HM.out; omega
  go_wp2
  go_region
  go_wp2
  go_ret
  exact ⟨rfl, (bx.out.trans (B12.out.mono (by simp))).drew⟩

/-- what holds in the last statement, behind each operation but the store. -/
def SA (rb xb : Nat) (v : Value) (x : I10) (w2 W : World) : Prop := W.cell? ⟨rb, 0, none⟩ = some v ∧ W.cell? ⟨xb, 0, none⟩ = some (.int .u8 x.n) ∧ W.cell? ⟨xb, 1, none⟩ = some (.int .u16 x.l) ∧ W.cell? ⟨xb, 2, none⟩ = some (.int .u32 x.s) ∧ W.cell? ⟨xb, 3, none⟩ = some (.int .u8 x.d) ∧ W.cell? ⟨xb, 4, none⟩ = some (.int .u8 x.a0) ∧ W.cell? ⟨xb, 5, none⟩ = some (.int .u8 x.a1) ∧ W.cell? ⟨xb, 6, none⟩ = some (.int .u8 x.b0) ∧ W.cell? ⟨xb, 7, none⟩ = some (.int .u8 x.b1) ∧ W.cell? ⟨xb, 8, none⟩ = some (.int .u8 x.c0) ∧ W.cell? ⟨xb, 9, none⟩ = some (.int .u8 x.c1) ∧ Below w2.heap.size w2 W
theorem SA.bel {rb xb : Nat} {v : Value} {x : I10} {w2 W : World} (h : SA rb xb v x w2 W) : Below w2.heap.size w2 W := h.2.2.2.2.2.2.2.2.2.2.2
theorem SA.to {rb xb : Nat} {v : Value} {x : I10} {w2 W : World} (h : SA rb xb v x w2 w2) (hr : rb < w2.heap.size) (hx : xb < w2.heap.size) (b : Below w2.heap.size w2 W) : SA rb xb v x w2 W := by
  obtain ⟨h0, h1, h2, h3, h4, h5, h6, h7, h8, h9, h10, _⟩ := h
  exact ⟨(b.cell (p := ⟨rb, 0, none⟩) hr).trans h0, (b.cell (p := ⟨xb, 0, none⟩) hx).trans h1, (b.cell (p := ⟨xb, 1, none⟩) hx).trans h2, (b.cell (p := ⟨xb, 2, none⟩) hx).trans h3, (b.cell (p := ⟨xb, 3, none⟩) hx).trans h4, (b.cell (p := ⟨xb, 4, none⟩) hx).trans h5, (b.cell (p := ⟨xb, 5, none⟩) hx).trans h6, (b.cell (p := ⟨xb, 6, none⟩) hx).trans h7, (b.cell (p := ⟨xb, 7, none⟩) hx).trans h8, (b.cell (p := ⟨xb, 8, none⟩) hx).trans h9, (b.cell (p := ⟨xb, 9, none⟩) hx).trans h10, b⟩
theorem srcOne (W : World) (x : I10) (n : Nat) (hn : W.heap.size = n) : SrcI (W.alloc (.cells #[.int .u8 x.n, .int .u16 x.l, .int .u32 x.s, .int .u8 x.d, .int .u8 x.a0, .int .u8 x.a1, .int .u8 x.b0, .int .u8 x.b1, .int .u8 x.c0, .int .u8 x.c1] 38)) (.slice (some ⟨n, 0, none⟩) 1 1) [x] := by
  subst hn
  refine .inr ⟨_, 1, rfl, rowsI_of_cells (by simp) fun j u hu => ?_⟩
  have := cells_newI W #[.int .u8 x.n, .int .u16 x.l, .int .u32 x.s, .int .u8 x.d, .int .u8 x.a0, .int .u8 x.a1, .int .u8 x.b0, .int .u8 x.b1, .int .u8 x.c0, .int .u8 x.c1] 38 j u (by simpa [cellsI, I10.cells] using hu)
  rw [Nat.zero_add]
  by_cases h0 : j = 0
  · subst h0; exact this
  · simpa [Addr.add, h0] using this
theorem srcFar {W W' : World} {B : Nat} {x : I10} {row : Option Nat} (h : SrcI W (.slice (some ⟨B, 0, none⟩) 1 1) [x]) (hB : B < W.heap.size) (hg : W.grownBy W' row) (hne : some B ≠ row) : SrcI W' (.slice (some ⟨B, 0, none⟩) 1 1) [x] := by
  rcases h with ⟨h, _⟩ | ⟨ad, c, e, hr⟩
  · cases h
  · cases e
    refine .inr ⟨_, 1, rfl, fun hX => ?_⟩
    obtain ⟨b, o, e, hb, hc⟩ := hr hX
    cases e
    exact ⟨_, _, rfl, Nat.lt_of_lt_of_le hB hg.size, fun i y hy => (hc i y hy).keep fun j => hg.cell_far ⟨B, j, none⟩ hB hne⟩
theorem own_insI {W : World} {base : Nat} {v : Value} {X : List I10} {x : I10} (h : W.ownsRow base 38 10 v (0 + (X.take (fnd X x)).length + [x].length + (X.drop (fnd X x)).length) ((([] ++ cellsI (X.take (fnd X x))) ++ cellsI [x]) ++ cellsI (X.drop (fnd X x)))) : W.ownsRow base 38 10 v (ins X x).length (cellsI (ins X x)) := by
  have e1 : (ins X x).length = 0 + (X.take (fnd X x)).length + [x].length + (X.drop (fnd X x)).length := by simp [ins]; omega
  have e2 : cellsI (ins X x) = (([] ++ cellsI (X.take (fnd X x))) ++ cellsI [x]) ++ cellsI (X.drop (fnd X x)) := by simp [ins, cellsI]
  rw [e1, e2]
  exact h

set_option maxRecDepth 100000 in
set_option maxHeartbeats 4000000 in
theorem refAddOk (X : List I10) (x : I10) (rb base : Nat) (v : Value) (most : Int) (w : World) (h0 : w.cell? ⟨rb, 0, none⟩ = some v) (h1 : w.cell? ⟨rb, 1, none⟩ = some (.int .i64 most)) (O : w.ownsRow base 38 10 v X.length (cellsI X)) (rX : ∀ y ∈ X, y.Rng) (rx : x.Rng) (hf : w.frozen? ⟨rb, 0, none⟩ = false) (hx : x.ok = true) (hat : isAt X x = false) (hm : (X.length : Int) < most) (hX : (X.length + 1) * 16 ≤ 140737488355328) (hk : fnd X x ≤ X.length) :
    Calls Try.prog 9 #[.pointer (some ⟨rb, 0, none⟩), .agg #[.int .u8 x.n, .int .u16 x.l, .int .u32 x.s, .int .u8 x.d, .int .u8 x.a0, .int .u8 x.a1, .int .u8 x.b0, .int .u8 x.b1, .int .u8 x.c0, .int .u8 x.c1]] w fun e w' => e = .returned (.int .i64 0) ∧ ∃ v' W', w' = W'.setCell ⟨rb, 0, none⟩ v' ∧ Below w.heap.size w W' ∧ W'.ownsRow w.heap.size 38 10 v' (ins X x).length (cellsI (ins X x)) := by
  have HF := Lib.hid hf
  clear hf
  have hx' : rI x.n x.l x.s x.d x.a0 x.a1 x.b0 x.b1 x.c0 x.c1 = true := hx
  have HX := Lib.hid hx'
  have hl := World.block_lt_of_cell? w _ h0
  have bx := Lib.hid ((Below.refl _ _).alloc (Nat.le_refl _) _ : Below w.heap.size w (w.alloc (.cells #[.int .u8 x.n, .int .u16 x.l, .int .u32 x.s, .int .u8 x.d, .int .u8 x.a0, .int .u8 x.a1, .int .u8 x.b0, .int .u8 x.b1, .int .u8 x.c0, .int .u8 x.c1] 38)))
  have FO := Lib.hid (fun w2 h => findOwn X x rb base v w2 h)
  have HA := Lib.hid hat
  obtain ⟨A, cap, rfl, R, hc, hmx⟩ := rowsI_of_own O
  have H0 := Lib.hid h0
  have H1 := Lib.hid h1
  have OO := Lib.hid O
  have RX := Lib.hid rX
  have q := fun (j : Nat) (u : Value) (hh : (w.alloc (.cells #[.int .u8 x.n, .int .u16 x.l, .int .u32 x.s, .int .u8 x.d, .int .u8 x.a0, .int .u8 x.a1, .int .u8 x.b0, .int .u8 x.b1, .int .u8 x.c0, .int .u8 x.c1] 38)).cell? ⟨w.heap.size, j, none⟩ = some u) => hh
  clear h0 h1 O rX hx hx' hat R
  unfold maxLen at hmx
  have HM := Lib.hid hm
  clear hm
  go_enter Try.func9, Try.ntmps9
  go_wp2_with fail
  refine (refRight _ _ _ _ _ _ _ _ _ _ _ rx.d.1).mono ?_
  rintro e w1 ⟨rfl, b1⟩
  rw [HX.out]
  have B1 := Lib.hid b1
  have k0 := kept b1 w.heap.size 0 (.int .u8 x.n) (by simp) (by simp)
  have k1 := kept b1 w.heap.size 1 (.int .u16 x.l) (by simp) (by simp)
  have k2 := kept b1 w.heap.size 2 (.int .u32 x.s) (by simp) (by simp)
  have k3 := kept b1 w.heap.size 3 (.int .u8 x.d) (by simp) (by simp)
  have k4 := kept b1 w.heap.size 4 (.int .u8 x.a0) (by simp) (by simp)
  have k5 := kept b1 w.heap.size 5 (.int .u8 x.a1) (by simp) (by simp)
  have k6 := kept b1 w.heap.size 6 (.int .u8 x.b0) (by simp) (by simp)
  have k7 := kept b1 w.heap.size 7 (.int .u8 x.b1) (by simp) (by simp)
  have k8 := kept b1 w.heap.size 8 (.int .u8 x.c0) (by simp) (by simp)
  have k9 := kept b1 w.heap.size 9 (.int .u8 x.c1) (by simp) (by simp)
  clear b1 q
  go_wp2_with fail
  refine (FO.out _ (B1.out.cell (p := ⟨rb, 0, none⟩) (by simp; omega) |>.trans (bx.out.cell (p := ⟨rb, 0, none⟩) hl |>.trans H0.out)) (own_belowI (OO.out.alloc _) B1.out) RX.out rx).mono ?_
  rw [HA.out]
  rintro e w2 ⟨rfl, b2⟩
  have B12 := Lib.hid (B1.out.trans (b2.mono B1.out.size))
  have s0 := (B12.out.cell (p := ⟨rb, 0, none⟩) (by simp; omega)).trans ((bx.out.cell (p := ⟨rb, 0, none⟩) hl).trans H0.out)
  have s1 := (B12.out.cell (p := ⟨rb, 1, none⟩) (by simp; omega)).trans ((bx.out.cell (p := ⟨rb, 1, none⟩) hl).trans H1.out)
  have s2 := (B12.out.frozen (p := ⟨rb, 0, none⟩) (by simp; omega)).trans ((bx.out.frozen (p := ⟨rb, 0, none⟩) hl).trans HF.out)
  have hp : 0 < most := by have := HM.out; omega
  have hd : (X.length : Int) < max 0 most := by have := HM.out; omega
  have z0 := (b2.cell (p := ⟨w.heap.size, 0, none⟩) (by show w.heap.size < w1.heap.size; have := B1.out.size; simp at this; omega)).trans k0
  have z1 := (b2.cell (p := ⟨w.heap.size, 1, none⟩) (by show w.heap.size < w1.heap.size; have := B1.out.size; simp at this; omega)).trans k1
  have z2 := (b2.cell (p := ⟨w.heap.size, 2, none⟩) (by show w.heap.size < w1.heap.size; have := B1.out.size; simp at this; omega)).trans k2
  have z3 := (b2.cell (p := ⟨w.heap.size, 3, none⟩) (by show w.heap.size < w1.heap.size; have := B1.out.size; simp at this; omega)).trans k3
  have z4 := (b2.cell (p := ⟨w.heap.size, 4, none⟩) (by show w.heap.size < w1.heap.size; have := B1.out.size; simp at this; omega)).trans k4
  have z5 := (b2.cell (p := ⟨w.heap.size, 5, none⟩) (by show w.heap.size < w1.heap.size; have := B1.out.size; simp at this; omega)).trans k5
  have z6 := (b2.cell (p := ⟨w.heap.size, 6, none⟩) (by show w.heap.size < w1.heap.size; have := B1.out.size; simp at this; omega)).trans k6
  have z7 := (b2.cell (p := ⟨w.heap.size, 7, none⟩) (by show w.heap.size < w1.heap.size; have := B1.out.size; simp at this; omega)).trans k7
  have z8 := (b2.cell (p := ⟨w.heap.size, 8, none⟩) (by show w.heap.size < w1.heap.size; have := B1.out.size; simp at this; omega)).trans k8
  have z9 := (b2.cell (p := ⟨w.heap.size, 9, none⟩) (by show w.heap.size < w1.heap.size; have := B1.out.size; simp at this; omega)).trans k9
  have hs12 := B12.out.size
  have hb1 := bx.out.size
  have hxb : w.heap.size < w2.heap.size := by simp at hs12; omega
  have hl2 : rb < w2.heap.size := by omega
  have SS : SA rb w.heap.size (.slice A X.length cap) x w2 w2 := ⟨s0, z0, z1, z2, z3, z4, z5, z6, z7, z8, z9, Below.refl _ _⟩
  have OW := own_belowI (OO.out.alloc _) B12.out
  obtain ⟨sv1, RT0, S10⟩ := slTo OW _ hk
  obtain ⟨sv2, RF0, S20⟩ := slFrom OW _ hk
  have SSH := Lib.hid SS
  have RT := Lib.hid RT0
  have RF := Lib.hid RF0
  have S1 := Lib.hid S10
  have S2 := Lib.hid S20
  clear b2 k0 k1 k2 k3 k4 k5 k6 k7 k8 k9 SS OW RT0 RF0 S10 S20 z0 z1 z2 z3 z4 z5 z6 z7 z8 z9
  go_wp2
  go_region
  clear s1
  go_wp2
  refine region_heldT (S := SA rb w.heap.size (.slice A X.length cap) x w2) 19 (by kernel_rfl) (by decide) (fun inv => ?_)
  have HS : SA rb w.heap.size (.slice A X.length cap) x w2 w2.drew.drew := SSH.out.to hl2 hxb ((Below.refl _ _).drew.drew)
  refine FirstH.go (i := 0) (v := .pointer (some ⟨rb, 0, none⟩)) rfl rfl 28 rfl (Op.move (.tmp 0)) rfl (by kernel_rfl) (fun _ _ _ h => h) inv (fun W _ => by unfold bareO; go_simp) HS (fun inv => ?_)
  try simp only [Act.put, List.setIfInBounds_toArray, List.set_cons_zero, List.set_cons_succ]
  refine FirstH.go (i := 2) (v := .pointer (some ⟨rb, 0, none⟩)) rfl rfl 30 rfl (Op.move (.tmp 0)) rfl (by kernel_rfl) (fun _ _ _ h => h) inv (fun W _ => by unfold bareO; go_simp) HS (fun inv => ?_)
  try simp only [Act.put, List.setIfInBounds_toArray, List.set_cons_zero, List.set_cons_succ]
  refine FirstH.go (i := 3) (v := .pointer (some ⟨rb, 0, none⟩)) rfl rfl 31 rfl (Op.nilCheck (.tmp 30)) rfl (by kernel_rfl) (fun _ _ _ h => h) inv (fun W _ => by unfold bareO; go_simp) HS (fun inv => ?_)
  try simp only [Act.put, List.setIfInBounds_toArray, List.set_cons_zero, List.set_cons_succ]
  refine FirstH.go (i := 4) (v := .pointer (some ⟨rb, 0, none⟩)) rfl rfl 32 rfl (Op.fieldAddr 29 (.tmp 31) 0) rfl (by kernel_rfl) (fun _ _ _ h => h) inv (fun W _ => by unfold bareO; go_simp) HS (fun inv => ?_)
  try simp only [Act.put, List.setIfInBounds_toArray, List.set_cons_zero, List.set_cons_succ]
  refine FirstH.go (i := 5) (v := .slice A X.length cap) rfl rfl 33 rfl (Op.load 27 (.tmp 32)) rfl (by kernel_rfl) (fun _ _ _ h => h) inv (fun W hS => by have h0 := hS.1; unfold bareO; go_simp) HS (fun inv => ?_)
  try simp only [Act.put, List.setIfInBounds_toArray, List.set_cons_zero, List.set_cons_succ]
  refine FirstH.go (i := 6) (v := .int .i64 (fnd X x : Int)) rfl rfl 34 rfl (Op.move (.tmp 5)) rfl (by kernel_rfl) (fun _ _ _ h => h) inv (fun W _ => by unfold bareO; go_simp) HS (fun inv => ?_)
  try simp only [Act.put, List.setIfInBounds_toArray, List.set_cons_zero, List.set_cons_succ]
  refine FirstH.go (i := 7) (v := sv1) rfl rfl 35 rfl (Op.slice 27 (.tmp 33) none (some (.tmp 34)) none) rfl (by kernel_rfl) (fun _ _ _ h => h) inv (fun W _ => run_slOp rfl (by rfl) (by rfl) (by rfl) (RT.out W)) HS (fun inv => ?_)
  try simp only [Act.put, List.setIfInBounds_toArray, List.set_cons_zero, List.set_cons_succ]
  refine FirstH.go (i := 9) (v := .agg #[.int .u8 x.n, .int .u16 x.l, .int .u32 x.s, .int .u8 x.d, .int .u8 x.a0, .int .u8 x.a1, .int .u8 x.b0, .int .u8 x.b1, .int .u8 x.c0, .int .u8 x.c1]) rfl rfl 37 rfl (Op.load 38 (.tmp 3)) rfl (by kernel_rfl) (fun _ _ _ h => h) inv (fun W hS => by obtain ⟨_, h0, h1, h2, h3, h4, h5, h6, h7, h8, h9, _⟩ := hS; unfold bareO; go_simp) HS (fun inv => ?_)
  try simp only [Act.put, List.setIfInBounds_toArray, List.set_cons_zero, List.set_cons_succ]
  refine FirstH.go (i := 12) (v := .pointer (some ⟨rb, 0, none⟩)) rfl rfl 40 rfl (Op.move (.tmp 0)) rfl (by kernel_rfl) (fun _ _ _ h => h) inv (fun W _ => by unfold bareO; go_simp) HS (fun inv => ?_)
  try simp only [Act.put, List.setIfInBounds_toArray, List.set_cons_zero, List.set_cons_succ]
  refine FirstH.go (i := 13) (v := .pointer (some ⟨rb, 0, none⟩)) rfl rfl 41 rfl (Op.nilCheck (.tmp 40)) rfl (by kernel_rfl) (fun _ _ _ h => h) inv (fun W _ => by unfold bareO; go_simp) HS (fun inv => ?_)
  try simp only [Act.put, List.setIfInBounds_toArray, List.set_cons_zero, List.set_cons_succ]
  refine FirstH.go (i := 14) (v := .pointer (some ⟨rb, 0, none⟩)) rfl rfl 42 rfl (Op.fieldAddr 29 (.tmp 41) 0) rfl (by kernel_rfl) (fun _ _ _ h => h) inv (fun W _ => by unfold bareO; go_simp) HS (fun inv => ?_)
  try simp only [Act.put, List.setIfInBounds_toArray, List.set_cons_zero, List.set_cons_succ]
  refine FirstH.go (i := 15) (v := .slice A X.length cap) rfl rfl 43 rfl (Op.load 27 (.tmp 42)) rfl (by kernel_rfl) (fun _ _ _ h => h) inv (fun W hS => by have h0 := hS.1; unfold bareO; go_simp) HS (fun inv => ?_)
  try simp only [Act.put, List.setIfInBounds_toArray, List.set_cons_zero, List.set_cons_succ]
  refine FirstH.go (i := 16) (v := .int .i64 (fnd X x : Int)) rfl rfl 44 rfl (Op.move (.tmp 5)) rfl (by kernel_rfl) (fun _ _ _ h => h) inv (fun W _ => by unfold bareO; go_simp) HS (fun inv => ?_)
  try simp only [Act.put, List.setIfInBounds_toArray, List.set_cons_zero, List.set_cons_succ]
  refine FirstH.go (i := 17) (v := sv2) rfl rfl 45 rfl (Op.slice 27 (.tmp 43) (some (.tmp 44)) none none) rfl (by kernel_rfl) (fun _ _ _ h => h) inv (fun W _ => run_slOp rfl (by rfl) (by rfl) (by rfl) (RF.out W)) HS (fun inv => ?_)
  try simp only [Act.put, List.setIfInBounds_toArray, List.set_cons_zero, List.set_cons_succ]
  clear HS
  obtain ⟨W0, hW0⟩ : ∃ W0, W0 = w2.drew.drew := ⟨_, rfl⟩
  have b0 : Below w2.heap.size w2 W0 := hW0 ▸ ((Below.refl _ _).drew.drew)
  have hz0 : W0.heap.size = w2.heap.size := by rw [hW0]; rfl
  change FirstH _ _ _ _ _ _ _ _ _ _ w2.drew.drew
  rw [← hW0]
  clear hW0
  have H0' := Lib.hid b0
  clear b0
  refine FirstH.two (i := 1) (j := 10) (by kernel_rfl) (by decide) (by decide) inv (fun inv => ?_) (fun inv => ?_)
  · refine wpOp_run (i := 1) (v := .slice (some ⟨W0.heap.size, 0, none⟩) 0 0) (w' := W0.alloc (.cells #[] 38)) rfl rfl 29 rfl (Op.buildSlice 27 0 #[]) rfl (by unfold bareO; go_simp) ?_
    have Ha := Lib.hid (H0'.out.alloc H0'.out.size (.cells #[] 38))
    have OA := own_eI W0 W0.heap.size w2.heap.size rfl H0'.out.size
    refine ⟨SSH.out.to hl2 hxb Ha.out, ?_⟩
    try simp only [Act.put, List.setIfInBounds_toArray, List.set_cons_zero, List.set_cons_succ]
    refine FirstH.two (i := 8) (j := 10) (by kernel_rfl) (by decide) (by decide) inv (fun inv => ?_) (fun inv => ?_)
    · refine wpOp_app (i := 8) rfl rfl 36 rfl (.tmp 29) (.tmp 35) rfl w2.heap.size _ 0 [] (by rfl) OA sv1 (X.take (fnd X x)) (by rfl) (S1.out.below Ha.out) (by simp; omega) Ha.out.size ?_
      intro v3 w3 O3 g3
      have H3 := Lib.hid (own_snocI Ha.out OA g3)
      refine ⟨SSH.out.to hl2 hxb H3.out, ?_⟩
      try simp only [Act.put, List.setIfInBounds_toArray, List.set_cons_zero, List.set_cons_succ]
      refine FirstH.only (i := 10) (by kernel_rfl) (by decide) inv (fun inv => ?_)
      refine wpOp_run (i := 10) (v := .slice (some ⟨w3.heap.size, 0, none⟩) 1 1) (w' := w3.alloc (.cells #[.int .u8 x.n, .int .u16 x.l, .int .u32 x.s, .int .u8 x.d, .int .u8 x.a0, .int .u8 x.a1, .int .u8 x.b0, .int .u8 x.b1, .int .u8 x.c0, .int .u8 x.c1] 38)) rfl rfl 38 rfl (Op.buildSlice 27 1 #[(0, .tmp 37)]) rfl (by unfold bareO; go_simp) ?_
      have Hb := Lib.hid (H3.out.alloc H3.out.size (.cells #[.int .u8 x.n, .int .u16 x.l, .int .u32 x.s, .int .u8 x.d, .int .u8 x.a0, .int .u8 x.a1, .int .u8 x.b0, .int .u8 x.b1, .int .u8 x.c0, .int .u8 x.c1] 38))
      refine ⟨SSH.out.to hl2 hxb Hb.out, ?_⟩
      try simp only [Act.put, List.setIfInBounds_toArray, List.set_cons_zero, List.set_cons_succ]
      refine FirstH.only (i := 11) (by kernel_rfl) (by decide) inv (fun inv => wpOp_app (i := 11) rfl rfl 39 rfl (.tmp 36) (.tmp 38) rfl w2.heap.size _ _ _ (by rfl) (O3.alloc _) _ [x] (by rfl) (srcOne w3 x _ rfl) (by simp; omega) Hb.out.size ?_)
      intro v5 w5 O5 g5
      have b5 : Below w2.heap.size w2 w5 := own_snocI Hb.out (O3.alloc _) g5
      have H5 := Lib.hid b5
      clear b5
      refine ⟨SSH.out.to hl2 hxb H5.out, ?_⟩
      try simp only [Act.put, List.setIfInBounds_toArray, List.set_cons_zero, List.set_cons_succ]
      refine FirstH.only (i := 18) (by kernel_rfl) (by decide) inv (fun inv => wpOp_app (i := 18) rfl rfl 46 rfl (.tmp 39) (.tmp 45) rfl w2.heap.size _ _ _ (by rfl) O5 sv2 (X.drop (fnd X x)) (by rfl) (S2.out.below H5.out) (by simp; omega) H5.out.size ?_)
      intro v6 w6 O6 g6
      have b6 : Below w2.heap.size w2 w6 := own_snocI H5.out O5 g6
      have H6 := Lib.hid b6
      have O7 := own_insI O6
      obtain ⟨A6, c6, rfl, _, _, _⟩ := rowsI_of_own O7
      refine ⟨SSH.out.to hl2 hxb H6.out, ?_⟩
      have t0 := (b6.cell (p := ⟨rb, 0, none⟩) hl2).trans s0
      have t1 := (b6.frozen (p := ⟨rb, 0, none⟩) hl2).trans s2
      have HO7 := Lib.hid O7
      clear b6 O6 O5 g5 g6 s0 s2 O7
      try simp only [Act.put, List.setIfInBounds_toArray, List.set_cons_zero, List.set_cons_succ]
      refine ⟨by kernel_rfl, ?_⟩
      simp only [List.drop_succ_cons, List.drop_zero]
      go_wp2
      go_ret
      exact ⟨rfl, _, w6, rfl, (bx.out.trans (B12.out.mono (by simp))).trans (H6.out.mono (by omega)), own_lower HO7.out (by omega)⟩
    · refine wpOp_run (i := 10) (v := .slice (some ⟨(W0.alloc (.cells #[] 38)).heap.size, 0, none⟩) 1 1) (w' := (W0.alloc (.cells #[] 38)).alloc (.cells #[.int .u8 x.n, .int .u16 x.l, .int .u32 x.s, .int .u8 x.d, .int .u8 x.a0, .int .u8 x.a1, .int .u8 x.b0, .int .u8 x.b1, .int .u8 x.c0, .int .u8 x.c1] 38)) rfl rfl 38 rfl (Op.buildSlice 27 1 #[(0, .tmp 37)]) rfl (by unfold bareO; go_simp) ?_
      have Hb := Lib.hid (Ha.out.alloc Ha.out.size (.cells #[.int .u8 x.n, .int .u16 x.l, .int .u32 x.s, .int .u8 x.d, .int .u8 x.a0, .int .u8 x.a1, .int .u8 x.b0, .int .u8 x.b1, .int .u8 x.c0, .int .u8 x.c1] 38))
      refine ⟨SSH.out.to hl2 hxb Hb.out, ?_⟩
      try simp only [Act.put, List.setIfInBounds_toArray, List.set_cons_zero, List.set_cons_succ]
      refine FirstH.only (i := 8) (by kernel_rfl) (by decide) inv (fun inv => wpOp_app (i := 8) rfl rfl 36 rfl (.tmp 29) (.tmp 35) rfl w2.heap.size _ 0 [] (by rfl) (OA.alloc _) sv1 (X.take (fnd X x)) (by rfl) (S1.out.below Hb.out) (by simp; omega) Hb.out.size ?_)
      intro v3 w3 O3 g3
      have H3 := Lib.hid (own_snocI Hb.out (OA.alloc _) g3)
      refine ⟨SSH.out.to hl2 hxb H3.out, ?_⟩
      try simp only [Act.put, List.setIfInBounds_toArray, List.set_cons_zero, List.set_cons_succ]
      have SX := srcFar (srcOne (W0.alloc (.cells #[] 38)) x _ rfl) (by simp) g3 (by simp [Value.ownBlock])
      refine FirstH.only (i := 11) (by kernel_rfl) (by decide) inv (fun inv => wpOp_app (i := 11) rfl rfl 39 rfl (.tmp 36) (.tmp 38) rfl w2.heap.size _ _ _ (by rfl) O3 _ [x] (by rfl) SX (by simp; omega) H3.out.size ?_)
      intro v5 w5 O5 g5
      have b5 : Below w2.heap.size w2 w5 := own_snocI H3.out O3 g5
      have H5 := Lib.hid b5
      clear b5
      refine ⟨SSH.out.to hl2 hxb H5.out, ?_⟩
      try simp only [Act.put, List.setIfInBounds_toArray, List.set_cons_zero, List.set_cons_succ]
      refine FirstH.only (i := 18) (by kernel_rfl) (by decide) inv (fun inv => wpOp_app (i := 18) rfl rfl 46 rfl (.tmp 39) (.tmp 45) rfl w2.heap.size _ _ _ (by rfl) O5 sv2 (X.drop (fnd X x)) (by rfl) (S2.out.below H5.out) (by simp; omega) H5.out.size ?_)
      intro v6 w6 O6 g6
      have b6 : Below w2.heap.size w2 w6 := own_snocI H5.out O5 g6
      have H6 := Lib.hid b6
      have O7 := own_insI O6
      obtain ⟨A6, c6, rfl, _, _, _⟩ := rowsI_of_own O7
      refine ⟨SSH.out.to hl2 hxb H6.out, ?_⟩
      have t0 := (b6.cell (p := ⟨rb, 0, none⟩) hl2).trans s0
      have t1 := (b6.frozen (p := ⟨rb, 0, none⟩) hl2).trans s2
      have HO7 := Lib.hid O7
      clear b6 O6 O5 g5 g6 s0 s2 O7
      try simp only [Act.put, List.setIfInBounds_toArray, List.set_cons_zero, List.set_cons_succ]
      refine ⟨by kernel_rfl, ?_⟩
      simp only [List.drop_succ_cons, List.drop_zero]
      go_wp2
      go_ret
      exact ⟨rfl, _, w6, rfl, (bx.out.trans (B12.out.mono (by simp))).trans (H6.out.mono (by omega)), own_lower HO7.out (by omega)⟩
  · refine wpOp_run (i := 10) (v := .slice (some ⟨W0.heap.size, 0, none⟩) 1 1) (w' := W0.alloc (.cells #[.int .u8 x.n, .int .u16 x.l, .int .u32 x.s, .int .u8 x.d, .int .u8 x.a0, .int .u8 x.a1, .int .u8 x.b0, .int .u8 x.b1, .int .u8 x.c0, .int .u8 x.c1] 38)) rfl rfl 38 rfl (Op.buildSlice 27 1 #[(0, .tmp 37)]) rfl (by unfold bareO; go_simp) ?_
    have Ha := Lib.hid (H0'.out.alloc H0'.out.size (.cells #[.int .u8 x.n, .int .u16 x.l, .int .u32 x.s, .int .u8 x.d, .int .u8 x.a0, .int .u8 x.a1, .int .u8 x.b0, .int .u8 x.b1, .int .u8 x.c0, .int .u8 x.c1] 38))
    refine ⟨SSH.out.to hl2 hxb Ha.out, ?_⟩
    try simp only [Act.put, List.setIfInBounds_toArray, List.set_cons_zero, List.set_cons_succ]
    refine FirstH.only (i := 1) (by kernel_rfl) (by decide) inv (fun inv => ?_)
    refine wpOp_run (i := 1) (v := .slice (some ⟨(W0.alloc (.cells #[.int .u8 x.n, .int .u16 x.l, .int .u32 x.s, .int .u8 x.d, .int .u8 x.a0, .int .u8 x.a1, .int .u8 x.b0, .int .u8 x.b1, .int .u8 x.c0, .int .u8 x.c1] 38)).heap.size, 0, none⟩) 0 0) (w' := (W0.alloc (.cells #[.int .u8 x.n, .int .u16 x.l, .int .u32 x.s, .int .u8 x.d, .int .u8 x.a0, .int .u8 x.a1, .int .u8 x.b0, .int .u8 x.b1, .int .u8 x.c0, .int .u8 x.c1] 38)).alloc (.cells #[] 38)) rfl rfl 29 rfl (Op.buildSlice 27 0 #[]) rfl (by unfold bareO; go_simp) ?_
    have Hb := Lib.hid (Ha.out.alloc Ha.out.size (.cells #[] 38))
    have OA := own_eI (W0.alloc (.cells #[.int .u8 x.n, .int .u16 x.l, .int .u32 x.s, .int .u8 x.d, .int .u8 x.a0, .int .u8 x.a1, .int .u8 x.b0, .int .u8 x.b1, .int .u8 x.c0, .int .u8 x.c1] 38)) _ w2.heap.size rfl Ha.out.size
    refine ⟨SSH.out.to hl2 hxb Hb.out, ?_⟩
    try simp only [Act.put, List.setIfInBounds_toArray, List.set_cons_zero, List.set_cons_succ]
    refine FirstH.only (i := 8) (by kernel_rfl) (by decide) inv (fun inv => wpOp_app (i := 8) rfl rfl 36 rfl (.tmp 29) (.tmp 35) rfl w2.heap.size _ 0 [] (by rfl) OA sv1 (X.take (fnd X x)) (by rfl) (S1.out.below Hb.out) (by simp; omega) Hb.out.size ?_)
    intro v3 w3 O3 g3
    have H3 := Lib.hid (own_snocI Hb.out OA g3)
    refine ⟨SSH.out.to hl2 hxb H3.out, ?_⟩
    try simp only [Act.put, List.setIfInBounds_toArray, List.set_cons_zero, List.set_cons_succ]
    have SX := srcFar ((srcOne W0 x _ rfl).below ((Below.refl _ _).alloc (Nat.le_refl _) _)) (by simp; omega) g3 (by simp [Value.ownBlock])
    refine FirstH.only (i := 11) (by kernel_rfl) (by decide) inv (fun inv => wpOp_app (i := 11) rfl rfl 39 rfl (.tmp 36) (.tmp 38) rfl w2.heap.size _ _ _ (by rfl) O3 _ [x] (by rfl) SX (by simp; omega) H3.out.size ?_)
    intro v5 w5 O5 g5
    have b5 : Below w2.heap.size w2 w5 := own_snocI H3.out O3 g5
    have H5 := Lib.hid b5
    clear b5
    refine ⟨SSH.out.to hl2 hxb H5.out, ?_⟩
    try simp only [Act.put, List.setIfInBounds_toArray, List.set_cons_zero, List.set_cons_succ]
    refine FirstH.only (i := 18) (by kernel_rfl) (by decide) inv (fun inv => wpOp_app (i := 18) rfl rfl 46 rfl (.tmp 39) (.tmp 45) rfl w2.heap.size _ _ _ (by rfl) O5 sv2 (X.drop (fnd X x)) (by rfl) (S2.out.below H5.out) (by simp; omega) H5.out.size ?_)
    intro v6 w6 O6 g6
    have b6 : Below w2.heap.size w2 w6 := own_snocI H5.out O5 g6
    have H6 := Lib.hid b6
    have O7 := own_insI O6
    obtain ⟨A6, c6, rfl, _, _, _⟩ := rowsI_of_own O7
    refine ⟨SSH.out.to hl2 hxb H6.out, ?_⟩
    have t0 := (b6.cell (p := ⟨rb, 0, none⟩) hl2).trans s0
    have t1 := (b6.frozen (p := ⟨rb, 0, none⟩) hl2).trans s2
    have HO7 := Lib.hid O7
    clear b6 O6 O5 g5 g6 s0 s2 O7
    try simp only [Act.put, List.setIfInBounds_toArray, List.set_cons_zero, List.set_cons_succ]
    refine ⟨by kernel_rfl, ?_⟩
    simp only [List.drop_succ_cons, List.drop_zero]
    go_wp2
    go_ret
    exact ⟨rfl, _, w6, rfl, (bx.out.trans (B12.out.mono (by simp))).trans (H6.out.mono (by omega)), own_lower HO7.out (by omega)⟩


end Go.Proofs.Ytehkofeokccdeaa
