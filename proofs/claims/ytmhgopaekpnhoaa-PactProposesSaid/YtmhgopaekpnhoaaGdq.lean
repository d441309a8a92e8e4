/-
  The document's proposer: Promise, by an exact plain state. Condition: it lies in memory; the arguments' rows lie below it.
-/
import Derived.Test.YtmhgopaekpnhoaaGdp
import Derived.Deep.MidRow
namespace Go.Proofs.Ytmhgopaekpnhoaa
set_option linter.unusedSimpArgs false
set_option linter.unusedVariables false
open Go.RowKit Go.Maps Go.Sort
open V (P2)

theorem DQ.re {W W' : World} {B b : Nat} {d d' : Pd} {r r' : Rw} (h : DQ W B b d r) (k : KP (FR b r) W W') (blk : W'.heap[b]? = some (.cells (d'.rs r') 80 (0, 0))) (e1 : d'.g = d.g) (e2 : d'.N = d.N) (e3 : d'.M = d.M) (e4 : r'.A = r.A) (e5 : r'.c = r.c)
    (got : W'.ownsRow B 38 2 r'.gv d'.C.length (V.cellsV d'.C)) (nd : d'.C.Nodup) (ci : ∀ x ∈ d'.C, x ∈ d.M) (hx : r'.hx.At W B) (hd : r'.hx.d = d'.hd) (tx : r'.tx.At W B) (td : r'.tx.L.map Le.v = d'.Lg) (vx : r'.vx.At W B) (vd : r'.vx.d = d'.vd) : DQ W' B b d' r' := by
  have hbe : Below B W W' := k.below (Nat.le_trans h.hb (Nat.le_of_lt h.lt)) h.foot
  exact ⟨h.hb, blk, by rw [e3, e4]; exact h.mem.below hbe (Nat.le_refl _) (Nat.le_refl _), by rw [e3, e5]; exact h.mc, by rw [e5]; exact h.mm, got,
    hx.below hbe (Nat.le_refl _) (Nat.le_refl _), hd, tx.below hbe (Nat.le_refl _) (Nat.le_refl _), td, vx.below hbe (Nat.le_refl _) (Nat.le_refl _), vd, by rw [e1, e2, e3]; exact h.right, nd, by rw [e3]; exact ci⟩
theorem DQ.free {W : World} {B b k : Nat} {d : Pd} {r : Rw} {cs : Array Value} {t : TypeId} {fr : Nat × Nat} (h : DQ W B b d r) (hk : W.heap[k]? = some (.cells cs t fr)) (hb : k ≠ b) (ht : t ≠ 38) : ¬ FR b r k := by
  rintro (rfl | e)
  · exact hb rfl
  · obtain ⟨cur, hc⟩ := row_block h.got e
    exact apart_of hk hc ht rfl
theorem DQ.same_got {W W' : World} {B b : Nat} {d : Pd} {r : Rw} (h : DQ W B b d r) (k : KP (fun j => j = b) W W') : W'.ownsRow B 38 2 r.gv d.C.length (V.cellsV d.C) :=
  V.own_same h.got fun g e => k.block g (h.got.lt g e).2 (h.apart g e)
theorem DQ.app {W W' : World} {B b : Nat} {d : Pd} {r : Rw} {x : P2} {v' : Value} (h : DQ W B b d r) (hg : W.grownBy W' r.gv.ownBlock) (ho : W'.ownsRow B 38 2 v' (d.C.length + 1) (V.cellsV d.C ++ V.cellsV [x])) (hx : x ∉ d.C) (hM : x ∈ d.M) :
    DQ (W'.setCell ⟨b, 5, none⟩ v') B b (d.add x) { r with gv := v' } ∧ KP (FR b r) W (W'.setCell ⟨b, 5, none⟩ v') := by
  have hlt := h.lt
  have k1 : KP (FR b r) W W' := KP.grown hg fun k e => .inr e
  have hb' : W'.heap[b]? = some (.cells (d.rs r) 80 (0, 0)) := (hg.block b hlt fun e => h.apart b e.symm rfl).trans h.blk
  have k2 : KP (FR b r) W' (W'.setCell ⟨b, 5, none⟩ v') := KP.set (S := FR b r) W' b 5 v' (.inl rfl)
  have k12 := k1.trans k2 fun _ _ h => h
  refine ⟨h.re k12 ((row_set (i := 5) hb' v').trans rfl) rfl rfl rfl rfl rfl ?_ ?_ ?_ h.hx h.hd h.tx h.td h.vx h.vd, k12⟩
  · have ho2 : W'.ownsRow B 38 2 v' (d.add x).C.length (V.cellsV (d.add x).C) := by
      show W'.ownsRow B 38 2 v' (d.C ++ [x]).length (V.cellsV (d.C ++ [x]))
      rw [List.length_append, show V.cellsV (d.C ++ [x]) = V.cellsV d.C ++ V.cellsV [x] by simp [V.cellsV]]
      exact ho
    refine V.own_same ho2 fun g e => ?_
    obtain ⟨cur, hc⟩ := row_block ho2 e
    exact Below.heap_setCell _ _ _ _ (apart_of hc hb' (by decide))
  · exact List.nodup_append.2 ⟨h.nodup, by simp, fun y hy z hz e => by
      obtain rfl : z = x := by simpa using hz
      exact hx (e ▸ hy)⟩
  · intro y hy
    rcases List.mem_append.1 hy with hy | hy
    · exact h.cin y hy
    · obtain rfl : y = x := by simpa using hy
      exact hM
theorem DQ.hold {W W1 W2 W3 : World} {B b : Nat} {d : Pd} {r : Rw} (h : DQ W B b d r) (acc : Int) (y : Vl) (hy : y.At W B) (h1 : W.setCell ⟨b, 9, none⟩ (.bool true) = W1) (h2 : W1.setCell ⟨b, 6, none⟩ (.int .u64 acc) = W2) (h3 : W2.setCells b 7 [y.m, y.t] = W3) :
    DQ W3 B b { d with hb := acc, hd := y.d, hh := true } { r with hx := y } ∧ KP (fun j => j = b) W W3 ∧ W1.heap[b]? = some (.cells ((d.rs r).setIfInBounds 9 (.bool true)) 80 (0, 0)) ∧ W2.heap[b]? = some (.cells (((d.rs r).setIfInBounds 9 (.bool true)).setIfInBounds 6 (.int .u64 acc)) 80 (0, 0)) ∧ KP (fun j => j = b) W W2 := by
  have r1 := row_set (i := 9) h.blk (.bool true)
  rw [h1] at r1
  have r2 := row_set (i := 6) r1 (.int .u64 acc)
  rw [h2] at r2
  have r3 := row_set (i := 7 + 1) (row_set (i := 7) r2 y.m) y.t
  have e3 : (W2.setCell ⟨b, 7, none⟩ y.m).setCell ⟨b, 7 + 1, none⟩ y.t = W3 := h3
  rw [e3] at r3
  have k1 : KP (fun j => j = b) W W1 := by rw [← h1]; exact KP.set (S := fun j => j = b) W b 9 _ rfl
  have k2 : KP (fun j => j = b) W1 W2 := by rw [← h2]; exact KP.set (S := fun j => j = b) W1 b 6 _ rfl
  have k3 : KP (fun j => j = b) W2 W3 := by rw [← h3]; exact KP.setCells (S := fun j => j = b) rfl _ _ _
  have k12 := k1.trans k2 fun _ _ h => h
  have k := k12.trans k3 fun _ _ h => h
  exact ⟨h.re (k.mono fun i e => .inl e) r3 rfl rfl rfl rfl rfl (h.same_got k) h.nodup h.cin hy rfl h.tx h.td h.vx h.vd, k, r1, r2, k12⟩
theorem DQ.tail {W : World} {B b : Nat} {d : Pd} {r : Rw} (h : DQ W B b d r) (z : Vl) (hz : z.At W B) :
    DQ (W.setCell ⟨b, 10, none⟩ z.t) B b { d with Lg := z.L.map Le.v } { r with tx := z } ∧ KP (fun j => j = b) W (W.setCell ⟨b, 10, none⟩ z.t) := by
  have r1 := row_set (i := 10) h.blk z.t
  have k : KP (fun j => j = b) W (W.setCell ⟨b, 10, none⟩ z.t) := KP.set (S := fun j => j = b) W b 10 _ rfl
  exact ⟨h.re (k.mono fun i e => .inl e) r1 rfl rfl rfl rfl rfl (h.same_got k) h.nodup h.cin h.hx h.hd hz rfl h.vx h.vd, k⟩

/-- An append to a row of the call's own, as one operation. -/
theorem wpOp_appR {w : World} {ops : Array Oper} {o : Oper} {i : Nat} {a : Act} {K : Act → World → Prop} {Q : Exit → Act → World → Prop} (hi : ops[i]? = some o) (hgd : o.guard = none) (d : Tmp) (hd : o.dst = some d) (s xo : Operand)
    (ho : o.op = .call { callee := .builtin .append, args := #[s, xo], argTypes := #[30, 30] })
    (base : Nat) (v : Value) (n : Nat) (xs : List Value) (hs : a.eval s = v) (hown : w.ownsRow base 38 2 v n xs)
    (ad : Addr) (X : List P2) (m c B : Nat) (hx : a.eval xo = .slice (some ad) m c) (hmm : m = X.length) (hr : V.RowsV w B (some ad) X)
    (hlen : (n + X.length) * 4 ≤ 140737488355328) (hbase : base ≤ w.heap.size)
    (h : ∀ v' w', w'.ownsRow base 38 2 v' (n + X.length) (xs ++ V.cellsV X) → w.grownBy w' v.ownBlock → K (a.put (some d) v') w') :
    wpOp Try.prog ops Q i K a w := by
  subst hmm
  rw [← hd] at h
  unfold wpOp
  simp only [hi]
  rw [if_pos (by simp [Region.wanted, hgd])]
  refine .inl ?_
  obtain ⟨i0, hi0, hz0, hz1, hz2⟩ := info_parts V.rpr_info
  exact wp_append_own w s xo 30 ho base 38 i0 _ 2 4 Try.underlying30 hi0 hz0 hz1 hz2 rfl (by decide) v n xs hs hown ad X.length c (V.cellsV X) hx (V.cellsV_length X) (V.cells_of_rowsV hr) (V.cellsV_one X)
    (by unfold maxLen; omega) hlen hbase fun v' w' h2 h3 _ => h v' w' h2 h3


theorem fin_of {W W' : World} {B b : Nat} {d d' : Pd} {r r' : Rw} (h : DQ W' B b d' r') (e : d = d') (k : KP (FR b r) W W') : ∃ r', DQ W' B b d r' ∧ KP (FR b r) W W' := ⟨r', e ▸ h, k⟩
/-- how its calls end. -/
def EndQ (W : World) (B b : Nat) (d : Pd) (r : Rw) (v e : Ending) (W' : World) : Prop := e = v ∧ ∃ r', DQ W' B b d r' ∧ KP (FR b r) W W'
theorem Pd.prom_no {d : Pd} {x : P2} {L : List EV} {acc : Int} {y : VD} {has : Bool} (h : (decide (d.ph = 0) && d.cnt x) = false) : d.promise x L acc y has = d := by simp [Pd.promise, h]
set_option maxRecDepth 100000 in
set_option maxHeartbeats 2000000 in
theorem rPromiseNo (W : World) (B b : Nat) (d : Pd) (r : Rw) (h : DQ W B b d r) (x : P2) (tv : Value) (acc : Int) (y : Vl) (hy : y.At W B) (has : Bool) (hc : (decide (d.ph = 0) && d.cnt x) = false) :
    Calls Try.prog 29 #[.pointer (some ⟨b, 0, none⟩), .agg #[.int .u8 x.n, .int .u16 x.l], tv, .int .u64 acc, .agg y.cs, .bool has] W fun e W' => e = .returned (.tuple #[]) ∧ DQ W' B b d r ∧ KP (FR b r) W W' := by
  obtain ⟨k0, hk0⟩ : ∃ k, W.heap.size = k := ⟨_, rfl⟩
  have hbk : b < k0 := by rw [← hk0]; exact h.lt
  have hBk : B ≤ k0 := Nat.le_trans h.hb (Nat.le_of_lt hbk)
  obtain ⟨w0, hw0⟩ : ∃ z, W.alloc (.cells #[.int .u8 x.n, .int .u16 x.l] 38) = z := ⟨_, rfl⟩
  obtain ⟨k1, hk1⟩ : ∃ k, w0.heap.size = k := ⟨_, rfl⟩
  have ek1 : k1 = k0 + 1 := by rw [← hk1, ← hw0, ← hk0]; simp
  have b0 : Below k0 W w0 := by rw [← hw0, ← hk0]; exact (Below.refl _ _).alloc (Nat.le_refl _) _
  have rx : w0.heap[k0]? = some (.cells #[.int .u8 x.n, .int .u16 x.l] 38 (0, 0)) := by rw [← hw0, ← hk0]; exact heap_alloc_new _ _
  obtain ⟨ym, Y, yt, L⟩ := y
  obtain ⟨A1, c1, e1, -, -, -⟩ := hy.m
  obtain ⟨A2, c2, e2, -, -, -⟩ := hy.t
  dsimp only at e1 e2
  subst e1 e2
  dsimp only [Vl.cs] at ⊢
  have HY := Lib.hid hy
  obtain ⟨ny, hny⟩ : ∃ z, Y.length = z := ⟨_, rfl⟩
  obtain ⟨nl, hnl⟩ : ∃ z, L.length = z := ⟨_, rfl⟩
  rw [hny, hnl] at HY
  simp only [hny, hnl]
  obtain ⟨w1, hw1⟩ : ∃ z, w0.alloc (.cells #[.slice A1 ny c1, .slice A2 nl c2] 33) = z := ⟨_, rfl⟩
  have b1 : Below k1 w0 w1 := by rw [← hw1, ← hk1]; exact (Below.refl _ _).alloc (Nat.le_refl _) _
  have ry1 : w1.heap[k1]? = some (.cells #[.slice A1 ny c1, .slice A2 nl c2] 33 (0, 0)) := by rw [← hw1, ← hk1]; exact heap_alloc_new _ _
  have rx1 : w1.heap[k0]? = some (.cells #[.int .u8 x.n, .int .u16 x.l] 38 (0, 0)) := (b1.block k0 (by omega)).trans rx
  have b01 : Below k0 W w1 := b0.trans (b1.mono (by omega))
  have hq1 := h.below (hk0.symm ▸ b01)
  have KC := Lib.hid (rCounts w1 B b d r hq1 x 0)
  have HKP : Hid (KP (FR b r) W w1) := Lib.hid (KP.of_below (hk0.symm ▸ b01))
  have HQ := Lib.hid h
  have HQ1 := Lib.hid hq1
  have x0 := cell_of rx1 0 (.int .u8 x.n) rfl
  have x1 := cell_of rx1 1 (.int .u16 x.l) rfl
  have RX1 := Lib.hid rx1
  have RY1 := Lib.hid ry1
  have HW0 := Lib.hid hw0
  have HW1 := Lib.hid hw1
  have HK0 := Lib.hid hk0
  have HK1 := Lib.hid hk1
  have HBK := Lib.hid hbk
  have HBB := Lib.hid hBk
  have EK1 := Lib.hid ek1
  have HS1 : Hid (k0 ≤ w1.heap.size) := Lib.hid (by rw [← hk0]; exact b01.size)
  rw [hc] at KC
  clear h hy b0 rx b1 ry1 rx1 b01 hq1 hw0 hw1 hk0 hk1 hbk hBk ek1 hny hnl hc
  go_enter Try.func29, Try.ntmps29
  go_wp2_with (first
    | (rw [HW0.out, HK0.out])
    | (rw [HW1.out, HK1.out])
    | (go_at_call 58
       have KCx := KC.out
       refine KCx.mono ?_
       rintro e w2 ⟨rfl, b2⟩
       have HQ2 := Lib.hid (HQ1.out.below b2)
       have HKP2 := Lib.hid (HKP.out.trans (KP.of_below (S := FR b r) b2) fun _ _ h => h)
       clear b2)
    | fail)
  refine bodyPost_ret (results_none rfl _ _ _) rfl ?_
  exact ⟨rfl, HQ2.out, HKP2.out⟩
set_option maxRecDepth 100000 in
set_option maxHeartbeats 2000000 in
theorem rPromiseYes (W : World) (B b : Nat) (d : Pd) (r : Rw) (h : DQ W B b d r) (x : P2) (TA : Option Addr) (T : List Le) (tc : Nat) (hT : RowsE W B TA T) (hTl : T.length ≤ tc) (hTm : tc ≤ maxLen) (hT1 : T.length ≤ 1000) (acc : Int) (y : Vl) (hy : y.At W B) (has : Bool) (hc : (decide (d.ph = 0) && d.cnt x) = true) :
    Calls Try.prog 29 #[.pointer (some ⟨b, 0, none⟩), .agg #[.int .u8 x.n, .int .u16 x.l], .slice TA T.length tc, .int .u64 acc, .agg y.cs, .bool has] W fun e W' => EndQ W B b (d.promise x (T.map Le.v) acc y.d has) r (.returned (.tuple #[])) e W' := by
  obtain ⟨k0, hk0⟩ : ∃ k, W.heap.size = k := ⟨_, rfl⟩
  have hbk : b < k0 := by rw [← hk0]; exact h.lt
  have hBk : B ≤ k0 := Nat.le_trans h.hb (Nat.le_of_lt hbk)
  obtain ⟨w0, hw0⟩ : ∃ z, W.alloc (.cells #[.int .u8 x.n, .int .u16 x.l] 38) = z := ⟨_, rfl⟩
  obtain ⟨k1, hk1⟩ : ∃ k, w0.heap.size = k := ⟨_, rfl⟩
  have ek1 : k1 = k0 + 1 := by rw [← hk1, ← hw0, ← hk0]; simp
  have b0 : Below k0 W w0 := by rw [← hw0, ← hk0]; exact (Below.refl _ _).alloc (Nat.le_refl _) _
  have rx : w0.heap[k0]? = some (.cells #[.int .u8 x.n, .int .u16 x.l] 38 (0, 0)) := by rw [← hw0, ← hk0]; exact heap_alloc_new _ _
  obtain ⟨ym, Y, yt, L⟩ := y
  obtain ⟨A1, c1, e1, -, -, -⟩ := hy.m
  obtain ⟨A2, c2, e2, -, -, -⟩ := hy.t
  dsimp only at e1 e2
  subst e1 e2
  dsimp only [Vl.cs] at ⊢
  have HY := Lib.hid hy
  obtain ⟨ny, hny⟩ : ∃ z, Y.length = z := ⟨_, rfl⟩
  obtain ⟨nl, hnl⟩ : ∃ z, L.length = z := ⟨_, rfl⟩
  rw [hny, hnl] at HY
  simp only [hny, hnl]
  obtain ⟨w1, hw1⟩ : ∃ z, w0.alloc (.cells #[.slice A1 ny c1, .slice A2 nl c2] 33) = z := ⟨_, rfl⟩
  have b1 : Below k1 w0 w1 := by rw [← hw1, ← hk1]; exact (Below.refl _ _).alloc (Nat.le_refl _) _
  have ry1 : w1.heap[k1]? = some (.cells #[.slice A1 ny c1, .slice A2 nl c2] 33 (0, 0)) := by rw [← hw1, ← hk1]; exact heap_alloc_new _ _
  have rx1 : w1.heap[k0]? = some (.cells #[.int .u8 x.n, .int .u16 x.l] 38 (0, 0)) := (b1.block k0 (by omega)).trans rx
  have b01 : Below k0 W w1 := b0.trans (b1.mono (by omega))
  have hq1 := h.below (hk0.symm ▸ b01)
  have KC := Lib.hid (rCounts w1 B b d r hq1 x 0)
  have HKP : Hid (KP (FR b r) W w1) := Lib.hid (KP.of_below (hk0.symm ▸ b01))
  have HQ := Lib.hid h
  have HQ1 := Lib.hid hq1
  have x0 := cell_of rx1 0 (.int .u8 x.n) rfl
  have x1 := cell_of rx1 1 (.int .u16 x.l) rfl
  have RX1 := Lib.hid rx1
  have RY1 := Lib.hid ry1
  have HW0 := Lib.hid hw0
  have HW1 := Lib.hid hw1
  have HK0 := Lib.hid hk0
  have HK1 := Lib.hid hk1
  have HBK := Lib.hid hbk
  have HBB := Lib.hid hBk
  have EK1 := Lib.hid ek1
  have HS1 : Hid (k0 ≤ w1.heap.size) := Lib.hid (by rw [← hk0]; exact b01.size)
  rw [hc] at KC
  have HC := Lib.hid hc
  obtain ⟨hc1, hc2⟩ : d.ph = 0 ∧ d.cnt x = true := by simpa using hc
  have hc3 : x ∉ d.C ∧ x ∈ d.M := by simpa [Pd.cnt] using hc2
  have HXC := Lib.hid hc3.1
  have HXM := Lib.hid hc3.2
  have HT := Lib.hid hT
  have HTL := Lib.hid hTl
  have HTM := Lib.hid hTm
  have HT1 := Lib.hid hT1
  have HFEW0 := h.few
  obtain ⟨G, gc, hgv, -, -, -⟩ := V.rowsV_of_own h.got
  obtain ⟨At, ct, htx, -, -, -⟩ := h.tx.t
  obtain ⟨nC, hnC⟩ : ∃ n, d.C.length = n := ⟨_, rfl⟩
  obtain ⟨nT, hnT⟩ : ∃ n, T.length = n := ⟨_, rfl⟩
  obtain ⟨nL, hnL⟩ : ∃ n, r.tx.L.length = n := ⟨_, rfl⟩
  have HLg : Hid (d.Lg.length = nL) := Lib.hid (by rw [← h.td, List.length_map]; exact hnL)
  rw [hnC] at hgv
  rw [hnL] at htx
  rw [hnT] at HTL ⊢
  have HFEW : Hid (nC ≤ 8) := Lib.hid (by rw [← hnC]; omega)
  have HGV := Lib.hid hgv
  have HTX := Lib.hid htx
  have HNC := Lib.hid hnC
  have HNT := Lib.hid hnT
  have HNL := Lib.hid hnL
  have HNY := Lib.hid hny
  have HNLy := Lib.hid hnl
  have G5 : Hid ((d.rs r)[5]? = some (.slice G nC gc)) := Lib.hid (by rw [← hgv]; rfl)
  obtain ⟨hh, hhh⟩ : ∃ z, d.hh = z := ⟨_, rfl⟩
  obtain ⟨hb, hhb⟩ : ∃ z, d.hb = z := ⟨_, rfl⟩
  have HHH := Lib.hid hhh
  have HHB := Lib.hid hhb
  clear h hy b0 rx b1 ry1 rx1 b01 hq1 hw0 hw1 hk0 hk1 hbk hBk ek1 hny hnl hc hc1 hc2 hc3 hT hTl hTm hT1 HFEW0 hgv htx hnC hnT hnL hhh hhb
  by_cases hlong : nL < nT
  · have hli : (nL : Int) < (nT : Int) := by omega
    cases has with
    | false =>
      go_enter Try.func29, Try.ntmps29
      go_wp2_with (first
        | (rw [HW0.out, HK0.out])
        | (rw [HW1.out, HK1.out])
        | (go_at_call 58
           have KCx := KC.out
           refine KCx.mono ?_
           rintro e w2 ⟨rfl, b2⟩
           have HQ2 := Lib.hid (HQ1.out.below b2)
           have HKP2 := Lib.hid (HKP.out.trans (KP.of_below (S := FR b r) b2) fun _ _ h => h)
           have R2 : Hid (w2.drew.heap[b]? = some (.cells (d.rs r) 80 (0, 0)) ∧ w2.drew.heap[k0]? = some (.cells #[.int .u8 x.n, .int .u16 x.l] 38 (0, 0))) := Lib.hid ⟨HQ2.out.blk, (b2.block k0 (heap_lt RX1.out)).trans RX1.out⟩
           have RY2 := Lib.hid ((b2.block k1 (heap_lt RY1.out)).trans RY1.out)
           clear b2)
        | fail)
      refine region_heldT (S := fun u => u.heap[b]? = some (.cells (d.rs r) 80 (0, 0)) ∧ u.heap[k0]? = some (.cells #[.int .u8 x.n, .int .u16 x.l] 38 (0, 0))) 8 (by kernel_rfl) (by decide) (fun inv => ?_)
      have HS := R2.out
      change FirstH _ _ _ _ _ _ _ _ _ _ w2.drew
      have HQd := Lib.hid (HQ2.out.below (Below.refl _ _).drew)
      have HKd : Hid (KP (FR b r) W w2.drew) := Lib.hid (HKP2.out.trans (KP.of_below (S := FR b r) (Below.refl _ _).drew) fun _ _ h => h)
      have RYd : Hid (w2.drew.heap[k1]? = w2.heap[k1]?) := Lib.hid rfl
      generalize w2.drew = wd at *
      refine FirstH.go (i := 0) (v := .pointer (some ⟨b, 0, none⟩)) rfl rfl 16 rfl (Op.move (.tmp 0)) rfl (by kernel_rfl) (fun _ _ _ h => h) inv (fun W hS => by unfold bareO; go_simp) HS (fun inv => ?_)
      try simp only [Act.put, List.setIfInBounds_toArray, List.set_cons_zero, List.set_cons_succ]
      refine FirstH.go (i := 1) (v := .pointer (some ⟨b, 0, none⟩)) rfl rfl 17 rfl (Op.move (.tmp 0)) rfl (by kernel_rfl) (fun _ _ _ h => h) inv (fun W hS => by unfold bareO; go_simp) HS (fun inv => ?_)
      try simp only [Act.put, List.setIfInBounds_toArray, List.set_cons_zero, List.set_cons_succ]
      refine FirstH.go (i := 2) (v := .pointer (some ⟨b, 0, none⟩)) rfl rfl 18 rfl (Op.nilCheck (.tmp 17)) rfl (by kernel_rfl) (fun _ _ _ h => h) inv (fun W hS => by unfold bareO; go_simp) HS (fun inv => ?_)
      try simp only [Act.put, List.setIfInBounds_toArray, List.set_cons_zero, List.set_cons_succ]
      refine FirstH.go (i := 3) (v := .pointer (some ⟨b, 5, none⟩)) rfl rfl 19 rfl (Op.fieldAddr 80 (.tmp 18) 3) rfl (by kernel_rfl) (fun _ _ _ h => h) inv (fun W hS => by unfold bareO; go_simp) HS (fun inv => ?_)
      try simp only [Act.put, List.setIfInBounds_toArray, List.set_cons_zero, List.set_cons_succ]
      refine FirstH.go (i := 4) (v := .slice G nC gc) rfl rfl 20 rfl (Op.load 30 (.tmp 19)) rfl (by kernel_rfl) (fun _ _ _ h => h) inv (fun W hS => by have c5 := cell_of hS.1 5 (.slice G nC gc) G5.out; have x0 := cell_of hS.2 0 (.int .u8 x.n) rfl; have x1 := cell_of hS.2 1 (.int .u16 x.l) rfl; unfold bareO; go_simp) HS (fun inv => ?_)
      try simp only [Act.put, List.setIfInBounds_toArray, List.set_cons_zero, List.set_cons_succ]
      refine FirstH.go (i := 5) (v := .agg #[.int .u8 x.n, .int .u16 x.l]) rfl rfl 21 rfl (Op.load 38 (.tmp 7)) rfl (by kernel_rfl) (fun _ _ _ h => h) inv (fun W hS => by have c5 := cell_of hS.1 5 (.slice G nC gc) G5.out; have x0 := cell_of hS.2 0 (.int .u8 x.n) rfl; have x1 := cell_of hS.2 1 (.int .u16 x.l) rfl; unfold bareO; go_simp) HS (fun inv => ?_)
      try simp only [Act.put, List.setIfInBounds_toArray, List.set_cons_zero, List.set_cons_succ]
      have kb : b < wd.heap.size := heap_lt HS.1
      have kx : k0 < wd.heap.size := heap_lt HS.2
      obtain ⟨ka, hka⟩ : ∃ k, wd.heap.size = k := ⟨_, rfl⟩
      obtain ⟨wa, hwa⟩ : ∃ z, wd.alloc (.cells #[.int .u8 x.n, .int .u16 x.l] 38) = z := ⟨_, rfl⟩
      have hrv := V.rowsV_new wd x 38
      have ba : Below wd.heap.size wd wa := by rw [← hwa]; exact (Below.refl _ _).alloc (Nat.le_refl _) _
      rw [hwa, hka] at hrv
      have HQa := Lib.hid (HQd.out.below ba)
      have HKa := Lib.hid (HKd.out.trans (KP.of_below (S := FR b r) ba) fun _ _ h => h)
      have HBa := Lib.hid ba
      have HWa := Lib.hid hwa
      have HKA := Lib.hid hka
      have HSa : wa.heap[b]? = some (.cells (d.rs r) 80 (0, 0)) ∧ wa.heap[k0]? = some (.cells #[.int .u8 x.n, .int .u16 x.l] 38 (0, 0)) := ⟨HQa.out.blk, (ba.block k0 kx).trans HS.2⟩
      refine FirstH.only (i := 6) (by kernel_rfl) (by decide) inv (fun inv => wpOp_run (i := 6) (v := .slice (some ⟨ka, 0, none⟩) 1 1) (w' := wa) rfl rfl 22 rfl (Op.buildSlice 30 1 #[(0, .tmp 21)]) rfl (by unfold bareO; first | (go_simp; done) | (go_simp; rw [HWa.out, HKA.out])) ?_)
      refine ⟨HSa, ?_⟩
      try simp only [Act.put, List.setIfInBounds_toArray, List.set_cons_zero, List.set_cons_succ]
      clear HS kb kx hka hwa ba
      have hown := HQa.out.got
      rw [HGV.out, HNC.out] at hown
      refine FirstH.only (i := 7) (by kernel_rfl) (by decide) inv (fun inv => wpOp_appR (i := 7) rfl rfl 23 rfl (.tmp 20) (.tmp 22) rfl B (.slice G nC gc) nC (V.cellsV d.C) rfl hown ⟨ka, 0, none⟩ [x] 1 1 _ rfl rfl hrv (by have := HFEW.out; simp; omega) (Nat.le_trans HQa.out.hb (Nat.le_of_lt HQa.out.lt)) ?_)
      intro v9 w9 O9 g9
      rw [← HGV.out] at g9
      have HSb : w9.heap[b]? = some (.cells (d.rs r) 80 (0, 0)) ∧ w9.heap[k0]? = some (.cells #[.int .u8 x.n, .int .u16 x.l] 38 (0, 0)) := ⟨(g9.block b HQa.out.lt fun e => HQa.out.apart b e.symm rfl).trans HSa.1, (g9.block k0 (heap_lt HSa.2) fun e => by have := (HQ.out.got.lt k0 e.symm).2; rw [HK0.out] at this; omega).trans HSa.2⟩
      refine ⟨HSb, ?_⟩
      try simp only [Act.put, List.setIfInBounds_toArray, List.set_cons_zero, List.set_cons_succ]
      clear HSa HSb
      refine ⟨by kernel_rfl, ?_⟩
      simp only [List.drop_succ_cons, List.drop_zero]
      have r9 := (g9.block b HQa.out.lt fun e => HQa.out.apart b e.symm rfl).trans HQa.out.blk
      have c9 := cell_of r9 5 (.slice G nC gc) G5.out
      have f9 := frz_row 5 r9
      have oc9 : v9.oneCell' = true := by
        rcases O9.2 with ⟨rfl, _⟩ | ⟨g, cap, cur, rfl, _⟩
        · rfl
        · rfl
      obtain ⟨A9, n9, rfl, -, -⟩ : ∃ A9 n9, v9 = .slice A9 (nC + 1) n9 ∧ True ∧ True := by
        rcases O9.2 with ⟨e, e2⟩ | ⟨g, cap, cur, e, _⟩
        · simp at e2
        · exact ⟨_, cap, e, trivial, trivial⟩
      obtain ⟨w10, hw10⟩ : ∃ z, w9.setCell ⟨b, 5, none⟩ (.slice A9 (nC + 1) n9) = z := ⟨_, rfl⟩
      have happ := HQa.out.app (x := x) g9 (by rw [HNC.out]; exact O9) HXC.out HXM.out
      rw [hw10] at happ
      have HQ10 := Lib.hid happ.1
      have HK10 := Lib.hid (HKa.out.trans happ.2 fun _ _ h => h)
      have HF10 := Lib.hid happ.2
      have HW10 := Lib.hid hw10
      clear happ hw10 O9 g9 hown hrv r9 oc9
      have ryd : wd.heap[k1]? = some (.cells #[.slice A1 ny c1, .slice A2 nl c2] 33 (0, 0)) := RYd.out.trans RY2.out
      have rya := (HBa.out.block k1 (heap_lt ryd)).trans ryd
      have nf : ¬ FR b r k1 := HQa.out.free rya (by have := HBK.out; have := EK1.out; omega) (by decide)
      have ry10 := (HF10.out.block k1 (heap_lt rya) nf).trans rya
      have q9 := cell_of HQ10.out.blk 9 (.bool hh) (by rw [← HHH.out]; rfl)
      have q6 := cell_of HQ10.out.blk 6 (.int .u64 hb) (by rw [← HHB.out]; rfl)
      obtain ⟨w13, hw13⟩ : ∃ z, w10 = z := ⟨_, rfl⟩
      subst hw13
      have HQ13 := HQ10
      have KP13 := HK10
      have q10 := cell_of HQ13.out.blk 10 (.slice At nL ct) (by rw [← HTX.out]; rfl)
      have f10 := frz_row 10 HQ13.out.blk
      have ht13 := HT.out.below (KP13.out.below (base := B) (by rw [HK0.out]; exact HBB.out) HQ.out.foot) (Nat.le_refl _) (Nat.le_refl _)
      have hz13 : (⟨.slice none 0 0, [], .slice TA nT tc, T⟩ : Vl).At w10 B := ⟨⟨none, 0, rfl, fun h => absurd rfl h, Nat.le_refl _, by unfold maxLen; omega⟩, ⟨TA, tc, by rw [← HNT.out], ht13, by rw [HNT.out]; exact HTL.out, HTM.out⟩, by simp, HT1.out⟩
      obtain ⟨w14, hw14⟩ : ∃ z, w10.setCell ⟨b, 10, none⟩ (.slice TA nT tc) = z := ⟨_, rfl⟩
      have htl := HQ13.out.tail _ hz13
      dsimp only at htl
      rw [hw14] at htl
      have HQ14 := Lib.hid htl.1
      have KP14 := Lib.hid (KP13.out.trans (htl.2.mono fun i (e : i = b) => (.inl e : FR b r i)) fun _ _ h => h)
      have HW14 := Lib.hid hw14
      clear htl hz13 ht13 hw14
      clear ryd rya nf ry10
      go_wp2_with (first
        | (rw [HW10.out])
        | (rw [HW14.out])
        | fail)
      refine bodyPost_end (results_none rfl _ _ _) rfl ?_
      refine ⟨rfl, fin_of HQ14.out ?_ KP14.out⟩
      have hpr := HC.out
      have hlen := HLg.out
      have hnt := HNT.out
      have hhx := HHH.out
      have hbx := HHB.out
      unfold Pd.promise
      rw [if_pos hpr]
      simp [Pd.longer, Pd.hold, Pd.add, Vl.d, hlen, hnt, hhx, hbx, hlong]
      try (intro hxx; exfalso; omega)
    | true =>
      cases hh with
      | false =>
        go_enter Try.func29, Try.ntmps29
        go_wp2_with (first
          | (rw [HW0.out, HK0.out])
          | (rw [HW1.out, HK1.out])
          | (go_at_call 58
             have KCx := KC.out
             refine KCx.mono ?_
             rintro e w2 ⟨rfl, b2⟩
             have HQ2 := Lib.hid (HQ1.out.below b2)
             have HKP2 := Lib.hid (HKP.out.trans (KP.of_below (S := FR b r) b2) fun _ _ h => h)
             have R2 : Hid (w2.drew.heap[b]? = some (.cells (d.rs r) 80 (0, 0)) ∧ w2.drew.heap[k0]? = some (.cells #[.int .u8 x.n, .int .u16 x.l] 38 (0, 0))) := Lib.hid ⟨HQ2.out.blk, (b2.block k0 (heap_lt RX1.out)).trans RX1.out⟩
             have RY2 := Lib.hid ((b2.block k1 (heap_lt RY1.out)).trans RY1.out)
             clear b2)
          | fail)
        refine region_heldT (S := fun u => u.heap[b]? = some (.cells (d.rs r) 80 (0, 0)) ∧ u.heap[k0]? = some (.cells #[.int .u8 x.n, .int .u16 x.l] 38 (0, 0))) 8 (by kernel_rfl) (by decide) (fun inv => ?_)
        have HS := R2.out
        change FirstH _ _ _ _ _ _ _ _ _ _ w2.drew
        have HQd := Lib.hid (HQ2.out.below (Below.refl _ _).drew)
        have HKd : Hid (KP (FR b r) W w2.drew) := Lib.hid (HKP2.out.trans (KP.of_below (S := FR b r) (Below.refl _ _).drew) fun _ _ h => h)
        have RYd : Hid (w2.drew.heap[k1]? = w2.heap[k1]?) := Lib.hid rfl
        generalize w2.drew = wd at *
        refine FirstH.go (i := 0) (v := .pointer (some ⟨b, 0, none⟩)) rfl rfl 16 rfl (Op.move (.tmp 0)) rfl (by kernel_rfl) (fun _ _ _ h => h) inv (fun W hS => by unfold bareO; go_simp) HS (fun inv => ?_)
        try simp only [Act.put, List.setIfInBounds_toArray, List.set_cons_zero, List.set_cons_succ]
        refine FirstH.go (i := 1) (v := .pointer (some ⟨b, 0, none⟩)) rfl rfl 17 rfl (Op.move (.tmp 0)) rfl (by kernel_rfl) (fun _ _ _ h => h) inv (fun W hS => by unfold bareO; go_simp) HS (fun inv => ?_)
        try simp only [Act.put, List.setIfInBounds_toArray, List.set_cons_zero, List.set_cons_succ]
        refine FirstH.go (i := 2) (v := .pointer (some ⟨b, 0, none⟩)) rfl rfl 18 rfl (Op.nilCheck (.tmp 17)) rfl (by kernel_rfl) (fun _ _ _ h => h) inv (fun W hS => by unfold bareO; go_simp) HS (fun inv => ?_)
        try simp only [Act.put, List.setIfInBounds_toArray, List.set_cons_zero, List.set_cons_succ]
        refine FirstH.go (i := 3) (v := .pointer (some ⟨b, 5, none⟩)) rfl rfl 19 rfl (Op.fieldAddr 80 (.tmp 18) 3) rfl (by kernel_rfl) (fun _ _ _ h => h) inv (fun W hS => by unfold bareO; go_simp) HS (fun inv => ?_)
        try simp only [Act.put, List.setIfInBounds_toArray, List.set_cons_zero, List.set_cons_succ]
        refine FirstH.go (i := 4) (v := .slice G nC gc) rfl rfl 20 rfl (Op.load 30 (.tmp 19)) rfl (by kernel_rfl) (fun _ _ _ h => h) inv (fun W hS => by have c5 := cell_of hS.1 5 (.slice G nC gc) G5.out; have x0 := cell_of hS.2 0 (.int .u8 x.n) rfl; have x1 := cell_of hS.2 1 (.int .u16 x.l) rfl; unfold bareO; go_simp) HS (fun inv => ?_)
        try simp only [Act.put, List.setIfInBounds_toArray, List.set_cons_zero, List.set_cons_succ]
        refine FirstH.go (i := 5) (v := .agg #[.int .u8 x.n, .int .u16 x.l]) rfl rfl 21 rfl (Op.load 38 (.tmp 7)) rfl (by kernel_rfl) (fun _ _ _ h => h) inv (fun W hS => by have c5 := cell_of hS.1 5 (.slice G nC gc) G5.out; have x0 := cell_of hS.2 0 (.int .u8 x.n) rfl; have x1 := cell_of hS.2 1 (.int .u16 x.l) rfl; unfold bareO; go_simp) HS (fun inv => ?_)
        try simp only [Act.put, List.setIfInBounds_toArray, List.set_cons_zero, List.set_cons_succ]
        have kb : b < wd.heap.size := heap_lt HS.1
        have kx : k0 < wd.heap.size := heap_lt HS.2
        obtain ⟨ka, hka⟩ : ∃ k, wd.heap.size = k := ⟨_, rfl⟩
        obtain ⟨wa, hwa⟩ : ∃ z, wd.alloc (.cells #[.int .u8 x.n, .int .u16 x.l] 38) = z := ⟨_, rfl⟩
        have hrv := V.rowsV_new wd x 38
        have ba : Below wd.heap.size wd wa := by rw [← hwa]; exact (Below.refl _ _).alloc (Nat.le_refl _) _
        rw [hwa, hka] at hrv
        have HQa := Lib.hid (HQd.out.below ba)
        have HKa := Lib.hid (HKd.out.trans (KP.of_below (S := FR b r) ba) fun _ _ h => h)
        have HBa := Lib.hid ba
        have HWa := Lib.hid hwa
        have HKA := Lib.hid hka
        have HSa : wa.heap[b]? = some (.cells (d.rs r) 80 (0, 0)) ∧ wa.heap[k0]? = some (.cells #[.int .u8 x.n, .int .u16 x.l] 38 (0, 0)) := ⟨HQa.out.blk, (ba.block k0 kx).trans HS.2⟩
        refine FirstH.only (i := 6) (by kernel_rfl) (by decide) inv (fun inv => wpOp_run (i := 6) (v := .slice (some ⟨ka, 0, none⟩) 1 1) (w' := wa) rfl rfl 22 rfl (Op.buildSlice 30 1 #[(0, .tmp 21)]) rfl (by unfold bareO; first | (go_simp; done) | (go_simp; rw [HWa.out, HKA.out])) ?_)
        refine ⟨HSa, ?_⟩
        try simp only [Act.put, List.setIfInBounds_toArray, List.set_cons_zero, List.set_cons_succ]
        clear HS kb kx hka hwa ba
        have hown := HQa.out.got
        rw [HGV.out, HNC.out] at hown
        refine FirstH.only (i := 7) (by kernel_rfl) (by decide) inv (fun inv => wpOp_appR (i := 7) rfl rfl 23 rfl (.tmp 20) (.tmp 22) rfl B (.slice G nC gc) nC (V.cellsV d.C) rfl hown ⟨ka, 0, none⟩ [x] 1 1 _ rfl rfl hrv (by have := HFEW.out; simp; omega) (Nat.le_trans HQa.out.hb (Nat.le_of_lt HQa.out.lt)) ?_)
        intro v9 w9 O9 g9
        rw [← HGV.out] at g9
        have HSb : w9.heap[b]? = some (.cells (d.rs r) 80 (0, 0)) ∧ w9.heap[k0]? = some (.cells #[.int .u8 x.n, .int .u16 x.l] 38 (0, 0)) := ⟨(g9.block b HQa.out.lt fun e => HQa.out.apart b e.symm rfl).trans HSa.1, (g9.block k0 (heap_lt HSa.2) fun e => by have := (HQ.out.got.lt k0 e.symm).2; rw [HK0.out] at this; omega).trans HSa.2⟩
        refine ⟨HSb, ?_⟩
        try simp only [Act.put, List.setIfInBounds_toArray, List.set_cons_zero, List.set_cons_succ]
        clear HSa HSb
        refine ⟨by kernel_rfl, ?_⟩
        simp only [List.drop_succ_cons, List.drop_zero]
        have r9 := (g9.block b HQa.out.lt fun e => HQa.out.apart b e.symm rfl).trans HQa.out.blk
        have c9 := cell_of r9 5 (.slice G nC gc) G5.out
        have f9 := frz_row 5 r9
        have oc9 : v9.oneCell' = true := by
          rcases O9.2 with ⟨rfl, _⟩ | ⟨g, cap, cur, rfl, _⟩
          · rfl
          · rfl
        obtain ⟨A9, n9, rfl, -, -⟩ : ∃ A9 n9, v9 = .slice A9 (nC + 1) n9 ∧ True ∧ True := by
          rcases O9.2 with ⟨e, e2⟩ | ⟨g, cap, cur, e, _⟩
          · simp at e2
          · exact ⟨_, cap, e, trivial, trivial⟩
        obtain ⟨w10, hw10⟩ : ∃ z, w9.setCell ⟨b, 5, none⟩ (.slice A9 (nC + 1) n9) = z := ⟨_, rfl⟩
        have happ := HQa.out.app (x := x) g9 (by rw [HNC.out]; exact O9) HXC.out HXM.out
        rw [hw10] at happ
        have HQ10 := Lib.hid happ.1
        have HK10 := Lib.hid (HKa.out.trans happ.2 fun _ _ h => h)
        have HF10 := Lib.hid happ.2
        have HW10 := Lib.hid hw10
        clear happ hw10 O9 g9 hown hrv r9 oc9
        have ryd : wd.heap[k1]? = some (.cells #[.slice A1 ny c1, .slice A2 nl c2] 33 (0, 0)) := RYd.out.trans RY2.out
        have rya := (HBa.out.block k1 (heap_lt ryd)).trans ryd
        have nf : ¬ FR b r k1 := HQa.out.free rya (by have := HBK.out; have := EK1.out; omega) (by decide)
        have ry10 := (HF10.out.block k1 (heap_lt rya) nf).trans rya
        have q9 := cell_of HQ10.out.blk 9 (.bool false) (by rw [← HHH.out]; rfl)
        have q6 := cell_of HQ10.out.blk 6 (.int .u64 hb) (by rw [← HHB.out]; rfl)
        have f9b := frz_row 9 HQ10.out.blk
        have hy10 := HY.out.below (HK10.out.below (base := B) (by rw [HK0.out]; exact HBB.out) HQ.out.foot) (Nat.le_refl _) (Nat.le_refl _)
        obtain ⟨w11, hw11⟩ : ∃ z, w10.setCell ⟨b, 9, none⟩ (.bool true) = z := ⟨_, rfl⟩
        obtain ⟨w12, hw12⟩ : ∃ z, w11.setCell ⟨b, 6, none⟩ (.int .u64 acc) = z := ⟨_, rfl⟩
        obtain ⟨w13, hw13⟩ : ∃ z, w12.setCells b 7 [.slice A1 ny c1, .slice A2 nl c2] = z := ⟨_, rfl⟩
        obtain ⟨hq13, kp13, r11, r12, kp12⟩ := HQ10.out.hold acc ⟨.slice A1 ny c1, Y, .slice A2 nl c2, L⟩ hy10 hw11 hw12 hw13
        have q11 := cell_of r11 6 (.int .u64 hb) (by rw [← HHB.out]; rfl)
        have f11 := frz_row 6 r11
        have th := Lib.hid (there_row (g := b) (o := 7) (n := 2) r12 (by show 7 + 2 ≤ 13; omega))
        have ry12 := (kp12.block k1 (heap_lt ry10) (by have := HBK.out; have := EK1.out; omega)).trans ry10
        have y0 := cell_of ry12 0 (.slice A1 ny c1) rfl
        have y1 := cell_of ry12 1 (.slice A2 nl c2) rfl
        have HQ13 := Lib.hid hq13
        have KP13 := Lib.hid (HK10.out.trans (kp13.mono fun i (e : i = b) => (.inl e : FR b r i)) fun _ _ h => h)
        have HW11 := Lib.hid hw11
        have HW12 := Lib.hid hw12
        have HW13 := Lib.hid hw13
        clear hq13 kp13 r11 r12 kp12 hy10 ry12 hw11 hw12 hw13
        have q10 := cell_of HQ13.out.blk 10 (.slice At nL ct) (by rw [← HTX.out]; rfl)
        have f10 := frz_row 10 HQ13.out.blk
        have ht13 := HT.out.below (KP13.out.below (base := B) (by rw [HK0.out]; exact HBB.out) HQ.out.foot) (Nat.le_refl _) (Nat.le_refl _)
        have hz13 : (⟨.slice none 0 0, [], .slice TA nT tc, T⟩ : Vl).At w13 B := ⟨⟨none, 0, rfl, fun h => absurd rfl h, Nat.le_refl _, by unfold maxLen; omega⟩, ⟨TA, tc, by rw [← HNT.out], ht13, by rw [HNT.out]; exact HTL.out, HTM.out⟩, by simp, HT1.out⟩
        obtain ⟨w14, hw14⟩ : ∃ z, w13.setCell ⟨b, 10, none⟩ (.slice TA nT tc) = z := ⟨_, rfl⟩
        have htl := HQ13.out.tail _ hz13
        dsimp only at htl
        rw [hw14] at htl
        have HQ14 := Lib.hid htl.1
        have KP14 := Lib.hid (KP13.out.trans (htl.2.mono fun i (e : i = b) => (.inl e : FR b r i)) fun _ _ h => h)
        have HW14 := Lib.hid hw14
        clear htl hz13 ht13 hw14
        clear ryd rya nf ry10
        go_wp2_with (first
          | (rw [HW10.out])
          | (rw [HW11.out])
          | (rw [HW12.out])
          | (have thx := th.out
             refine wpList_store_mid rfl 33 (.tmp 52) (.tmp 50) rfl b 7 #[.slice A1 ny c1, .slice A2 nl c2] (by rfl) (by rfl) thx (by kernel_rfl) (by simp [Value.oneCell']) ?_
             rw [HW13.out])
          | (rw [HW14.out])
          | fail)
        refine bodyPost_end (results_none rfl _ _ _) rfl ?_
        refine ⟨rfl, fin_of HQ14.out ?_ KP14.out⟩
        have hpr := HC.out
        have hlen := HLg.out
        have hnt := HNT.out
        have hhx := HHH.out
        have hbx := HHB.out
        unfold Pd.promise
        rw [if_pos hpr]
        simp [Pd.longer, Pd.hold, Pd.add, Vl.d, hlen, hnt, hhx, hbx, hlong]
        try (intro hxx; exfalso; omega)
      | true =>
        by_cases hlt : hb < acc
        · go_enter Try.func29, Try.ntmps29
          go_wp2_with (first
            | (rw [HW0.out, HK0.out])
            | (rw [HW1.out, HK1.out])
            | (go_at_call 58
               have KCx := KC.out
               refine KCx.mono ?_
               rintro e w2 ⟨rfl, b2⟩
               have HQ2 := Lib.hid (HQ1.out.below b2)
               have HKP2 := Lib.hid (HKP.out.trans (KP.of_below (S := FR b r) b2) fun _ _ h => h)
               have R2 : Hid (w2.drew.heap[b]? = some (.cells (d.rs r) 80 (0, 0)) ∧ w2.drew.heap[k0]? = some (.cells #[.int .u8 x.n, .int .u16 x.l] 38 (0, 0))) := Lib.hid ⟨HQ2.out.blk, (b2.block k0 (heap_lt RX1.out)).trans RX1.out⟩
               have RY2 := Lib.hid ((b2.block k1 (heap_lt RY1.out)).trans RY1.out)
               clear b2)
            | fail)
          refine region_heldT (S := fun u => u.heap[b]? = some (.cells (d.rs r) 80 (0, 0)) ∧ u.heap[k0]? = some (.cells #[.int .u8 x.n, .int .u16 x.l] 38 (0, 0))) 8 (by kernel_rfl) (by decide) (fun inv => ?_)
          have HS := R2.out
          change FirstH _ _ _ _ _ _ _ _ _ _ w2.drew
          have HQd := Lib.hid (HQ2.out.below (Below.refl _ _).drew)
          have HKd : Hid (KP (FR b r) W w2.drew) := Lib.hid (HKP2.out.trans (KP.of_below (S := FR b r) (Below.refl _ _).drew) fun _ _ h => h)
          have RYd : Hid (w2.drew.heap[k1]? = w2.heap[k1]?) := Lib.hid rfl
          generalize w2.drew = wd at *
          refine FirstH.go (i := 0) (v := .pointer (some ⟨b, 0, none⟩)) rfl rfl 16 rfl (Op.move (.tmp 0)) rfl (by kernel_rfl) (fun _ _ _ h => h) inv (fun W hS => by unfold bareO; go_simp) HS (fun inv => ?_)
          try simp only [Act.put, List.setIfInBounds_toArray, List.set_cons_zero, List.set_cons_succ]
          refine FirstH.go (i := 1) (v := .pointer (some ⟨b, 0, none⟩)) rfl rfl 17 rfl (Op.move (.tmp 0)) rfl (by kernel_rfl) (fun _ _ _ h => h) inv (fun W hS => by unfold bareO; go_simp) HS (fun inv => ?_)
          try simp only [Act.put, List.setIfInBounds_toArray, List.set_cons_zero, List.set_cons_succ]
          refine FirstH.go (i := 2) (v := .pointer (some ⟨b, 0, none⟩)) rfl rfl 18 rfl (Op.nilCheck (.tmp 17)) rfl (by kernel_rfl) (fun _ _ _ h => h) inv (fun W hS => by unfold bareO; go_simp) HS (fun inv => ?_)
          try simp only [Act.put, List.setIfInBounds_toArray, List.set_cons_zero, List.set_cons_succ]
          refine FirstH.go (i := 3) (v := .pointer (some ⟨b, 5, none⟩)) rfl rfl 19 rfl (Op.fieldAddr 80 (.tmp 18) 3) rfl (by kernel_rfl) (fun _ _ _ h => h) inv (fun W hS => by unfold bareO; go_simp) HS (fun inv => ?_)
          try simp only [Act.put, List.setIfInBounds_toArray, List.set_cons_zero, List.set_cons_succ]
          refine FirstH.go (i := 4) (v := .slice G nC gc) rfl rfl 20 rfl (Op.load 30 (.tmp 19)) rfl (by kernel_rfl) (fun _ _ _ h => h) inv (fun W hS => by have c5 := cell_of hS.1 5 (.slice G nC gc) G5.out; have x0 := cell_of hS.2 0 (.int .u8 x.n) rfl; have x1 := cell_of hS.2 1 (.int .u16 x.l) rfl; unfold bareO; go_simp) HS (fun inv => ?_)
          try simp only [Act.put, List.setIfInBounds_toArray, List.set_cons_zero, List.set_cons_succ]
          refine FirstH.go (i := 5) (v := .agg #[.int .u8 x.n, .int .u16 x.l]) rfl rfl 21 rfl (Op.load 38 (.tmp 7)) rfl (by kernel_rfl) (fun _ _ _ h => h) inv (fun W hS => by have c5 := cell_of hS.1 5 (.slice G nC gc) G5.out; have x0 := cell_of hS.2 0 (.int .u8 x.n) rfl; have x1 := cell_of hS.2 1 (.int .u16 x.l) rfl; unfold bareO; go_simp) HS (fun inv => ?_)
          try simp only [Act.put, List.setIfInBounds_toArray, List.set_cons_zero, List.set_cons_succ]
          have kb : b < wd.heap.size := heap_lt HS.1
          have kx : k0 < wd.heap.size := heap_lt HS.2
          obtain ⟨ka, hka⟩ : ∃ k, wd.heap.size = k := ⟨_, rfl⟩
          obtain ⟨wa, hwa⟩ : ∃ z, wd.alloc (.cells #[.int .u8 x.n, .int .u16 x.l] 38) = z := ⟨_, rfl⟩
          have hrv := V.rowsV_new wd x 38
          have ba : Below wd.heap.size wd wa := by rw [← hwa]; exact (Below.refl _ _).alloc (Nat.le_refl _) _
          rw [hwa, hka] at hrv
          have HQa := Lib.hid (HQd.out.below ba)
          have HKa := Lib.hid (HKd.out.trans (KP.of_below (S := FR b r) ba) fun _ _ h => h)
          have HBa := Lib.hid ba
          have HWa := Lib.hid hwa
          have HKA := Lib.hid hka
          have HSa : wa.heap[b]? = some (.cells (d.rs r) 80 (0, 0)) ∧ wa.heap[k0]? = some (.cells #[.int .u8 x.n, .int .u16 x.l] 38 (0, 0)) := ⟨HQa.out.blk, (ba.block k0 kx).trans HS.2⟩
          refine FirstH.only (i := 6) (by kernel_rfl) (by decide) inv (fun inv => wpOp_run (i := 6) (v := .slice (some ⟨ka, 0, none⟩) 1 1) (w' := wa) rfl rfl 22 rfl (Op.buildSlice 30 1 #[(0, .tmp 21)]) rfl (by unfold bareO; first | (go_simp; done) | (go_simp; rw [HWa.out, HKA.out])) ?_)
          refine ⟨HSa, ?_⟩
          try simp only [Act.put, List.setIfInBounds_toArray, List.set_cons_zero, List.set_cons_succ]
          clear HS kb kx hka hwa ba
          have hown := HQa.out.got
          rw [HGV.out, HNC.out] at hown
          refine FirstH.only (i := 7) (by kernel_rfl) (by decide) inv (fun inv => wpOp_appR (i := 7) rfl rfl 23 rfl (.tmp 20) (.tmp 22) rfl B (.slice G nC gc) nC (V.cellsV d.C) rfl hown ⟨ka, 0, none⟩ [x] 1 1 _ rfl rfl hrv (by have := HFEW.out; simp; omega) (Nat.le_trans HQa.out.hb (Nat.le_of_lt HQa.out.lt)) ?_)
          intro v9 w9 O9 g9
          rw [← HGV.out] at g9
          have HSb : w9.heap[b]? = some (.cells (d.rs r) 80 (0, 0)) ∧ w9.heap[k0]? = some (.cells #[.int .u8 x.n, .int .u16 x.l] 38 (0, 0)) := ⟨(g9.block b HQa.out.lt fun e => HQa.out.apart b e.symm rfl).trans HSa.1, (g9.block k0 (heap_lt HSa.2) fun e => by have := (HQ.out.got.lt k0 e.symm).2; rw [HK0.out] at this; omega).trans HSa.2⟩
          refine ⟨HSb, ?_⟩
          try simp only [Act.put, List.setIfInBounds_toArray, List.set_cons_zero, List.set_cons_succ]
          clear HSa HSb
          refine ⟨by kernel_rfl, ?_⟩
          simp only [List.drop_succ_cons, List.drop_zero]
          have r9 := (g9.block b HQa.out.lt fun e => HQa.out.apart b e.symm rfl).trans HQa.out.blk
          have c9 := cell_of r9 5 (.slice G nC gc) G5.out
          have f9 := frz_row 5 r9
          have oc9 : v9.oneCell' = true := by
            rcases O9.2 with ⟨rfl, _⟩ | ⟨g, cap, cur, rfl, _⟩
            · rfl
            · rfl
          obtain ⟨A9, n9, rfl, -, -⟩ : ∃ A9 n9, v9 = .slice A9 (nC + 1) n9 ∧ True ∧ True := by
            rcases O9.2 with ⟨e, e2⟩ | ⟨g, cap, cur, e, _⟩
            · simp at e2
            · exact ⟨_, cap, e, trivial, trivial⟩
          obtain ⟨w10, hw10⟩ : ∃ z, w9.setCell ⟨b, 5, none⟩ (.slice A9 (nC + 1) n9) = z := ⟨_, rfl⟩
          have happ := HQa.out.app (x := x) g9 (by rw [HNC.out]; exact O9) HXC.out HXM.out
          rw [hw10] at happ
          have HQ10 := Lib.hid happ.1
          have HK10 := Lib.hid (HKa.out.trans happ.2 fun _ _ h => h)
          have HF10 := Lib.hid happ.2
          have HW10 := Lib.hid hw10
          clear happ hw10 O9 g9 hown hrv r9 oc9
          have ryd : wd.heap[k1]? = some (.cells #[.slice A1 ny c1, .slice A2 nl c2] 33 (0, 0)) := RYd.out.trans RY2.out
          have rya := (HBa.out.block k1 (heap_lt ryd)).trans ryd
          have nf : ¬ FR b r k1 := HQa.out.free rya (by have := HBK.out; have := EK1.out; omega) (by decide)
          have ry10 := (HF10.out.block k1 (heap_lt rya) nf).trans rya
          have q9 := cell_of HQ10.out.blk 9 (.bool true) (by rw [← HHH.out]; rfl)
          have q6 := cell_of HQ10.out.blk 6 (.int .u64 hb) (by rw [← HHB.out]; rfl)
          have f9b := frz_row 9 HQ10.out.blk
          have hy10 := HY.out.below (HK10.out.below (base := B) (by rw [HK0.out]; exact HBB.out) HQ.out.foot) (Nat.le_refl _) (Nat.le_refl _)
          obtain ⟨w11, hw11⟩ : ∃ z, w10.setCell ⟨b, 9, none⟩ (.bool true) = z := ⟨_, rfl⟩
          obtain ⟨w12, hw12⟩ : ∃ z, w11.setCell ⟨b, 6, none⟩ (.int .u64 acc) = z := ⟨_, rfl⟩
          obtain ⟨w13, hw13⟩ : ∃ z, w12.setCells b 7 [.slice A1 ny c1, .slice A2 nl c2] = z := ⟨_, rfl⟩
          obtain ⟨hq13, kp13, r11, r12, kp12⟩ := HQ10.out.hold acc ⟨.slice A1 ny c1, Y, .slice A2 nl c2, L⟩ hy10 hw11 hw12 hw13
          have q11 := cell_of r11 6 (.int .u64 hb) (by rw [← HHB.out]; rfl)
          have f11 := frz_row 6 r11
          have th := Lib.hid (there_row (g := b) (o := 7) (n := 2) r12 (by show 7 + 2 ≤ 13; omega))
          have ry12 := (kp12.block k1 (heap_lt ry10) (by have := HBK.out; have := EK1.out; omega)).trans ry10
          have y0 := cell_of ry12 0 (.slice A1 ny c1) rfl
          have y1 := cell_of ry12 1 (.slice A2 nl c2) rfl
          have HQ13 := Lib.hid hq13
          have KP13 := Lib.hid (HK10.out.trans (kp13.mono fun i (e : i = b) => (.inl e : FR b r i)) fun _ _ h => h)
          have HW11 := Lib.hid hw11
          have HW12 := Lib.hid hw12
          have HW13 := Lib.hid hw13
          clear hq13 kp13 r11 r12 kp12 hy10 ry12 hw11 hw12 hw13
          have q10 := cell_of HQ13.out.blk 10 (.slice At nL ct) (by rw [← HTX.out]; rfl)
          have f10 := frz_row 10 HQ13.out.blk
          have ht13 := HT.out.below (KP13.out.below (base := B) (by rw [HK0.out]; exact HBB.out) HQ.out.foot) (Nat.le_refl _) (Nat.le_refl _)
          have hz13 : (⟨.slice none 0 0, [], .slice TA nT tc, T⟩ : Vl).At w13 B := ⟨⟨none, 0, rfl, fun h => absurd rfl h, Nat.le_refl _, by unfold maxLen; omega⟩, ⟨TA, tc, by rw [← HNT.out], ht13, by rw [HNT.out]; exact HTL.out, HTM.out⟩, by simp, HT1.out⟩
          obtain ⟨w14, hw14⟩ : ∃ z, w13.setCell ⟨b, 10, none⟩ (.slice TA nT tc) = z := ⟨_, rfl⟩
          have htl := HQ13.out.tail _ hz13
          dsimp only at htl
          rw [hw14] at htl
          have HQ14 := Lib.hid htl.1
          have KP14 := Lib.hid (KP13.out.trans (htl.2.mono fun i (e : i = b) => (.inl e : FR b r i)) fun _ _ h => h)
          have HW14 := Lib.hid hw14
          clear htl hz13 ht13 hw14
          clear ryd rya nf ry10
          go_wp2_with (first
            | (rw [HW10.out])
            | (rw [HW11.out])
            | (rw [HW12.out])
            | (have thx := th.out
               refine wpList_store_mid rfl 33 (.tmp 52) (.tmp 50) rfl b 7 #[.slice A1 ny c1, .slice A2 nl c2] (by rfl) (by rfl) thx (by kernel_rfl) (by simp [Value.oneCell']) ?_
               rw [HW13.out])
            | (rw [HW14.out])
            | fail)
          refine bodyPost_end (results_none rfl _ _ _) rfl ?_
          refine ⟨rfl, fin_of HQ14.out ?_ KP14.out⟩
          have hpr := HC.out
          have hlen := HLg.out
          have hnt := HNT.out
          have hhx := HHH.out
          have hbx := HHB.out
          unfold Pd.promise
          rw [if_pos hpr]
          simp [Pd.longer, Pd.hold, Pd.add, Vl.d, hlen, hnt, hhx, hbx, hlong, hlt]
          try (intro hxx; exfalso; omega)
        · go_enter Try.func29, Try.ntmps29
          go_wp2_with (first
            | (rw [HW0.out, HK0.out])
            | (rw [HW1.out, HK1.out])
            | (go_at_call 58
               have KCx := KC.out
               refine KCx.mono ?_
               rintro e w2 ⟨rfl, b2⟩
               have HQ2 := Lib.hid (HQ1.out.below b2)
               have HKP2 := Lib.hid (HKP.out.trans (KP.of_below (S := FR b r) b2) fun _ _ h => h)
               have R2 : Hid (w2.drew.heap[b]? = some (.cells (d.rs r) 80 (0, 0)) ∧ w2.drew.heap[k0]? = some (.cells #[.int .u8 x.n, .int .u16 x.l] 38 (0, 0))) := Lib.hid ⟨HQ2.out.blk, (b2.block k0 (heap_lt RX1.out)).trans RX1.out⟩
               have RY2 := Lib.hid ((b2.block k1 (heap_lt RY1.out)).trans RY1.out)
               clear b2)
            | fail)
          refine region_heldT (S := fun u => u.heap[b]? = some (.cells (d.rs r) 80 (0, 0)) ∧ u.heap[k0]? = some (.cells #[.int .u8 x.n, .int .u16 x.l] 38 (0, 0))) 8 (by kernel_rfl) (by decide) (fun inv => ?_)
          have HS := R2.out
          change FirstH _ _ _ _ _ _ _ _ _ _ w2.drew
          have HQd := Lib.hid (HQ2.out.below (Below.refl _ _).drew)
          have HKd : Hid (KP (FR b r) W w2.drew) := Lib.hid (HKP2.out.trans (KP.of_below (S := FR b r) (Below.refl _ _).drew) fun _ _ h => h)
          have RYd : Hid (w2.drew.heap[k1]? = w2.heap[k1]?) := Lib.hid rfl
          generalize w2.drew = wd at *
          refine FirstH.go (i := 0) (v := .pointer (some ⟨b, 0, none⟩)) rfl rfl 16 rfl (Op.move (.tmp 0)) rfl (by kernel_rfl) (fun _ _ _ h => h) inv (fun W hS => by unfold bareO; go_simp) HS (fun inv => ?_)
          try simp only [Act.put, List.setIfInBounds_toArray, List.set_cons_zero, List.set_cons_succ]
          refine FirstH.go (i := 1) (v := .pointer (some ⟨b, 0, none⟩)) rfl rfl 17 rfl (Op.move (.tmp 0)) rfl (by kernel_rfl) (fun _ _ _ h => h) inv (fun W hS => by unfold bareO; go_simp) HS (fun inv => ?_)
          try simp only [Act.put, List.setIfInBounds_toArray, List.set_cons_zero, List.set_cons_succ]
          refine FirstH.go (i := 2) (v := .pointer (some ⟨b, 0, none⟩)) rfl rfl 18 rfl (Op.nilCheck (.tmp 17)) rfl (by kernel_rfl) (fun _ _ _ h => h) inv (fun W hS => by unfold bareO; go_simp) HS (fun inv => ?_)
          try simp only [Act.put, List.setIfInBounds_toArray, List.set_cons_zero, List.set_cons_succ]
          refine FirstH.go (i := 3) (v := .pointer (some ⟨b, 5, none⟩)) rfl rfl 19 rfl (Op.fieldAddr 80 (.tmp 18) 3) rfl (by kernel_rfl) (fun _ _ _ h => h) inv (fun W hS => by unfold bareO; go_simp) HS (fun inv => ?_)
          try simp only [Act.put, List.setIfInBounds_toArray, List.set_cons_zero, List.set_cons_succ]
          refine FirstH.go (i := 4) (v := .slice G nC gc) rfl rfl 20 rfl (Op.load 30 (.tmp 19)) rfl (by kernel_rfl) (fun _ _ _ h => h) inv (fun W hS => by have c5 := cell_of hS.1 5 (.slice G nC gc) G5.out; have x0 := cell_of hS.2 0 (.int .u8 x.n) rfl; have x1 := cell_of hS.2 1 (.int .u16 x.l) rfl; unfold bareO; go_simp) HS (fun inv => ?_)
          try simp only [Act.put, List.setIfInBounds_toArray, List.set_cons_zero, List.set_cons_succ]
          refine FirstH.go (i := 5) (v := .agg #[.int .u8 x.n, .int .u16 x.l]) rfl rfl 21 rfl (Op.load 38 (.tmp 7)) rfl (by kernel_rfl) (fun _ _ _ h => h) inv (fun W hS => by have c5 := cell_of hS.1 5 (.slice G nC gc) G5.out; have x0 := cell_of hS.2 0 (.int .u8 x.n) rfl; have x1 := cell_of hS.2 1 (.int .u16 x.l) rfl; unfold bareO; go_simp) HS (fun inv => ?_)
          try simp only [Act.put, List.setIfInBounds_toArray, List.set_cons_zero, List.set_cons_succ]
          have kb : b < wd.heap.size := heap_lt HS.1
          have kx : k0 < wd.heap.size := heap_lt HS.2
          obtain ⟨ka, hka⟩ : ∃ k, wd.heap.size = k := ⟨_, rfl⟩
          obtain ⟨wa, hwa⟩ : ∃ z, wd.alloc (.cells #[.int .u8 x.n, .int .u16 x.l] 38) = z := ⟨_, rfl⟩
          have hrv := V.rowsV_new wd x 38
          have ba : Below wd.heap.size wd wa := by rw [← hwa]; exact (Below.refl _ _).alloc (Nat.le_refl _) _
          rw [hwa, hka] at hrv
          have HQa := Lib.hid (HQd.out.below ba)
          have HKa := Lib.hid (HKd.out.trans (KP.of_below (S := FR b r) ba) fun _ _ h => h)
          have HBa := Lib.hid ba
          have HWa := Lib.hid hwa
          have HKA := Lib.hid hka
          have HSa : wa.heap[b]? = some (.cells (d.rs r) 80 (0, 0)) ∧ wa.heap[k0]? = some (.cells #[.int .u8 x.n, .int .u16 x.l] 38 (0, 0)) := ⟨HQa.out.blk, (ba.block k0 kx).trans HS.2⟩
          refine FirstH.only (i := 6) (by kernel_rfl) (by decide) inv (fun inv => wpOp_run (i := 6) (v := .slice (some ⟨ka, 0, none⟩) 1 1) (w' := wa) rfl rfl 22 rfl (Op.buildSlice 30 1 #[(0, .tmp 21)]) rfl (by unfold bareO; first | (go_simp; done) | (go_simp; rw [HWa.out, HKA.out])) ?_)
          refine ⟨HSa, ?_⟩
          try simp only [Act.put, List.setIfInBounds_toArray, List.set_cons_zero, List.set_cons_succ]
          clear HS kb kx hka hwa ba
          have hown := HQa.out.got
          rw [HGV.out, HNC.out] at hown
          refine FirstH.only (i := 7) (by kernel_rfl) (by decide) inv (fun inv => wpOp_appR (i := 7) rfl rfl 23 rfl (.tmp 20) (.tmp 22) rfl B (.slice G nC gc) nC (V.cellsV d.C) rfl hown ⟨ka, 0, none⟩ [x] 1 1 _ rfl rfl hrv (by have := HFEW.out; simp; omega) (Nat.le_trans HQa.out.hb (Nat.le_of_lt HQa.out.lt)) ?_)
          intro v9 w9 O9 g9
          rw [← HGV.out] at g9
          have HSb : w9.heap[b]? = some (.cells (d.rs r) 80 (0, 0)) ∧ w9.heap[k0]? = some (.cells #[.int .u8 x.n, .int .u16 x.l] 38 (0, 0)) := ⟨(g9.block b HQa.out.lt fun e => HQa.out.apart b e.symm rfl).trans HSa.1, (g9.block k0 (heap_lt HSa.2) fun e => by have := (HQ.out.got.lt k0 e.symm).2; rw [HK0.out] at this; omega).trans HSa.2⟩
          refine ⟨HSb, ?_⟩
          try simp only [Act.put, List.setIfInBounds_toArray, List.set_cons_zero, List.set_cons_succ]
          clear HSa HSb
          refine ⟨by kernel_rfl, ?_⟩
          simp only [List.drop_succ_cons, List.drop_zero]
          have r9 := (g9.block b HQa.out.lt fun e => HQa.out.apart b e.symm rfl).trans HQa.out.blk
          have c9 := cell_of r9 5 (.slice G nC gc) G5.out
          have f9 := frz_row 5 r9
          have oc9 : v9.oneCell' = true := by
            rcases O9.2 with ⟨rfl, _⟩ | ⟨g, cap, cur, rfl, _⟩
            · rfl
            · rfl
          obtain ⟨A9, n9, rfl, -, -⟩ : ∃ A9 n9, v9 = .slice A9 (nC + 1) n9 ∧ True ∧ True := by
            rcases O9.2 with ⟨e, e2⟩ | ⟨g, cap, cur, e, _⟩
            · simp at e2
            · exact ⟨_, cap, e, trivial, trivial⟩
          obtain ⟨w10, hw10⟩ : ∃ z, w9.setCell ⟨b, 5, none⟩ (.slice A9 (nC + 1) n9) = z := ⟨_, rfl⟩
          have happ := HQa.out.app (x := x) g9 (by rw [HNC.out]; exact O9) HXC.out HXM.out
          rw [hw10] at happ
          have HQ10 := Lib.hid happ.1
          have HK10 := Lib.hid (HKa.out.trans happ.2 fun _ _ h => h)
          have HF10 := Lib.hid happ.2
          have HW10 := Lib.hid hw10
          clear happ hw10 O9 g9 hown hrv r9 oc9
          have ryd : wd.heap[k1]? = some (.cells #[.slice A1 ny c1, .slice A2 nl c2] 33 (0, 0)) := RYd.out.trans RY2.out
          have rya := (HBa.out.block k1 (heap_lt ryd)).trans ryd
          have nf : ¬ FR b r k1 := HQa.out.free rya (by have := HBK.out; have := EK1.out; omega) (by decide)
          have ry10 := (HF10.out.block k1 (heap_lt rya) nf).trans rya
          have q9 := cell_of HQ10.out.blk 9 (.bool true) (by rw [← HHH.out]; rfl)
          have q6 := cell_of HQ10.out.blk 6 (.int .u64 hb) (by rw [← HHB.out]; rfl)
          obtain ⟨w13, hw13⟩ : ∃ z, w10 = z := ⟨_, rfl⟩
          subst hw13
          have HQ13 := HQ10
          have KP13 := HK10
          have q10 := cell_of HQ13.out.blk 10 (.slice At nL ct) (by rw [← HTX.out]; rfl)
          have f10 := frz_row 10 HQ13.out.blk
          have ht13 := HT.out.below (KP13.out.below (base := B) (by rw [HK0.out]; exact HBB.out) HQ.out.foot) (Nat.le_refl _) (Nat.le_refl _)
          have hz13 : (⟨.slice none 0 0, [], .slice TA nT tc, T⟩ : Vl).At w10 B := ⟨⟨none, 0, rfl, fun h => absurd rfl h, Nat.le_refl _, by unfold maxLen; omega⟩, ⟨TA, tc, by rw [← HNT.out], ht13, by rw [HNT.out]; exact HTL.out, HTM.out⟩, by simp, HT1.out⟩
          obtain ⟨w14, hw14⟩ : ∃ z, w10.setCell ⟨b, 10, none⟩ (.slice TA nT tc) = z := ⟨_, rfl⟩
          have htl := HQ13.out.tail _ hz13
          dsimp only at htl
          rw [hw14] at htl
          have HQ14 := Lib.hid htl.1
          have KP14 := Lib.hid (KP13.out.trans (htl.2.mono fun i (e : i = b) => (.inl e : FR b r i)) fun _ _ h => h)
          have HW14 := Lib.hid hw14
          clear htl hz13 ht13 hw14
          clear ryd rya nf ry10
          go_wp2_with (first
            | (rw [HW10.out])
            | (rw [HW14.out])
            | fail)
          refine bodyPost_end (results_none rfl _ _ _) rfl ?_
          refine ⟨rfl, fin_of HQ14.out ?_ KP14.out⟩
          have hpr := HC.out
          have hlen := HLg.out
          have hnt := HNT.out
          have hhx := HHH.out
          have hbx := HHB.out
          unfold Pd.promise
          rw [if_pos hpr]
          simp [Pd.longer, Pd.hold, Pd.add, Vl.d, hlen, hnt, hhx, hbx, hlong, hlt]
          try (intro hxx; exfalso; omega)
  · have hli : ¬ (nL : Int) < (nT : Int) := by omega
    cases has with
    | false =>
      go_enter Try.func29, Try.ntmps29
      go_wp2_with (first
        | (rw [HW0.out, HK0.out])
        | (rw [HW1.out, HK1.out])
        | (go_at_call 58
           have KCx := KC.out
           refine KCx.mono ?_
           rintro e w2 ⟨rfl, b2⟩
           have HQ2 := Lib.hid (HQ1.out.below b2)
           have HKP2 := Lib.hid (HKP.out.trans (KP.of_below (S := FR b r) b2) fun _ _ h => h)
           have R2 : Hid (w2.drew.heap[b]? = some (.cells (d.rs r) 80 (0, 0)) ∧ w2.drew.heap[k0]? = some (.cells #[.int .u8 x.n, .int .u16 x.l] 38 (0, 0))) := Lib.hid ⟨HQ2.out.blk, (b2.block k0 (heap_lt RX1.out)).trans RX1.out⟩
           have RY2 := Lib.hid ((b2.block k1 (heap_lt RY1.out)).trans RY1.out)
           clear b2)
        | fail)
      refine region_heldT (S := fun u => u.heap[b]? = some (.cells (d.rs r) 80 (0, 0)) ∧ u.heap[k0]? = some (.cells #[.int .u8 x.n, .int .u16 x.l] 38 (0, 0))) 8 (by kernel_rfl) (by decide) (fun inv => ?_)
      have HS := R2.out
      change FirstH _ _ _ _ _ _ _ _ _ _ w2.drew
      have HQd := Lib.hid (HQ2.out.below (Below.refl _ _).drew)
      have HKd : Hid (KP (FR b r) W w2.drew) := Lib.hid (HKP2.out.trans (KP.of_below (S := FR b r) (Below.refl _ _).drew) fun _ _ h => h)
      have RYd : Hid (w2.drew.heap[k1]? = w2.heap[k1]?) := Lib.hid rfl
      generalize w2.drew = wd at *
      refine FirstH.go (i := 0) (v := .pointer (some ⟨b, 0, none⟩)) rfl rfl 16 rfl (Op.move (.tmp 0)) rfl (by kernel_rfl) (fun _ _ _ h => h) inv (fun W hS => by unfold bareO; go_simp) HS (fun inv => ?_)
      try simp only [Act.put, List.setIfInBounds_toArray, List.set_cons_zero, List.set_cons_succ]
      refine FirstH.go (i := 1) (v := .pointer (some ⟨b, 0, none⟩)) rfl rfl 17 rfl (Op.move (.tmp 0)) rfl (by kernel_rfl) (fun _ _ _ h => h) inv (fun W hS => by unfold bareO; go_simp) HS (fun inv => ?_)
      try simp only [Act.put, List.setIfInBounds_toArray, List.set_cons_zero, List.set_cons_succ]
      refine FirstH.go (i := 2) (v := .pointer (some ⟨b, 0, none⟩)) rfl rfl 18 rfl (Op.nilCheck (.tmp 17)) rfl (by kernel_rfl) (fun _ _ _ h => h) inv (fun W hS => by unfold bareO; go_simp) HS (fun inv => ?_)
      try simp only [Act.put, List.setIfInBounds_toArray, List.set_cons_zero, List.set_cons_succ]
      refine FirstH.go (i := 3) (v := .pointer (some ⟨b, 5, none⟩)) rfl rfl 19 rfl (Op.fieldAddr 80 (.tmp 18) 3) rfl (by kernel_rfl) (fun _ _ _ h => h) inv (fun W hS => by unfold bareO; go_simp) HS (fun inv => ?_)
      try simp only [Act.put, List.setIfInBounds_toArray, List.set_cons_zero, List.set_cons_succ]
      refine FirstH.go (i := 4) (v := .slice G nC gc) rfl rfl 20 rfl (Op.load 30 (.tmp 19)) rfl (by kernel_rfl) (fun _ _ _ h => h) inv (fun W hS => by have c5 := cell_of hS.1 5 (.slice G nC gc) G5.out; have x0 := cell_of hS.2 0 (.int .u8 x.n) rfl; have x1 := cell_of hS.2 1 (.int .u16 x.l) rfl; unfold bareO; go_simp) HS (fun inv => ?_)
      try simp only [Act.put, List.setIfInBounds_toArray, List.set_cons_zero, List.set_cons_succ]
      refine FirstH.go (i := 5) (v := .agg #[.int .u8 x.n, .int .u16 x.l]) rfl rfl 21 rfl (Op.load 38 (.tmp 7)) rfl (by kernel_rfl) (fun _ _ _ h => h) inv (fun W hS => by have c5 := cell_of hS.1 5 (.slice G nC gc) G5.out; have x0 := cell_of hS.2 0 (.int .u8 x.n) rfl; have x1 := cell_of hS.2 1 (.int .u16 x.l) rfl; unfold bareO; go_simp) HS (fun inv => ?_)
      try simp only [Act.put, List.setIfInBounds_toArray, List.set_cons_zero, List.set_cons_succ]
      have kb : b < wd.heap.size := heap_lt HS.1
      have kx : k0 < wd.heap.size := heap_lt HS.2
      obtain ⟨ka, hka⟩ : ∃ k, wd.heap.size = k := ⟨_, rfl⟩
      obtain ⟨wa, hwa⟩ : ∃ z, wd.alloc (.cells #[.int .u8 x.n, .int .u16 x.l] 38) = z := ⟨_, rfl⟩
      have hrv := V.rowsV_new wd x 38
      have ba : Below wd.heap.size wd wa := by rw [← hwa]; exact (Below.refl _ _).alloc (Nat.le_refl _) _
      rw [hwa, hka] at hrv
      have HQa := Lib.hid (HQd.out.below ba)
      have HKa := Lib.hid (HKd.out.trans (KP.of_below (S := FR b r) ba) fun _ _ h => h)
      have HBa := Lib.hid ba
      have HWa := Lib.hid hwa
      have HKA := Lib.hid hka
      have HSa : wa.heap[b]? = some (.cells (d.rs r) 80 (0, 0)) ∧ wa.heap[k0]? = some (.cells #[.int .u8 x.n, .int .u16 x.l] 38 (0, 0)) := ⟨HQa.out.blk, (ba.block k0 kx).trans HS.2⟩
      refine FirstH.only (i := 6) (by kernel_rfl) (by decide) inv (fun inv => wpOp_run (i := 6) (v := .slice (some ⟨ka, 0, none⟩) 1 1) (w' := wa) rfl rfl 22 rfl (Op.buildSlice 30 1 #[(0, .tmp 21)]) rfl (by unfold bareO; first | (go_simp; done) | (go_simp; rw [HWa.out, HKA.out])) ?_)
      refine ⟨HSa, ?_⟩
      try simp only [Act.put, List.setIfInBounds_toArray, List.set_cons_zero, List.set_cons_succ]
      clear HS kb kx hka hwa ba
      have hown := HQa.out.got
      rw [HGV.out, HNC.out] at hown
      refine FirstH.only (i := 7) (by kernel_rfl) (by decide) inv (fun inv => wpOp_appR (i := 7) rfl rfl 23 rfl (.tmp 20) (.tmp 22) rfl B (.slice G nC gc) nC (V.cellsV d.C) rfl hown ⟨ka, 0, none⟩ [x] 1 1 _ rfl rfl hrv (by have := HFEW.out; simp; omega) (Nat.le_trans HQa.out.hb (Nat.le_of_lt HQa.out.lt)) ?_)
      intro v9 w9 O9 g9
      rw [← HGV.out] at g9
      have HSb : w9.heap[b]? = some (.cells (d.rs r) 80 (0, 0)) ∧ w9.heap[k0]? = some (.cells #[.int .u8 x.n, .int .u16 x.l] 38 (0, 0)) := ⟨(g9.block b HQa.out.lt fun e => HQa.out.apart b e.symm rfl).trans HSa.1, (g9.block k0 (heap_lt HSa.2) fun e => by have := (HQ.out.got.lt k0 e.symm).2; rw [HK0.out] at this; omega).trans HSa.2⟩
      refine ⟨HSb, ?_⟩
      try simp only [Act.put, List.setIfInBounds_toArray, List.set_cons_zero, List.set_cons_succ]
      clear HSa HSb
      refine ⟨by kernel_rfl, ?_⟩
      simp only [List.drop_succ_cons, List.drop_zero]
      have r9 := (g9.block b HQa.out.lt fun e => HQa.out.apart b e.symm rfl).trans HQa.out.blk
      have c9 := cell_of r9 5 (.slice G nC gc) G5.out
      have f9 := frz_row 5 r9
      have oc9 : v9.oneCell' = true := by
        rcases O9.2 with ⟨rfl, _⟩ | ⟨g, cap, cur, rfl, _⟩
        · rfl
        · rfl
      obtain ⟨A9, n9, rfl, -, -⟩ : ∃ A9 n9, v9 = .slice A9 (nC + 1) n9 ∧ True ∧ True := by
        rcases O9.2 with ⟨e, e2⟩ | ⟨g, cap, cur, e, _⟩
        · simp at e2
        · exact ⟨_, cap, e, trivial, trivial⟩
      obtain ⟨w10, hw10⟩ : ∃ z, w9.setCell ⟨b, 5, none⟩ (.slice A9 (nC + 1) n9) = z := ⟨_, rfl⟩
      have happ := HQa.out.app (x := x) g9 (by rw [HNC.out]; exact O9) HXC.out HXM.out
      rw [hw10] at happ
      have HQ10 := Lib.hid happ.1
      have HK10 := Lib.hid (HKa.out.trans happ.2 fun _ _ h => h)
      have HF10 := Lib.hid happ.2
      have HW10 := Lib.hid hw10
      clear happ hw10 O9 g9 hown hrv r9 oc9
      have ryd : wd.heap[k1]? = some (.cells #[.slice A1 ny c1, .slice A2 nl c2] 33 (0, 0)) := RYd.out.trans RY2.out
      have rya := (HBa.out.block k1 (heap_lt ryd)).trans ryd
      have nf : ¬ FR b r k1 := HQa.out.free rya (by have := HBK.out; have := EK1.out; omega) (by decide)
      have ry10 := (HF10.out.block k1 (heap_lt rya) nf).trans rya
      have q9 := cell_of HQ10.out.blk 9 (.bool hh) (by rw [← HHH.out]; rfl)
      have q6 := cell_of HQ10.out.blk 6 (.int .u64 hb) (by rw [← HHB.out]; rfl)
      obtain ⟨w13, hw13⟩ : ∃ z, w10 = z := ⟨_, rfl⟩
      subst hw13
      have HQ13 := HQ10
      have KP13 := HK10
      have q10 := cell_of HQ13.out.blk 10 (.slice At nL ct) (by rw [← HTX.out]; rfl)
      clear ryd rya nf ry10
      go_wp2_with (first
        | (rw [HW10.out])
        | fail)
      refine bodyPost_end (results_none rfl _ _ _) rfl ?_
      refine ⟨rfl, fin_of HQ13.out ?_ KP13.out⟩
      have hpr := HC.out
      have hlen := HLg.out
      have hnt := HNT.out
      have hhx := HHH.out
      have hbx := HHB.out
      unfold Pd.promise
      rw [if_pos hpr]
      simp [Pd.longer, Pd.hold, Pd.add, Vl.d, hlen, hnt, hhx, hbx, hlong]
      try (intro hxx; exfalso; omega)
    | true =>
      cases hh with
      | false =>
        go_enter Try.func29, Try.ntmps29
        go_wp2_with (first
          | (rw [HW0.out, HK0.out])
          | (rw [HW1.out, HK1.out])
          | (go_at_call 58
             have KCx := KC.out
             refine KCx.mono ?_
             rintro e w2 ⟨rfl, b2⟩
             have HQ2 := Lib.hid (HQ1.out.below b2)
             have HKP2 := Lib.hid (HKP.out.trans (KP.of_below (S := FR b r) b2) fun _ _ h => h)
             have R2 : Hid (w2.drew.heap[b]? = some (.cells (d.rs r) 80 (0, 0)) ∧ w2.drew.heap[k0]? = some (.cells #[.int .u8 x.n, .int .u16 x.l] 38 (0, 0))) := Lib.hid ⟨HQ2.out.blk, (b2.block k0 (heap_lt RX1.out)).trans RX1.out⟩
             have RY2 := Lib.hid ((b2.block k1 (heap_lt RY1.out)).trans RY1.out)
             clear b2)
          | fail)
        refine region_heldT (S := fun u => u.heap[b]? = some (.cells (d.rs r) 80 (0, 0)) ∧ u.heap[k0]? = some (.cells #[.int .u8 x.n, .int .u16 x.l] 38 (0, 0))) 8 (by kernel_rfl) (by decide) (fun inv => ?_)
        have HS := R2.out
        change FirstH _ _ _ _ _ _ _ _ _ _ w2.drew
        have HQd := Lib.hid (HQ2.out.below (Below.refl _ _).drew)
        have HKd : Hid (KP (FR b r) W w2.drew) := Lib.hid (HKP2.out.trans (KP.of_below (S := FR b r) (Below.refl _ _).drew) fun _ _ h => h)
        have RYd : Hid (w2.drew.heap[k1]? = w2.heap[k1]?) := Lib.hid rfl
        generalize w2.drew = wd at *
        refine FirstH.go (i := 0) (v := .pointer (some ⟨b, 0, none⟩)) rfl rfl 16 rfl (Op.move (.tmp 0)) rfl (by kernel_rfl) (fun _ _ _ h => h) inv (fun W hS => by unfold bareO; go_simp) HS (fun inv => ?_)
        try simp only [Act.put, List.setIfInBounds_toArray, List.set_cons_zero, List.set_cons_succ]
        refine FirstH.go (i := 1) (v := .pointer (some ⟨b, 0, none⟩)) rfl rfl 17 rfl (Op.move (.tmp 0)) rfl (by kernel_rfl) (fun _ _ _ h => h) inv (fun W hS => by unfold bareO; go_simp) HS (fun inv => ?_)
        try simp only [Act.put, List.setIfInBounds_toArray, List.set_cons_zero, List.set_cons_succ]
        refine FirstH.go (i := 2) (v := .pointer (some ⟨b, 0, none⟩)) rfl rfl 18 rfl (Op.nilCheck (.tmp 17)) rfl (by kernel_rfl) (fun _ _ _ h => h) inv (fun W hS => by unfold bareO; go_simp) HS (fun inv => ?_)
        try simp only [Act.put, List.setIfInBounds_toArray, List.set_cons_zero, List.set_cons_succ]
        refine FirstH.go (i := 3) (v := .pointer (some ⟨b, 5, none⟩)) rfl rfl 19 rfl (Op.fieldAddr 80 (.tmp 18) 3) rfl (by kernel_rfl) (fun _ _ _ h => h) inv (fun W hS => by unfold bareO; go_simp) HS (fun inv => ?_)
        try simp only [Act.put, List.setIfInBounds_toArray, List.set_cons_zero, List.set_cons_succ]
        refine FirstH.go (i := 4) (v := .slice G nC gc) rfl rfl 20 rfl (Op.load 30 (.tmp 19)) rfl (by kernel_rfl) (fun _ _ _ h => h) inv (fun W hS => by have c5 := cell_of hS.1 5 (.slice G nC gc) G5.out; have x0 := cell_of hS.2 0 (.int .u8 x.n) rfl; have x1 := cell_of hS.2 1 (.int .u16 x.l) rfl; unfold bareO; go_simp) HS (fun inv => ?_)
        try simp only [Act.put, List.setIfInBounds_toArray, List.set_cons_zero, List.set_cons_succ]
        refine FirstH.go (i := 5) (v := .agg #[.int .u8 x.n, .int .u16 x.l]) rfl rfl 21 rfl (Op.load 38 (.tmp 7)) rfl (by kernel_rfl) (fun _ _ _ h => h) inv (fun W hS => by have c5 := cell_of hS.1 5 (.slice G nC gc) G5.out; have x0 := cell_of hS.2 0 (.int .u8 x.n) rfl; have x1 := cell_of hS.2 1 (.int .u16 x.l) rfl; unfold bareO; go_simp) HS (fun inv => ?_)
        try simp only [Act.put, List.setIfInBounds_toArray, List.set_cons_zero, List.set_cons_succ]
        have kb : b < wd.heap.size := heap_lt HS.1
        have kx : k0 < wd.heap.size := heap_lt HS.2
        obtain ⟨ka, hka⟩ : ∃ k, wd.heap.size = k := ⟨_, rfl⟩
        obtain ⟨wa, hwa⟩ : ∃ z, wd.alloc (.cells #[.int .u8 x.n, .int .u16 x.l] 38) = z := ⟨_, rfl⟩
        have hrv := V.rowsV_new wd x 38
        have ba : Below wd.heap.size wd wa := by rw [← hwa]; exact (Below.refl _ _).alloc (Nat.le_refl _) _
        rw [hwa, hka] at hrv
        have HQa := Lib.hid (HQd.out.below ba)
        have HKa := Lib.hid (HKd.out.trans (KP.of_below (S := FR b r) ba) fun _ _ h => h)
        have HBa := Lib.hid ba
        have HWa := Lib.hid hwa
        have HKA := Lib.hid hka
        have HSa : wa.heap[b]? = some (.cells (d.rs r) 80 (0, 0)) ∧ wa.heap[k0]? = some (.cells #[.int .u8 x.n, .int .u16 x.l] 38 (0, 0)) := ⟨HQa.out.blk, (ba.block k0 kx).trans HS.2⟩
        refine FirstH.only (i := 6) (by kernel_rfl) (by decide) inv (fun inv => wpOp_run (i := 6) (v := .slice (some ⟨ka, 0, none⟩) 1 1) (w' := wa) rfl rfl 22 rfl (Op.buildSlice 30 1 #[(0, .tmp 21)]) rfl (by unfold bareO; first | (go_simp; done) | (go_simp; rw [HWa.out, HKA.out])) ?_)
        refine ⟨HSa, ?_⟩
        try simp only [Act.put, List.setIfInBounds_toArray, List.set_cons_zero, List.set_cons_succ]
        clear HS kb kx hka hwa ba
        have hown := HQa.out.got
        rw [HGV.out, HNC.out] at hown
        refine FirstH.only (i := 7) (by kernel_rfl) (by decide) inv (fun inv => wpOp_appR (i := 7) rfl rfl 23 rfl (.tmp 20) (.tmp 22) rfl B (.slice G nC gc) nC (V.cellsV d.C) rfl hown ⟨ka, 0, none⟩ [x] 1 1 _ rfl rfl hrv (by have := HFEW.out; simp; omega) (Nat.le_trans HQa.out.hb (Nat.le_of_lt HQa.out.lt)) ?_)
        intro v9 w9 O9 g9
        rw [← HGV.out] at g9
        have HSb : w9.heap[b]? = some (.cells (d.rs r) 80 (0, 0)) ∧ w9.heap[k0]? = some (.cells #[.int .u8 x.n, .int .u16 x.l] 38 (0, 0)) := ⟨(g9.block b HQa.out.lt fun e => HQa.out.apart b e.symm rfl).trans HSa.1, (g9.block k0 (heap_lt HSa.2) fun e => by have := (HQ.out.got.lt k0 e.symm).2; rw [HK0.out] at this; omega).trans HSa.2⟩
        refine ⟨HSb, ?_⟩
        try simp only [Act.put, List.setIfInBounds_toArray, List.set_cons_zero, List.set_cons_succ]
        clear HSa HSb
        refine ⟨by kernel_rfl, ?_⟩
        simp only [List.drop_succ_cons, List.drop_zero]
        have r9 := (g9.block b HQa.out.lt fun e => HQa.out.apart b e.symm rfl).trans HQa.out.blk
        have c9 := cell_of r9 5 (.slice G nC gc) G5.out
        have f9 := frz_row 5 r9
        have oc9 : v9.oneCell' = true := by
          rcases O9.2 with ⟨rfl, _⟩ | ⟨g, cap, cur, rfl, _⟩
          · rfl
          · rfl
        obtain ⟨A9, n9, rfl, -, -⟩ : ∃ A9 n9, v9 = .slice A9 (nC + 1) n9 ∧ True ∧ True := by
          rcases O9.2 with ⟨e, e2⟩ | ⟨g, cap, cur, e, _⟩
          · simp at e2
          · exact ⟨_, cap, e, trivial, trivial⟩
        obtain ⟨w10, hw10⟩ : ∃ z, w9.setCell ⟨b, 5, none⟩ (.slice A9 (nC + 1) n9) = z := ⟨_, rfl⟩
        have happ := HQa.out.app (x := x) g9 (by rw [HNC.out]; exact O9) HXC.out HXM.out
        rw [hw10] at happ
        have HQ10 := Lib.hid happ.1
        have HK10 := Lib.hid (HKa.out.trans happ.2 fun _ _ h => h)
        have HF10 := Lib.hid happ.2
        have HW10 := Lib.hid hw10
        clear happ hw10 O9 g9 hown hrv r9 oc9
        have ryd : wd.heap[k1]? = some (.cells #[.slice A1 ny c1, .slice A2 nl c2] 33 (0, 0)) := RYd.out.trans RY2.out
        have rya := (HBa.out.block k1 (heap_lt ryd)).trans ryd
        have nf : ¬ FR b r k1 := HQa.out.free rya (by have := HBK.out; have := EK1.out; omega) (by decide)
        have ry10 := (HF10.out.block k1 (heap_lt rya) nf).trans rya
        have q9 := cell_of HQ10.out.blk 9 (.bool false) (by rw [← HHH.out]; rfl)
        have q6 := cell_of HQ10.out.blk 6 (.int .u64 hb) (by rw [← HHB.out]; rfl)
        have f9b := frz_row 9 HQ10.out.blk
        have hy10 := HY.out.below (HK10.out.below (base := B) (by rw [HK0.out]; exact HBB.out) HQ.out.foot) (Nat.le_refl _) (Nat.le_refl _)
        obtain ⟨w11, hw11⟩ : ∃ z, w10.setCell ⟨b, 9, none⟩ (.bool true) = z := ⟨_, rfl⟩
        obtain ⟨w12, hw12⟩ : ∃ z, w11.setCell ⟨b, 6, none⟩ (.int .u64 acc) = z := ⟨_, rfl⟩
        obtain ⟨w13, hw13⟩ : ∃ z, w12.setCells b 7 [.slice A1 ny c1, .slice A2 nl c2] = z := ⟨_, rfl⟩
        obtain ⟨hq13, kp13, r11, r12, kp12⟩ := HQ10.out.hold acc ⟨.slice A1 ny c1, Y, .slice A2 nl c2, L⟩ hy10 hw11 hw12 hw13
        have q11 := cell_of r11 6 (.int .u64 hb) (by rw [← HHB.out]; rfl)
        have f11 := frz_row 6 r11
        have th := Lib.hid (there_row (g := b) (o := 7) (n := 2) r12 (by show 7 + 2 ≤ 13; omega))
        have ry12 := (kp12.block k1 (heap_lt ry10) (by have := HBK.out; have := EK1.out; omega)).trans ry10
        have y0 := cell_of ry12 0 (.slice A1 ny c1) rfl
        have y1 := cell_of ry12 1 (.slice A2 nl c2) rfl
        have HQ13 := Lib.hid hq13
        have KP13 := Lib.hid (HK10.out.trans (kp13.mono fun i (e : i = b) => (.inl e : FR b r i)) fun _ _ h => h)
        have HW11 := Lib.hid hw11
        have HW12 := Lib.hid hw12
        have HW13 := Lib.hid hw13
        clear hq13 kp13 r11 r12 kp12 hy10 ry12 hw11 hw12 hw13
        have q10 := cell_of HQ13.out.blk 10 (.slice At nL ct) (by rw [← HTX.out]; rfl)
        clear ryd rya nf ry10
        go_wp2_with (first
          | (rw [HW10.out])
          | (rw [HW11.out])
          | (rw [HW12.out])
          | (have thx := th.out
             refine wpList_store_mid rfl 33 (.tmp 52) (.tmp 50) rfl b 7 #[.slice A1 ny c1, .slice A2 nl c2] (by rfl) (by rfl) thx (by kernel_rfl) (by simp [Value.oneCell']) ?_
             rw [HW13.out])
          | fail)
        refine bodyPost_end (results_none rfl _ _ _) rfl ?_
        refine ⟨rfl, fin_of HQ13.out ?_ KP13.out⟩
        have hpr := HC.out
        have hlen := HLg.out
        have hnt := HNT.out
        have hhx := HHH.out
        have hbx := HHB.out
        unfold Pd.promise
        rw [if_pos hpr]
        simp [Pd.longer, Pd.hold, Pd.add, Vl.d, hlen, hnt, hhx, hbx, hlong]
        try (intro hxx; exfalso; omega)
      | true =>
        by_cases hlt : hb < acc
        · go_enter Try.func29, Try.ntmps29
          go_wp2_with (first
            | (rw [HW0.out, HK0.out])
            | (rw [HW1.out, HK1.out])
            | (go_at_call 58
               have KCx := KC.out
               refine KCx.mono ?_
               rintro e w2 ⟨rfl, b2⟩
               have HQ2 := Lib.hid (HQ1.out.below b2)
               have HKP2 := Lib.hid (HKP.out.trans (KP.of_below (S := FR b r) b2) fun _ _ h => h)
               have R2 : Hid (w2.drew.heap[b]? = some (.cells (d.rs r) 80 (0, 0)) ∧ w2.drew.heap[k0]? = some (.cells #[.int .u8 x.n, .int .u16 x.l] 38 (0, 0))) := Lib.hid ⟨HQ2.out.blk, (b2.block k0 (heap_lt RX1.out)).trans RX1.out⟩
               have RY2 := Lib.hid ((b2.block k1 (heap_lt RY1.out)).trans RY1.out)
               clear b2)
            | fail)
          refine region_heldT (S := fun u => u.heap[b]? = some (.cells (d.rs r) 80 (0, 0)) ∧ u.heap[k0]? = some (.cells #[.int .u8 x.n, .int .u16 x.l] 38 (0, 0))) 8 (by kernel_rfl) (by decide) (fun inv => ?_)
          have HS := R2.out
          change FirstH _ _ _ _ _ _ _ _ _ _ w2.drew
          have HQd := Lib.hid (HQ2.out.below (Below.refl _ _).drew)
          have HKd : Hid (KP (FR b r) W w2.drew) := Lib.hid (HKP2.out.trans (KP.of_below (S := FR b r) (Below.refl _ _).drew) fun _ _ h => h)
          have RYd : Hid (w2.drew.heap[k1]? = w2.heap[k1]?) := Lib.hid rfl
          generalize w2.drew = wd at *
          refine FirstH.go (i := 0) (v := .pointer (some ⟨b, 0, none⟩)) rfl rfl 16 rfl (Op.move (.tmp 0)) rfl (by kernel_rfl) (fun _ _ _ h => h) inv (fun W hS => by unfold bareO; go_simp) HS (fun inv => ?_)
          try simp only [Act.put, List.setIfInBounds_toArray, List.set_cons_zero, List.set_cons_succ]
          refine FirstH.go (i := 1) (v := .pointer (some ⟨b, 0, none⟩)) rfl rfl 17 rfl (Op.move (.tmp 0)) rfl (by kernel_rfl) (fun _ _ _ h => h) inv (fun W hS => by unfold bareO; go_simp) HS (fun inv => ?_)
          try simp only [Act.put, List.setIfInBounds_toArray, List.set_cons_zero, List.set_cons_succ]
          refine FirstH.go (i := 2) (v := .pointer (some ⟨b, 0, none⟩)) rfl rfl 18 rfl (Op.nilCheck (.tmp 17)) rfl (by kernel_rfl) (fun _ _ _ h => h) inv (fun W hS => by unfold bareO; go_simp) HS (fun inv => ?_)
          try simp only [Act.put, List.setIfInBounds_toArray, List.set_cons_zero, List.set_cons_succ]
          refine FirstH.go (i := 3) (v := .pointer (some ⟨b, 5, none⟩)) rfl rfl 19 rfl (Op.fieldAddr 80 (.tmp 18) 3) rfl (by kernel_rfl) (fun _ _ _ h => h) inv (fun W hS => by unfold bareO; go_simp) HS (fun inv => ?_)
          try simp only [Act.put, List.setIfInBounds_toArray, List.set_cons_zero, List.set_cons_succ]
          refine FirstH.go (i := 4) (v := .slice G nC gc) rfl rfl 20 rfl (Op.load 30 (.tmp 19)) rfl (by kernel_rfl) (fun _ _ _ h => h) inv (fun W hS => by have c5 := cell_of hS.1 5 (.slice G nC gc) G5.out; have x0 := cell_of hS.2 0 (.int .u8 x.n) rfl; have x1 := cell_of hS.2 1 (.int .u16 x.l) rfl; unfold bareO; go_simp) HS (fun inv => ?_)
          try simp only [Act.put, List.setIfInBounds_toArray, List.set_cons_zero, List.set_cons_succ]
          refine FirstH.go (i := 5) (v := .agg #[.int .u8 x.n, .int .u16 x.l]) rfl rfl 21 rfl (Op.load 38 (.tmp 7)) rfl (by kernel_rfl) (fun _ _ _ h => h) inv (fun W hS => by have c5 := cell_of hS.1 5 (.slice G nC gc) G5.out; have x0 := cell_of hS.2 0 (.int .u8 x.n) rfl; have x1 := cell_of hS.2 1 (.int .u16 x.l) rfl; unfold bareO; go_simp) HS (fun inv => ?_)
          try simp only [Act.put, List.setIfInBounds_toArray, List.set_cons_zero, List.set_cons_succ]
          have kb : b < wd.heap.size := heap_lt HS.1
          have kx : k0 < wd.heap.size := heap_lt HS.2
          obtain ⟨ka, hka⟩ : ∃ k, wd.heap.size = k := ⟨_, rfl⟩
          obtain ⟨wa, hwa⟩ : ∃ z, wd.alloc (.cells #[.int .u8 x.n, .int .u16 x.l] 38) = z := ⟨_, rfl⟩
          have hrv := V.rowsV_new wd x 38
          have ba : Below wd.heap.size wd wa := by rw [← hwa]; exact (Below.refl _ _).alloc (Nat.le_refl _) _
          rw [hwa, hka] at hrv
          have HQa := Lib.hid (HQd.out.below ba)
          have HKa := Lib.hid (HKd.out.trans (KP.of_below (S := FR b r) ba) fun _ _ h => h)
          have HBa := Lib.hid ba
          have HWa := Lib.hid hwa
          have HKA := Lib.hid hka
          have HSa : wa.heap[b]? = some (.cells (d.rs r) 80 (0, 0)) ∧ wa.heap[k0]? = some (.cells #[.int .u8 x.n, .int .u16 x.l] 38 (0, 0)) := ⟨HQa.out.blk, (ba.block k0 kx).trans HS.2⟩
          refine FirstH.only (i := 6) (by kernel_rfl) (by decide) inv (fun inv => wpOp_run (i := 6) (v := .slice (some ⟨ka, 0, none⟩) 1 1) (w' := wa) rfl rfl 22 rfl (Op.buildSlice 30 1 #[(0, .tmp 21)]) rfl (by unfold bareO; first | (go_simp; done) | (go_simp; rw [HWa.out, HKA.out])) ?_)
          refine ⟨HSa, ?_⟩
          try simp only [Act.put, List.setIfInBounds_toArray, List.set_cons_zero, List.set_cons_succ]
          clear HS kb kx hka hwa ba
          have hown := HQa.out.got
          rw [HGV.out, HNC.out] at hown
          refine FirstH.only (i := 7) (by kernel_rfl) (by decide) inv (fun inv => wpOp_appR (i := 7) rfl rfl 23 rfl (.tmp 20) (.tmp 22) rfl B (.slice G nC gc) nC (V.cellsV d.C) rfl hown ⟨ka, 0, none⟩ [x] 1 1 _ rfl rfl hrv (by have := HFEW.out; simp; omega) (Nat.le_trans HQa.out.hb (Nat.le_of_lt HQa.out.lt)) ?_)
          intro v9 w9 O9 g9
          rw [← HGV.out] at g9
          have HSb : w9.heap[b]? = some (.cells (d.rs r) 80 (0, 0)) ∧ w9.heap[k0]? = some (.cells #[.int .u8 x.n, .int .u16 x.l] 38 (0, 0)) := ⟨(g9.block b HQa.out.lt fun e => HQa.out.apart b e.symm rfl).trans HSa.1, (g9.block k0 (heap_lt HSa.2) fun e => by have := (HQ.out.got.lt k0 e.symm).2; rw [HK0.out] at this; omega).trans HSa.2⟩
          refine ⟨HSb, ?_⟩
          try simp only [Act.put, List.setIfInBounds_toArray, List.set_cons_zero, List.set_cons_succ]
          clear HSa HSb
          refine ⟨by kernel_rfl, ?_⟩
          simp only [List.drop_succ_cons, List.drop_zero]
          have r9 := (g9.block b HQa.out.lt fun e => HQa.out.apart b e.symm rfl).trans HQa.out.blk
          have c9 := cell_of r9 5 (.slice G nC gc) G5.out
          have f9 := frz_row 5 r9
          have oc9 : v9.oneCell' = true := by
            rcases O9.2 with ⟨rfl, _⟩ | ⟨g, cap, cur, rfl, _⟩
            · rfl
            · rfl
          obtain ⟨A9, n9, rfl, -, -⟩ : ∃ A9 n9, v9 = .slice A9 (nC + 1) n9 ∧ True ∧ True := by
            rcases O9.2 with ⟨e, e2⟩ | ⟨g, cap, cur, e, _⟩
            · simp at e2
            · exact ⟨_, cap, e, trivial, trivial⟩
          obtain ⟨w10, hw10⟩ : ∃ z, w9.setCell ⟨b, 5, none⟩ (.slice A9 (nC + 1) n9) = z := ⟨_, rfl⟩
          have happ := HQa.out.app (x := x) g9 (by rw [HNC.out]; exact O9) HXC.out HXM.out
          rw [hw10] at happ
          have HQ10 := Lib.hid happ.1
          have HK10 := Lib.hid (HKa.out.trans happ.2 fun _ _ h => h)
          have HF10 := Lib.hid happ.2
          have HW10 := Lib.hid hw10
          clear happ hw10 O9 g9 hown hrv r9 oc9
          have ryd : wd.heap[k1]? = some (.cells #[.slice A1 ny c1, .slice A2 nl c2] 33 (0, 0)) := RYd.out.trans RY2.out
          have rya := (HBa.out.block k1 (heap_lt ryd)).trans ryd
          have nf : ¬ FR b r k1 := HQa.out.free rya (by have := HBK.out; have := EK1.out; omega) (by decide)
          have ry10 := (HF10.out.block k1 (heap_lt rya) nf).trans rya
          have q9 := cell_of HQ10.out.blk 9 (.bool true) (by rw [← HHH.out]; rfl)
          have q6 := cell_of HQ10.out.blk 6 (.int .u64 hb) (by rw [← HHB.out]; rfl)
          have f9b := frz_row 9 HQ10.out.blk
          have hy10 := HY.out.below (HK10.out.below (base := B) (by rw [HK0.out]; exact HBB.out) HQ.out.foot) (Nat.le_refl _) (Nat.le_refl _)
          obtain ⟨w11, hw11⟩ : ∃ z, w10.setCell ⟨b, 9, none⟩ (.bool true) = z := ⟨_, rfl⟩
          obtain ⟨w12, hw12⟩ : ∃ z, w11.setCell ⟨b, 6, none⟩ (.int .u64 acc) = z := ⟨_, rfl⟩
          obtain ⟨w13, hw13⟩ : ∃ z, w12.setCells b 7 [.slice A1 ny c1, .slice A2 nl c2] = z := ⟨_, rfl⟩
          obtain ⟨hq13, kp13, r11, r12, kp12⟩ := HQ10.out.hold acc ⟨.slice A1 ny c1, Y, .slice A2 nl c2, L⟩ hy10 hw11 hw12 hw13
          have q11 := cell_of r11 6 (.int .u64 hb) (by rw [← HHB.out]; rfl)
          have f11 := frz_row 6 r11
          have th := Lib.hid (there_row (g := b) (o := 7) (n := 2) r12 (by show 7 + 2 ≤ 13; omega))
          have ry12 := (kp12.block k1 (heap_lt ry10) (by have := HBK.out; have := EK1.out; omega)).trans ry10
          have y0 := cell_of ry12 0 (.slice A1 ny c1) rfl
          have y1 := cell_of ry12 1 (.slice A2 nl c2) rfl
          have HQ13 := Lib.hid hq13
          have KP13 := Lib.hid (HK10.out.trans (kp13.mono fun i (e : i = b) => (.inl e : FR b r i)) fun _ _ h => h)
          have HW11 := Lib.hid hw11
          have HW12 := Lib.hid hw12
          have HW13 := Lib.hid hw13
          clear hq13 kp13 r11 r12 kp12 hy10 ry12 hw11 hw12 hw13
          have q10 := cell_of HQ13.out.blk 10 (.slice At nL ct) (by rw [← HTX.out]; rfl)
          clear ryd rya nf ry10
          go_wp2_with (first
            | (rw [HW10.out])
            | (rw [HW11.out])
            | (rw [HW12.out])
            | (have thx := th.out
               refine wpList_store_mid rfl 33 (.tmp 52) (.tmp 50) rfl b 7 #[.slice A1 ny c1, .slice A2 nl c2] (by rfl) (by rfl) thx (by kernel_rfl) (by simp [Value.oneCell']) ?_
               rw [HW13.out])
            | fail)
          refine bodyPost_end (results_none rfl _ _ _) rfl ?_
          refine ⟨rfl, fin_of HQ13.out ?_ KP13.out⟩
          have hpr := HC.out
          have hlen := HLg.out
          have hnt := HNT.out
          have hhx := HHH.out
          have hbx := HHB.out
          unfold Pd.promise
          rw [if_pos hpr]
          simp [Pd.longer, Pd.hold, Pd.add, Vl.d, hlen, hnt, hhx, hbx, hlong, hlt]
          try (intro hxx; exfalso; omega)
        · go_enter Try.func29, Try.ntmps29
          go_wp2_with (first
            | (rw [HW0.out, HK0.out])
            | (rw [HW1.out, HK1.out])
            | (go_at_call 58
               have KCx := KC.out
               refine KCx.mono ?_
               rintro e w2 ⟨rfl, b2⟩
               have HQ2 := Lib.hid (HQ1.out.below b2)
               have HKP2 := Lib.hid (HKP.out.trans (KP.of_below (S := FR b r) b2) fun _ _ h => h)
               have R2 : Hid (w2.drew.heap[b]? = some (.cells (d.rs r) 80 (0, 0)) ∧ w2.drew.heap[k0]? = some (.cells #[.int .u8 x.n, .int .u16 x.l] 38 (0, 0))) := Lib.hid ⟨HQ2.out.blk, (b2.block k0 (heap_lt RX1.out)).trans RX1.out⟩
               have RY2 := Lib.hid ((b2.block k1 (heap_lt RY1.out)).trans RY1.out)
               clear b2)
            | fail)
          refine region_heldT (S := fun u => u.heap[b]? = some (.cells (d.rs r) 80 (0, 0)) ∧ u.heap[k0]? = some (.cells #[.int .u8 x.n, .int .u16 x.l] 38 (0, 0))) 8 (by kernel_rfl) (by decide) (fun inv => ?_)
          have HS := R2.out
          change FirstH _ _ _ _ _ _ _ _ _ _ w2.drew
          have HQd := Lib.hid (HQ2.out.below (Below.refl _ _).drew)
          have HKd : Hid (KP (FR b r) W w2.drew) := Lib.hid (HKP2.out.trans (KP.of_below (S := FR b r) (Below.refl _ _).drew) fun _ _ h => h)
          have RYd : Hid (w2.drew.heap[k1]? = w2.heap[k1]?) := Lib.hid rfl
          generalize w2.drew = wd at *
          refine FirstH.go (i := 0) (v := .pointer (some ⟨b, 0, none⟩)) rfl rfl 16 rfl (Op.move (.tmp 0)) rfl (by kernel_rfl) (fun _ _ _ h => h) inv (fun W hS => by unfold bareO; go_simp) HS (fun inv => ?_)
          try simp only [Act.put, List.setIfInBounds_toArray, List.set_cons_zero, List.set_cons_succ]
          refine FirstH.go (i := 1) (v := .pointer (some ⟨b, 0, none⟩)) rfl rfl 17 rfl (Op.move (.tmp 0)) rfl (by kernel_rfl) (fun _ _ _ h => h) inv (fun W hS => by unfold bareO; go_simp) HS (fun inv => ?_)
          try simp only [Act.put, List.setIfInBounds_toArray, List.set_cons_zero, List.set_cons_succ]
          refine FirstH.go (i := 2) (v := .pointer (some ⟨b, 0, none⟩)) rfl rfl 18 rfl (Op.nilCheck (.tmp 17)) rfl (by kernel_rfl) (fun _ _ _ h => h) inv (fun W hS => by unfold bareO; go_simp) HS (fun inv => ?_)
          try simp only [Act.put, List.setIfInBounds_toArray, List.set_cons_zero, List.set_cons_succ]
          refine FirstH.go (i := 3) (v := .pointer (some ⟨b, 5, none⟩)) rfl rfl 19 rfl (Op.fieldAddr 80 (.tmp 18) 3) rfl (by kernel_rfl) (fun _ _ _ h => h) inv (fun W hS => by unfold bareO; go_simp) HS (fun inv => ?_)
          try simp only [Act.put, List.setIfInBounds_toArray, List.set_cons_zero, List.set_cons_succ]
          refine FirstH.go (i := 4) (v := .slice G nC gc) rfl rfl 20 rfl (Op.load 30 (.tmp 19)) rfl (by kernel_rfl) (fun _ _ _ h => h) inv (fun W hS => by have c5 := cell_of hS.1 5 (.slice G nC gc) G5.out; have x0 := cell_of hS.2 0 (.int .u8 x.n) rfl; have x1 := cell_of hS.2 1 (.int .u16 x.l) rfl; unfold bareO; go_simp) HS (fun inv => ?_)
          try simp only [Act.put, List.setIfInBounds_toArray, List.set_cons_zero, List.set_cons_succ]
          refine FirstH.go (i := 5) (v := .agg #[.int .u8 x.n, .int .u16 x.l]) rfl rfl 21 rfl (Op.load 38 (.tmp 7)) rfl (by kernel_rfl) (fun _ _ _ h => h) inv (fun W hS => by have c5 := cell_of hS.1 5 (.slice G nC gc) G5.out; have x0 := cell_of hS.2 0 (.int .u8 x.n) rfl; have x1 := cell_of hS.2 1 (.int .u16 x.l) rfl; unfold bareO; go_simp) HS (fun inv => ?_)
          try simp only [Act.put, List.setIfInBounds_toArray, List.set_cons_zero, List.set_cons_succ]
          have kb : b < wd.heap.size := heap_lt HS.1
          have kx : k0 < wd.heap.size := heap_lt HS.2
          obtain ⟨ka, hka⟩ : ∃ k, wd.heap.size = k := ⟨_, rfl⟩
          obtain ⟨wa, hwa⟩ : ∃ z, wd.alloc (.cells #[.int .u8 x.n, .int .u16 x.l] 38) = z := ⟨_, rfl⟩
          have hrv := V.rowsV_new wd x 38
          have ba : Below wd.heap.size wd wa := by rw [← hwa]; exact (Below.refl _ _).alloc (Nat.le_refl _) _
          rw [hwa, hka] at hrv
          have HQa := Lib.hid (HQd.out.below ba)
          have HKa := Lib.hid (HKd.out.trans (KP.of_below (S := FR b r) ba) fun _ _ h => h)
          have HBa := Lib.hid ba
          have HWa := Lib.hid hwa
          have HKA := Lib.hid hka
          have HSa : wa.heap[b]? = some (.cells (d.rs r) 80 (0, 0)) ∧ wa.heap[k0]? = some (.cells #[.int .u8 x.n, .int .u16 x.l] 38 (0, 0)) := ⟨HQa.out.blk, (ba.block k0 kx).trans HS.2⟩
          refine FirstH.only (i := 6) (by kernel_rfl) (by decide) inv (fun inv => wpOp_run (i := 6) (v := .slice (some ⟨ka, 0, none⟩) 1 1) (w' := wa) rfl rfl 22 rfl (Op.buildSlice 30 1 #[(0, .tmp 21)]) rfl (by unfold bareO; first | (go_simp; done) | (go_simp; rw [HWa.out, HKA.out])) ?_)
          refine ⟨HSa, ?_⟩
          try simp only [Act.put, List.setIfInBounds_toArray, List.set_cons_zero, List.set_cons_succ]
          clear HS kb kx hka hwa ba
          have hown := HQa.out.got
          rw [HGV.out, HNC.out] at hown
          refine FirstH.only (i := 7) (by kernel_rfl) (by decide) inv (fun inv => wpOp_appR (i := 7) rfl rfl 23 rfl (.tmp 20) (.tmp 22) rfl B (.slice G nC gc) nC (V.cellsV d.C) rfl hown ⟨ka, 0, none⟩ [x] 1 1 _ rfl rfl hrv (by have := HFEW.out; simp; omega) (Nat.le_trans HQa.out.hb (Nat.le_of_lt HQa.out.lt)) ?_)
          intro v9 w9 O9 g9
          rw [← HGV.out] at g9
          have HSb : w9.heap[b]? = some (.cells (d.rs r) 80 (0, 0)) ∧ w9.heap[k0]? = some (.cells #[.int .u8 x.n, .int .u16 x.l] 38 (0, 0)) := ⟨(g9.block b HQa.out.lt fun e => HQa.out.apart b e.symm rfl).trans HSa.1, (g9.block k0 (heap_lt HSa.2) fun e => by have := (HQ.out.got.lt k0 e.symm).2; rw [HK0.out] at this; omega).trans HSa.2⟩
          refine ⟨HSb, ?_⟩
          try simp only [Act.put, List.setIfInBounds_toArray, List.set_cons_zero, List.set_cons_succ]
          clear HSa HSb
          refine ⟨by kernel_rfl, ?_⟩
          simp only [List.drop_succ_cons, List.drop_zero]
          have r9 := (g9.block b HQa.out.lt fun e => HQa.out.apart b e.symm rfl).trans HQa.out.blk
          have c9 := cell_of r9 5 (.slice G nC gc) G5.out
          have f9 := frz_row 5 r9
          have oc9 : v9.oneCell' = true := by
            rcases O9.2 with ⟨rfl, _⟩ | ⟨g, cap, cur, rfl, _⟩
            · rfl
            · rfl
          obtain ⟨A9, n9, rfl, -, -⟩ : ∃ A9 n9, v9 = .slice A9 (nC + 1) n9 ∧ True ∧ True := by
            rcases O9.2 with ⟨e, e2⟩ | ⟨g, cap, cur, e, _⟩
            · simp at e2
            · exact ⟨_, cap, e, trivial, trivial⟩
          obtain ⟨w10, hw10⟩ : ∃ z, w9.setCell ⟨b, 5, none⟩ (.slice A9 (nC + 1) n9) = z := ⟨_, rfl⟩
          have happ := HQa.out.app (x := x) g9 (by rw [HNC.out]; exact O9) HXC.out HXM.out
          rw [hw10] at happ
          have HQ10 := Lib.hid happ.1
          have HK10 := Lib.hid (HKa.out.trans happ.2 fun _ _ h => h)
          have HF10 := Lib.hid happ.2
          have HW10 := Lib.hid hw10
          clear happ hw10 O9 g9 hown hrv r9 oc9
          have ryd : wd.heap[k1]? = some (.cells #[.slice A1 ny c1, .slice A2 nl c2] 33 (0, 0)) := RYd.out.trans RY2.out
          have rya := (HBa.out.block k1 (heap_lt ryd)).trans ryd
          have nf : ¬ FR b r k1 := HQa.out.free rya (by have := HBK.out; have := EK1.out; omega) (by decide)
          have ry10 := (HF10.out.block k1 (heap_lt rya) nf).trans rya
          have q9 := cell_of HQ10.out.blk 9 (.bool true) (by rw [← HHH.out]; rfl)
          have q6 := cell_of HQ10.out.blk 6 (.int .u64 hb) (by rw [← HHB.out]; rfl)
          obtain ⟨w13, hw13⟩ : ∃ z, w10 = z := ⟨_, rfl⟩
          subst hw13
          have HQ13 := HQ10
          have KP13 := HK10
          have q10 := cell_of HQ13.out.blk 10 (.slice At nL ct) (by rw [← HTX.out]; rfl)
          clear ryd rya nf ry10
          go_wp2_with (first
            | (rw [HW10.out])
            | fail)
          refine bodyPost_end (results_none rfl _ _ _) rfl ?_
          refine ⟨rfl, fin_of HQ13.out ?_ KP13.out⟩
          have hpr := HC.out
          have hlen := HLg.out
          have hnt := HNT.out
          have hhx := HHH.out
          have hbx := HHB.out
          unfold Pd.promise
          rw [if_pos hpr]
          simp [Pd.longer, Pd.hold, Pd.add, Vl.d, hlen, hnt, hhx, hbx, hlong, hlt]
          try (intro hxx; exfalso; omega)

end Go.Proofs.Ytmhgopaekpnhoaa
