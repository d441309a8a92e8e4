/-
  The program's proposer: Promise, by an exact answer. Condition: it lies in memory, as do the tail and the value.
-/
import Derived.Test.YtfkmodmgihadkaaGp2
import Derived.Deep.MidRow
namespace Go.Proofs.Ytfkmodmgihadkaa
set_option linter.unusedSimpArgs false
set_option linter.unusedVariables false
open Go.RowKit Go.Maps Go.Sort
open V (P2)

theorem Pd.promise_no {d : Pd} {x : P2} {L : List EV} {acc : Int} {y : VD} {has : Bool} (h : (decide (d.ph = 0) && d.cnt x) = false) : d.promise x L acc y has = d := by simp [Pd.promise, h]
theorem Pd.promise_yes {d : Pd} {x : P2} {L : List EV} {acc : Int} {y : VD} {has : Bool} (h : (decide (d.ph = 0) && d.cnt x) = true) : d.promise x L acc y has = ((d.add x).longer L).hold acc y has := by simp [Pd.promise, h]
theorem Pd.longer_no {d : Pd} {L : List EV} (h : ¬ d.Lg.length < L.length) : d.longer L = d := by simp [Pd.longer, h]
theorem Pd.longer_yes {d : Pd} {L : List EV} (h : d.Lg.length < L.length) : d.longer L = { d with Lg := L } := by simp [Pd.longer, h]
theorem Pd.hold_no {d : Pd} {acc : Int} {y : VD} {has : Bool} (h : (has && (!d.hh || decide (d.hb < acc))) = false) : d.hold acc y has = d := by simp [Pd.hold, h]
theorem Pd.hold_yes {d : Pd} {acc : Int} {y : VD} {has : Bool} (h : (has && (!d.hh || decide (d.hb < acc))) = true) : d.hold acc y has = { d with hb := acc, hd := y, hh := true } := by simp [Pd.hold, h]
/-- the longest tail set anew, in memory. -/
theorem PQ.setLg {base : Nat} {W : World} {b m : Nat} {d : Pd} {w : Pw} (h : PQ base W b m d w) (v : Value) (L : List Le) (hL : EnO W v L) (hl : L.length ≤ 1000) :
    PQ base (W.setCell ⟨b, 6, none⟩ v) b m { d with Lg := L.map Le.v } { w with lv := v, Lg := L } :=
  h.set (KP.set (S := fun j => j = b) W b 6 v rfl) (row_set h.blk v) rfl rfl rfl rfl rfl hL rfl hl h.hv h.hvd h.vl h.vld
/-- what is held set anew, in memory. -/
theorem PQ.setHeld {base : Nat} {W : World} {b m : Nat} {d : Pd} {w : Pw} (h : PQ base W b m d w) (acc : Int) (y : Vl) (has : Bool) (hy : y.Ok W) :
    PQ base (W.setCells b 7 [.int .u64 acc, y.m, y.t, .bool has]) b m { d with hb := acc, hd := y.d, hh := has } { w with hv := y } :=
  h.set (KP.setCells (S := fun j => j = b) rfl _ _ _) (row_set (row_set (row_set (row_set h.blk _) _) _) _) rfl rfl rfl rfl rfl h.lg h.lgd h.lgl hy rfl h.vl h.vld
theorem PQ.setVal {base : Nat} {W : World} {b m : Nat} {d : Pd} {w : Pw} (h : PQ base W b m d w) (y : Vl) (hy : y.Ok W) :
    PQ base (W.setCells b 11 [y.m, y.t]) b m { d with vd := y.d } { w with vl := y } :=
  h.set (KP.setCells (S := fun j => j = b) rfl _ _ _) (row_set (row_set h.blk _) _) rfl rfl rfl rfl rfl h.lg h.lgd h.lgl h.hv h.hvd hy rfl
theorem PQ.setPh {base : Nat} {W : World} {b m : Nat} {d : Pd} {w : Pw} (h : PQ base W b m d w) (p : Int) :
    PQ base (W.setCell ⟨b, 4, none⟩ (.int .i64 p)) b m { d with ph := p } w :=
  h.set (KP.set (S := fun j => j = b) W b 4 _ rfl) (row_set h.blk _) rfl rfl rfl rfl rfl h.lg h.lgd h.lgl h.hv h.hvd h.vl h.vld
set_option maxRecDepth 100000 in
set_option maxHeartbeats 2000000 in
theorem pPromise (base : Nat) (W : World) (b m : Nat) (d : Pd) (h : PP base W b m d) (x : P2) (rx : Rg2 x) (tv : Value) (TL : List Le) (ht : EnO W tv TL) (hl : TL.length ≤ 1000) (acc : Int) (y : Vl) (hy : y.Ok W) (has : Bool) :
    Calls Try.prog 16 #[.pointer (some ⟨b, 0, none⟩), .agg #[.int .u8 x.n, .int .u16 x.l], tv, .int .u64 acc, .agg y.cs, .bool has] W fun e W' => e = .returned (.tuple #[]) ∧ PP base W' b m (d.promise x (TL.map Le.v) acc y.d has) ∧ KP (FP b m) W W' := by
  obtain ⟨w, h⟩ := h
  obtain ⟨k, hk⟩ : ∃ k, W.heap.size = k := ⟨_, rfl⟩
  have hkb : b < k := by rw [← hk]; exact heap_lt h.blk
  have hkm : m < k := by obtain ⟨es, cl, hm⟩ := h.ct.lt; rw [← hk]; exact heap_lt hm
  obtain ⟨w1, hw1⟩ : ∃ z, W.alloc (.cells #[.int .u8 x.n, .int .u16 x.l] 54) = z := ⟨_, rfl⟩
  have b1 : Below W.heap.size W w1 := by rw [← hw1]; exact (Below.refl _ _).alloc (Nat.le_refl _) _
  have s1 : w1.heap.size = k + 1 := by rw [← hw1]; simp [hk]
  have r1 : w1.heap[k]? = some (.cells #[.int .u8 x.n, .int .u16 x.l] 54 (0, 0)) := by rw [← hw1, ← hk]; exact heap_alloc_new _ _
  obtain ⟨w2, hw2⟩ : ∃ z, w1.alloc (.cells y.cs 32) = z := ⟨_, rfl⟩
  have b2 : Below w1.heap.size w1 w2 := by rw [← hw2]; exact (Below.refl _ _).alloc (Nat.le_refl _) _
  have r2 : w2.heap[k + 1]? = some (.cells y.cs 32 (0, 0)) := by rw [← hw2, ← s1]; exact heap_alloc_new _ _
  have r12 : w2.heap[k]? = some (.cells #[.int .u8 x.n, .int .u16 x.l] 54 (0, 0)) := (b2.block k (by omega)).trans r1
  have B2 := Lib.hid (b1.trans (b2.mono b1.size))
  have HP : Hid (PQ base w2 b m d w) := Lib.hid (h.below B2.out)
  have HKP : Hid (KP (FP b m) W w2) := Lib.hid (KP.of_below B2.out)
  have HKS : Hid (Keeps W w2) := Lib.hid (Keeps.of_below B2.out)
  have HX : Hid (∀ u, KP (FP b m) w2 u → u.heap[k + 1]? = some (.cells y.cs 32 (0, 0))) := Lib.hid (fun u hu => (hu.block _ (heap_lt r2) (by rintro (e | e) <;> omega)).trans r2)
  have HT := Lib.hid ht
  have HY := Lib.hid hy
  have KI := Lib.hid (pIn base w2 b m d ⟨w, HP.out⟩ 0)
  have KC := Lib.hid (pCount base w2 b m d ⟨w, HP.out⟩ x rx)
  have x0 := cell_of r12 0 (.int .u8 x.n) rfl
  have x1 := cell_of r12 1 (.int .u16 x.l) rfl
  have HW1 := Lib.hid hw1
  have HW2 := Lib.hid hw2
  have HK := Lib.hid hk
  have HS1 := Lib.hid s1
  obtain ⟨TN, hTN⟩ : ∃ z, TL.map Le.v = z := ⟨_, rfl⟩
  have HTN := Lib.hid hTN
  simp only [hTN]
  clear h ht hy r1 b1 b2 hw1 hw2 s1 r12 hTN
  obtain ⟨cn, hcn⟩ : ∃ z, d.cnt x = z := ⟨_, rfl⟩
  rw [hcn] at KC
  have HCN := Lib.hid hcn
  cases hp : decide (d.ph = 0)
  · rw [hp] at KI
    have HE : Hid (d.promise x TN acc y.d has = d) := Lib.hid (Pd.promise_no (by rw [hp]; rfl))
    clear hp hcn KC
    go_enter Try.func16, Try.ntmps16
    go_wp2_with (first
      | (rw [HW2.out, HS1.out])
      | (rw [HW1.out])
      | (go_at_call 30; refine KI.out.mono ?_; rintro e u ⟨rfl, rfl⟩))
    refine bodyPost_ret (results_none rfl _ _ _) rfl ?_
    exact ⟨rfl, by rw [HE.out]; exact ⟨w, HP.out⟩, HKP.out⟩
  rw [hp] at KI
  have HPH : Hid (decide (d.ph = 0) = true) := Lib.hid hp
  clear hp
  cases cn with
  | false =>
    have HE : Hid (d.promise x TN acc y.d has = d) := Lib.hid (Pd.promise_no (by rw [hcn, Bool.and_false]))
    clear hcn
    go_enter Try.func16, Try.ntmps16
    go_wp2_with (first
      | (rw [HW2.out, HS1.out])
      | (rw [HW1.out])
      | (go_at_call 30; refine KI.out.mono ?_; rintro e u ⟨rfl, rfl⟩)
      | (go_at_call 31; refine KC.out.mono ?_; rintro e u ⟨rfl, hpu, hku⟩
         have HPU := Lib.hid hpu
         have HKU := Lib.hid (HKP.out.trans hku fun _ _ h => h)
         clear hpu hku))
    refine bodyPost_ret (results_none rfl _ _ _) rfl ?_
    exact ⟨rfl, by rw [HE.out, ← Pd.counted_no HCN.out]; exact HPU.out, HKU.out⟩
  | true =>
    have HE : Hid (d.promise x TN acc y.d has = ((d.add x).longer TN).hold acc y.d has) := Lib.hid (Pd.promise_yes (by rw [HPH.out, hcn]; rfl))
    have HCY := Lib.hid (Pd.counted_yes hcn)
    clear hcn
    obtain ⟨TA, tc, rfl, -, htc, htm, -⟩ := HT.out.rows
    have HTL : Hid (TN.length = TL.length) := Lib.hid (by rw [← HTN.out]; simp)
    obtain ⟨nT, hnT⟩ : ∃ z, TL.length = z := ⟨_, rfl⟩
    have KT : Hid (∀ u, Keeps W u → Calls Try.prog 32 #[.slice TA nT tc] u fun e u' => ∃ v', e = .returned v' ∧ ∃ L', L'.map Le.v = TL.map Le.v ∧ EnO u' v' L' ∧ Below u.heap.size u u') := Lib.hid (fun u hu => by
      have := cloneTail _ TL u (HT.out.keep hu) hl
      rwa [hnT] at this)
    have KV : Hid (∀ u, Keeps W u → Calls Try.prog 25 #[.agg y.cs] u fun r w' => ∃ x' : Vl, r = .returned (.agg x'.cs) ∧ x'.Ok w' ∧ x'.d = y.d ∧ Below u.heap.size u w') := Lib.hid (fun u hu => valClone y u (HY.out.keep hu))
    have HNT := Lib.hid hnT
    rw [hnT] at htc HTL ⊢
    have hnt : nT ≤ 1000 := hnT ▸ hl
    have HTN2 := HTN
    clear hl htc htm hnT HTN
    obtain ⟨hh, ehh⟩ : ∃ z, d.hh = z := ⟨_, rfl⟩
    obtain ⟨hb, ehb⟩ : ∃ z, d.hb = z := ⟨_, rfl⟩
    have HHH := Lib.hid ehh
    have HHB := Lib.hid ehb
    obtain ⟨nL, hnL⟩ : ∃ z, d.Lg.length = z := ⟨_, rfl⟩
    have HNL := Lib.hid hnL
    clear ehh ehb hnL
    have HDH : Hid (((d.add x).longer TN).hh = hh ∧ ((d.add x).longer TN).hb = hb) := Lib.hid (by unfold Pd.longer; split <;> exact ⟨HHH.out, HHB.out⟩)
    have HNTL : Hid (nT ≤ 1000) := Lib.hid hnt
    by_cases hlt : nL < nT
    · have HLT := Lib.hid hlt
      have hli : (nL : Int) < (nT : Int) := by omega
      clear hlt
      cases has with
      | false =>
        as_aux_lemma =>
        skip
        go_enter Try.func16, Try.ntmps16
        go_wp2_with (first
          | (rw [HW2.out, HS1.out])
          | (rw [HW1.out])
          | (go_at_call 30; refine KI.out.mono ?_; rintro e u ⟨rfl, rfl⟩)
          | (go_at_call 31; refine KC.out.mono ?_; rintro e u ⟨rfl, hpu, hku⟩
             rw [HCY.out] at hpu
             obtain ⟨⟨mv, lv, Lg, hv, vl⟩, hq⟩ := hpu
             obtain ⟨LA, lc, elv, -, -, -, -⟩ := hq.lg.rows
             dsimp only at elv
             subst elv
             have elg : Lg.length = nL := by
               have := congrArg List.length hq.lgd
               rw [List.length_map] at this
               exact this.trans HNL.out
             have c6 : u.cell? ⟨b, 6, none⟩ = some (.slice LA nL lc) := by rw [← elg]; exact cell_of hq.blk 6 (.slice LA Lg.length lc) rfl
             have c7 : u.cell? ⟨b, 7, none⟩ = some (.int .u64 hb) := by rw [← HHB.out]; exact cell_of hq.blk 7 (.int .u64 d.hb) rfl
             have c10 : u.cell? ⟨b, 10, none⟩ = some (.bool _) := (cell_of hq.blk 10 (.bool d.hh) rfl).trans (by rw [HHH.out])
             have HPU := Lib.hid hq
             have HKW := Lib.hid hku
             have HKU := Lib.hid (HKP.out.trans hku fun _ _ h => h)
             have HSU := Lib.hid (HKS.out.trans (HP.out.keeps hku))
             clear hq hku elg)
          | (go_at_call 32
             have HSUx := HSU.out
             refine (KT.out _ HSUx).mono ?_
             rintro e u3 ⟨v3, rfl, L3, hL3, ho3, b3⟩
             have hq3 := HPU.out.below b3
             have hll : L3.length ≤ 1000 := by
               have h1 := congrArg List.length hL3
               rw [List.length_map, List.length_map, HNT.out] at h1
               have := HNTL.out
               omega
             have c6 := cell_of hq3.blk 6 _ rfl
             have f6 := frz_row 6 hq3.blk
             obtain ⟨u4, hu4⟩ : ∃ z, u3.setCell ⟨b, 6, none⟩ v3 = z := ⟨_, rfl⟩
             have hq4 := hq3.setLg v3 L3 ho3 hll
             have kp4 : KP (fun j => j = b) u3 u4 := by rw [← hu4]; exact KP.set (S := fun j => j = b) u3 b 6 v3 rfl
             have kf4 : KP (FP b m) u u4 := (KP.of_below (S := FP b m) b3).trans (kp4.mono fun i e => .inl e) fun _ _ h => h
             rw [hu4] at hq4
             obtain ⟨A3, c3, rfl, -, -, -, -⟩ := ho3.rows
             have HQ : Hid (PQ base u4 b m ((d.add x).longer TN) ⟨mv, .slice A3 L3.length c3, L3, hv, vl⟩) := Lib.hid (by
               rw [Pd.longer_yes (by rw [show (d.add x).Lg = d.Lg from rfl, HNL.out, HTL.out]; exact HLT.out), ← HTN2.out, ← hL3]
               exact hq4)
             have c7 : u4.cell? ⟨b, 7, none⟩ = some (.int .u64 hb) := by rw [← HHB.out]; exact cell_of hq4.blk 7 (.int .u64 d.hb) rfl
             have c10 : u4.cell? ⟨b, 10, none⟩ = some (.bool _) := (cell_of hq4.blk 10 (.bool d.hh) rfl).trans (by rw [HHH.out])
             have HKU4 := Lib.hid (HKU.out.trans kf4 fun _ _ h => h)
             have HSU4 := Lib.hid (HSU.out.trans (HPU.out.keeps kf4))
             have HXU := Lib.hid (HX.out u4 (HKW.out.trans kf4 fun _ _ h => h))
             have HU4 := Lib.hid hu4
             clear hq3 hq4 kp4 kf4 hu4 hL3 ho3 b3 hll)
          | (rw [HU4.out])
          | fail)
        refine bodyPost_end (results_none rfl _ _ _) rfl ?_
        exact ⟨rfl, by rw [HE.out, Pd.hold_no (by rw [HDH.out.1, HDH.out.2]; rfl)]; exact ⟨_, HQ.out⟩, HKU4.out⟩
      | true =>
        cases hh with
        | false =>
          as_aux_lemma =>
          skip
          go_enter Try.func16, Try.ntmps16
          go_wp2_with (first
            | (rw [HW2.out, HS1.out])
            | (rw [HW1.out])
            | (go_at_call 30; refine KI.out.mono ?_; rintro e u ⟨rfl, rfl⟩)
            | (go_at_call 31; refine KC.out.mono ?_; rintro e u ⟨rfl, hpu, hku⟩
               rw [HCY.out] at hpu
               obtain ⟨⟨mv, lv, Lg, hv, vl⟩, hq⟩ := hpu
               obtain ⟨LA, lc, elv, -, -, -, -⟩ := hq.lg.rows
               dsimp only at elv
               subst elv
               have elg : Lg.length = nL := by
                 have := congrArg List.length hq.lgd
                 rw [List.length_map] at this
                 exact this.trans HNL.out
               have c6 : u.cell? ⟨b, 6, none⟩ = some (.slice LA nL lc) := by rw [← elg]; exact cell_of hq.blk 6 (.slice LA Lg.length lc) rfl
               have c7 : u.cell? ⟨b, 7, none⟩ = some (.int .u64 hb) := by rw [← HHB.out]; exact cell_of hq.blk 7 (.int .u64 d.hb) rfl
               have c10 : u.cell? ⟨b, 10, none⟩ = some (.bool _) := (cell_of hq.blk 10 (.bool d.hh) rfl).trans (by rw [HHH.out])
               have HPU := Lib.hid hq
               have HKW := Lib.hid hku
               have HKU := Lib.hid (HKP.out.trans hku fun _ _ h => h)
               have HSU := Lib.hid (HKS.out.trans (HP.out.keeps hku))
               clear hq hku elg)
            | (go_at_call 32
               have HSUx := HSU.out
               refine (KT.out _ HSUx).mono ?_
               rintro e u3 ⟨v3, rfl, L3, hL3, ho3, b3⟩
               have hq3 := HPU.out.below b3
               have hll : L3.length ≤ 1000 := by
                 have h1 := congrArg List.length hL3
                 rw [List.length_map, List.length_map, HNT.out] at h1
                 have := HNTL.out
                 omega
               have c6 := cell_of hq3.blk 6 _ rfl
               have f6 := frz_row 6 hq3.blk
               obtain ⟨u4, hu4⟩ : ∃ z, u3.setCell ⟨b, 6, none⟩ v3 = z := ⟨_, rfl⟩
               have hq4 := hq3.setLg v3 L3 ho3 hll
               have kp4 : KP (fun j => j = b) u3 u4 := by rw [← hu4]; exact KP.set (S := fun j => j = b) u3 b 6 v3 rfl
               have kf4 : KP (FP b m) u u4 := (KP.of_below (S := FP b m) b3).trans (kp4.mono fun i e => .inl e) fun _ _ h => h
               rw [hu4] at hq4
               obtain ⟨A3, c3, rfl, -, -, -, -⟩ := ho3.rows
               have HQ : Hid (PQ base u4 b m ((d.add x).longer TN) ⟨mv, .slice A3 L3.length c3, L3, hv, vl⟩) := Lib.hid (by
                 rw [Pd.longer_yes (by rw [show (d.add x).Lg = d.Lg from rfl, HNL.out, HTL.out]; exact HLT.out), ← HTN2.out, ← hL3]
                 exact hq4)
               have c7 : u4.cell? ⟨b, 7, none⟩ = some (.int .u64 hb) := by rw [← HHB.out]; exact cell_of hq4.blk 7 (.int .u64 d.hb) rfl
               have c10 : u4.cell? ⟨b, 10, none⟩ = some (.bool _) := (cell_of hq4.blk 10 (.bool d.hh) rfl).trans (by rw [HHH.out])
               have HKU4 := Lib.hid (HKU.out.trans kf4 fun _ _ h => h)
               have HSU4 := Lib.hid (HSU.out.trans (HPU.out.keeps kf4))
               have HXU := Lib.hid (HX.out u4 (HKW.out.trans kf4 fun _ _ h => h))
               have HU4 := Lib.hid hu4
               clear hq3 hq4 kp4 kf4 hu4 hL3 ho3 b3 hll)
            | (rw [HU4.out])
            | (have HXUx := HXU.out
               refine wpList_load_row rfl 32 (.tmp 10) rfl (k + 1) (by rfl) 32 y.cs (0, 0) _ HXUx Try.underlying32 rfl (by kernel_rfl) ?_)
            | (go_at_call 25
               refine (KV.out _ HSU4.out).mono ?_
               rintro e u5 ⟨⟨m5, X5, t5, L5⟩, rfl, ok5, d5, b5⟩
               have hq5 := HQ.out.below b5
               have th5 : u5.there b 7 4 := there_row hq5.blk (by show 7 + 4 ≤ 13; omega)
               have hq6 := hq5.setHeld acc ⟨m5, X5, t5, L5⟩ true ok5
               obtain ⟨A5, c5, e5, -, -, -, -⟩ := ok5.m.rows
               obtain ⟨A6, c6, e6, -, -, -, -⟩ := ok5.t.rows
               dsimp only at e5 e6
               subst e5 e6
               dsimp only [Vl.cs] at hq6 ⊢
               obtain ⟨n5, hn5⟩ : ∃ z, X5.length = z := ⟨_, rfl⟩
               obtain ⟨n6, hn6⟩ : ∃ z, L5.length = z := ⟨_, rfl⟩
               simp only [hn5, hn6] at hq6 ⊢
               obtain ⟨u6, hu6⟩ : ∃ z, u5.setCells b 7 [.int .u64 acc, .slice A5 n5 c5, .slice A6 n6 c6, .bool true] = z := ⟨_, rfl⟩
               rw [hu6] at hq6
               have kp6 : KP (fun j => j = b) u5 u6 := by rw [← hu6]; exact KP.setCells (S := fun j => j = b) rfl _ _ _
               have HKU6 := Lib.hid (HKU4.out.trans ((KP.of_below (S := FP b m) b5).trans (kp6.mono fun i e => .inl e) fun _ _ h => h) fun _ _ h => h)
               have HP6 : Hid (PP base u6 b m (((d.add x).longer TN).hold acc y.d true)) := Lib.hid (by
                 rw [Pd.hold_yes (by rw [HDH.out.1, HDH.out.2]; rfl), ← d5]
                 exact ⟨_, hq6⟩)
               have T6 := Lib.hid th5
               have HU6 := Lib.hid hu6
               clear hq5 hq6 kp6 hu6 th5 ok5 d5 b5 hn5 hn6)
            | (have T6x := T6.out
               refine wpList_store_mid rfl 65 (.tmp 58) (.tmp 56) rfl b 7 #[.int .u64 acc, .slice A5 n5 c5, .slice A6 n6 c6, .bool true] (by rfl) (by rfl) T6x (by kernel_rfl) (by simp [Value.oneCell']) ?_
               rw [HU6.out])
            | fail)
          refine bodyPost_end (results_none rfl _ _ _) rfl ?_
          exact ⟨rfl, by rw [HE.out]; exact HP6.out, HKU6.out⟩
        | true =>
          by_cases hbl : hb < acc
          · as_aux_lemma =>
            skip
            have HBL := Lib.hid hbl
            have hbi : ¬ acc ≤ hb := by omega
            go_enter Try.func16, Try.ntmps16
            go_wp2_with (first
              | (rw [HW2.out, HS1.out])
              | (rw [HW1.out])
              | (go_at_call 30; refine KI.out.mono ?_; rintro e u ⟨rfl, rfl⟩)
              | (go_at_call 31; refine KC.out.mono ?_; rintro e u ⟨rfl, hpu, hku⟩
                 rw [HCY.out] at hpu
                 obtain ⟨⟨mv, lv, Lg, hv, vl⟩, hq⟩ := hpu
                 obtain ⟨LA, lc, elv, -, -, -, -⟩ := hq.lg.rows
                 dsimp only at elv
                 subst elv
                 have elg : Lg.length = nL := by
                   have := congrArg List.length hq.lgd
                   rw [List.length_map] at this
                   exact this.trans HNL.out
                 have c6 : u.cell? ⟨b, 6, none⟩ = some (.slice LA nL lc) := by rw [← elg]; exact cell_of hq.blk 6 (.slice LA Lg.length lc) rfl
                 have c7 : u.cell? ⟨b, 7, none⟩ = some (.int .u64 hb) := by rw [← HHB.out]; exact cell_of hq.blk 7 (.int .u64 d.hb) rfl
                 have c10 : u.cell? ⟨b, 10, none⟩ = some (.bool _) := (cell_of hq.blk 10 (.bool d.hh) rfl).trans (by rw [HHH.out])
                 have HPU := Lib.hid hq
                 have HKW := Lib.hid hku
                 have HKU := Lib.hid (HKP.out.trans hku fun _ _ h => h)
                 have HSU := Lib.hid (HKS.out.trans (HP.out.keeps hku))
                 clear hq hku elg)
              | (go_at_call 32
                 have HSUx := HSU.out
                 refine (KT.out _ HSUx).mono ?_
                 rintro e u3 ⟨v3, rfl, L3, hL3, ho3, b3⟩
                 have hq3 := HPU.out.below b3
                 have hll : L3.length ≤ 1000 := by
                   have h1 := congrArg List.length hL3
                   rw [List.length_map, List.length_map, HNT.out] at h1
                   have := HNTL.out
                   omega
                 have c6 := cell_of hq3.blk 6 _ rfl
                 have f6 := frz_row 6 hq3.blk
                 obtain ⟨u4, hu4⟩ : ∃ z, u3.setCell ⟨b, 6, none⟩ v3 = z := ⟨_, rfl⟩
                 have hq4 := hq3.setLg v3 L3 ho3 hll
                 have kp4 : KP (fun j => j = b) u3 u4 := by rw [← hu4]; exact KP.set (S := fun j => j = b) u3 b 6 v3 rfl
                 have kf4 : KP (FP b m) u u4 := (KP.of_below (S := FP b m) b3).trans (kp4.mono fun i e => .inl e) fun _ _ h => h
                 rw [hu4] at hq4
                 obtain ⟨A3, c3, rfl, -, -, -, -⟩ := ho3.rows
                 have HQ : Hid (PQ base u4 b m ((d.add x).longer TN) ⟨mv, .slice A3 L3.length c3, L3, hv, vl⟩) := Lib.hid (by
                   rw [Pd.longer_yes (by rw [show (d.add x).Lg = d.Lg from rfl, HNL.out, HTL.out]; exact HLT.out), ← HTN2.out, ← hL3]
                   exact hq4)
                 have c7 : u4.cell? ⟨b, 7, none⟩ = some (.int .u64 hb) := by rw [← HHB.out]; exact cell_of hq4.blk 7 (.int .u64 d.hb) rfl
                 have c10 : u4.cell? ⟨b, 10, none⟩ = some (.bool _) := (cell_of hq4.blk 10 (.bool d.hh) rfl).trans (by rw [HHH.out])
                 have HKU4 := Lib.hid (HKU.out.trans kf4 fun _ _ h => h)
                 have HSU4 := Lib.hid (HSU.out.trans (HPU.out.keeps kf4))
                 have HXU := Lib.hid (HX.out u4 (HKW.out.trans kf4 fun _ _ h => h))
                 have HU4 := Lib.hid hu4
                 clear hq3 hq4 kp4 kf4 hu4 hL3 ho3 b3 hll)
              | (rw [HU4.out])
              | (have HXUx := HXU.out
                 refine wpList_load_row rfl 32 (.tmp 10) rfl (k + 1) (by rfl) 32 y.cs (0, 0) _ HXUx Try.underlying32 rfl (by kernel_rfl) ?_)
              | (go_at_call 25
                 refine (KV.out _ HSU4.out).mono ?_
                 rintro e u5 ⟨⟨m5, X5, t5, L5⟩, rfl, ok5, d5, b5⟩
                 have hq5 := HQ.out.below b5
                 have th5 : u5.there b 7 4 := there_row hq5.blk (by show 7 + 4 ≤ 13; omega)
                 have hq6 := hq5.setHeld acc ⟨m5, X5, t5, L5⟩ true ok5
                 obtain ⟨A5, c5, e5, -, -, -, -⟩ := ok5.m.rows
                 obtain ⟨A6, c6, e6, -, -, -, -⟩ := ok5.t.rows
                 dsimp only at e5 e6
                 subst e5 e6
                 dsimp only [Vl.cs] at hq6 ⊢
                 obtain ⟨n5, hn5⟩ : ∃ z, X5.length = z := ⟨_, rfl⟩
                 obtain ⟨n6, hn6⟩ : ∃ z, L5.length = z := ⟨_, rfl⟩
                 simp only [hn5, hn6] at hq6 ⊢
                 obtain ⟨u6, hu6⟩ : ∃ z, u5.setCells b 7 [.int .u64 acc, .slice A5 n5 c5, .slice A6 n6 c6, .bool true] = z := ⟨_, rfl⟩
                 rw [hu6] at hq6
                 have kp6 : KP (fun j => j = b) u5 u6 := by rw [← hu6]; exact KP.setCells (S := fun j => j = b) rfl _ _ _
                 have HKU6 := Lib.hid (HKU4.out.trans ((KP.of_below (S := FP b m) b5).trans (kp6.mono fun i e => .inl e) fun _ _ h => h) fun _ _ h => h)
                 have HP6 : Hid (PP base u6 b m (((d.add x).longer TN).hold acc y.d true)) := Lib.hid (by
                   rw [Pd.hold_yes (by rw [HDH.out.1, HDH.out.2]; simpa using HBL.out), ← d5]
                   exact ⟨_, hq6⟩)
                 have T6 := Lib.hid th5
                 have HU6 := Lib.hid hu6
                 clear hq5 hq6 kp6 hu6 th5 ok5 d5 b5 hn5 hn6)
              | (have T6x := T6.out
                 refine wpList_store_mid rfl 65 (.tmp 58) (.tmp 56) rfl b 7 #[.int .u64 acc, .slice A5 n5 c5, .slice A6 n6 c6, .bool true] (by rfl) (by rfl) T6x (by kernel_rfl) (by simp [Value.oneCell']) ?_
                 rw [HU6.out])
              | fail)
            refine bodyPost_end (results_none rfl _ _ _) rfl ?_
            exact ⟨rfl, by rw [HE.out]; exact HP6.out, HKU6.out⟩
          · as_aux_lemma =>
            skip
            have HBL := Lib.hid hbl
            have hbi : acc ≤ hb := by omega
            go_enter Try.func16, Try.ntmps16
            go_wp2_with (first
              | (rw [HW2.out, HS1.out])
              | (rw [HW1.out])
              | (go_at_call 30; refine KI.out.mono ?_; rintro e u ⟨rfl, rfl⟩)
              | (go_at_call 31; refine KC.out.mono ?_; rintro e u ⟨rfl, hpu, hku⟩
                 rw [HCY.out] at hpu
                 obtain ⟨⟨mv, lv, Lg, hv, vl⟩, hq⟩ := hpu
                 obtain ⟨LA, lc, elv, -, -, -, -⟩ := hq.lg.rows
                 dsimp only at elv
                 subst elv
                 have elg : Lg.length = nL := by
                   have := congrArg List.length hq.lgd
                   rw [List.length_map] at this
                   exact this.trans HNL.out
                 have c6 : u.cell? ⟨b, 6, none⟩ = some (.slice LA nL lc) := by rw [← elg]; exact cell_of hq.blk 6 (.slice LA Lg.length lc) rfl
                 have c7 : u.cell? ⟨b, 7, none⟩ = some (.int .u64 hb) := by rw [← HHB.out]; exact cell_of hq.blk 7 (.int .u64 d.hb) rfl
                 have c10 : u.cell? ⟨b, 10, none⟩ = some (.bool _) := (cell_of hq.blk 10 (.bool d.hh) rfl).trans (by rw [HHH.out])
                 have HPU := Lib.hid hq
                 have HKW := Lib.hid hku
                 have HKU := Lib.hid (HKP.out.trans hku fun _ _ h => h)
                 have HSU := Lib.hid (HKS.out.trans (HP.out.keeps hku))
                 clear hq hku elg)
              | (go_at_call 32
                 have HSUx := HSU.out
                 refine (KT.out _ HSUx).mono ?_
                 rintro e u3 ⟨v3, rfl, L3, hL3, ho3, b3⟩
                 have hq3 := HPU.out.below b3
                 have hll : L3.length ≤ 1000 := by
                   have h1 := congrArg List.length hL3
                   rw [List.length_map, List.length_map, HNT.out] at h1
                   have := HNTL.out
                   omega
                 have c6 := cell_of hq3.blk 6 _ rfl
                 have f6 := frz_row 6 hq3.blk
                 obtain ⟨u4, hu4⟩ : ∃ z, u3.setCell ⟨b, 6, none⟩ v3 = z := ⟨_, rfl⟩
                 have hq4 := hq3.setLg v3 L3 ho3 hll
                 have kp4 : KP (fun j => j = b) u3 u4 := by rw [← hu4]; exact KP.set (S := fun j => j = b) u3 b 6 v3 rfl
                 have kf4 : KP (FP b m) u u4 := (KP.of_below (S := FP b m) b3).trans (kp4.mono fun i e => .inl e) fun _ _ h => h
                 rw [hu4] at hq4
                 obtain ⟨A3, c3, rfl, -, -, -, -⟩ := ho3.rows
                 have HQ : Hid (PQ base u4 b m ((d.add x).longer TN) ⟨mv, .slice A3 L3.length c3, L3, hv, vl⟩) := Lib.hid (by
                   rw [Pd.longer_yes (by rw [show (d.add x).Lg = d.Lg from rfl, HNL.out, HTL.out]; exact HLT.out), ← HTN2.out, ← hL3]
                   exact hq4)
                 have c7 : u4.cell? ⟨b, 7, none⟩ = some (.int .u64 hb) := by rw [← HHB.out]; exact cell_of hq4.blk 7 (.int .u64 d.hb) rfl
                 have c10 : u4.cell? ⟨b, 10, none⟩ = some (.bool _) := (cell_of hq4.blk 10 (.bool d.hh) rfl).trans (by rw [HHH.out])
                 have HKU4 := Lib.hid (HKU.out.trans kf4 fun _ _ h => h)
                 have HSU4 := Lib.hid (HSU.out.trans (HPU.out.keeps kf4))
                 have HXU := Lib.hid (HX.out u4 (HKW.out.trans kf4 fun _ _ h => h))
                 have HU4 := Lib.hid hu4
                 clear hq3 hq4 kp4 kf4 hu4 hL3 ho3 b3 hll)
              | (rw [HU4.out])
              | fail)
            refine bodyPost_end (results_none rfl _ _ _) rfl ?_
            exact ⟨rfl, by rw [HE.out, Pd.hold_no (by rw [HDH.out.1, HDH.out.2]; simpa using HBL.out)]; exact ⟨_, HQ.out⟩, HKU4.out⟩
    · have HLT := Lib.hid hlt
      have hli : ¬ (nL : Int) < (nT : Int) := by omega
      clear hlt
      cases has with
      | false =>
        as_aux_lemma =>
        skip
        go_enter Try.func16, Try.ntmps16
        go_wp2_with (first
          | (rw [HW2.out, HS1.out])
          | (rw [HW1.out])
          | (go_at_call 30; refine KI.out.mono ?_; rintro e u ⟨rfl, rfl⟩)
          | (go_at_call 31; refine KC.out.mono ?_; rintro e u ⟨rfl, hpu, hku⟩
             rw [HCY.out] at hpu
             obtain ⟨⟨mv, lv, Lg, hv, vl⟩, hq⟩ := hpu
             obtain ⟨LA, lc, elv, -, -, -, -⟩ := hq.lg.rows
             dsimp only at elv
             subst elv
             have elg : Lg.length = nL := by
               have := congrArg List.length hq.lgd
               rw [List.length_map] at this
               exact this.trans HNL.out
             have c6 : u.cell? ⟨b, 6, none⟩ = some (.slice LA nL lc) := by rw [← elg]; exact cell_of hq.blk 6 (.slice LA Lg.length lc) rfl
             have c7 : u.cell? ⟨b, 7, none⟩ = some (.int .u64 hb) := by rw [← HHB.out]; exact cell_of hq.blk 7 (.int .u64 d.hb) rfl
             have c10 : u.cell? ⟨b, 10, none⟩ = some (.bool _) := (cell_of hq.blk 10 (.bool d.hh) rfl).trans (by rw [HHH.out])
             have HPU := Lib.hid hq
             have HKW := Lib.hid hku
             have HKU := Lib.hid (HKP.out.trans hku fun _ _ h => h)
             have HSU := Lib.hid (HKS.out.trans (HP.out.keeps hku))
             have HQ : Hid (PQ base u b m ((d.add x).longer TN) ⟨mv, .slice LA Lg.length lc, Lg, hv, vl⟩) := Lib.hid (by rw [Pd.longer_no (by rw [show (d.add x).Lg = d.Lg from rfl, HNL.out, HTL.out]; exact HLT.out)]; exact hq)
             have HXU := Lib.hid (HX.out u hku)
             clear hq hku elg)
          | fail)
        refine bodyPost_end (results_none rfl _ _ _) rfl ?_
        exact ⟨rfl, by rw [HE.out, Pd.hold_no (by rw [HDH.out.1, HDH.out.2]; rfl)]; exact ⟨_, HQ.out⟩, HKU.out⟩
      | true =>
        cases hh with
        | false =>
          as_aux_lemma =>
          skip
          go_enter Try.func16, Try.ntmps16
          go_wp2_with (first
            | (rw [HW2.out, HS1.out])
            | (rw [HW1.out])
            | (go_at_call 30; refine KI.out.mono ?_; rintro e u ⟨rfl, rfl⟩)
            | (go_at_call 31; refine KC.out.mono ?_; rintro e u ⟨rfl, hpu, hku⟩
               rw [HCY.out] at hpu
               obtain ⟨⟨mv, lv, Lg, hv, vl⟩, hq⟩ := hpu
               obtain ⟨LA, lc, elv, -, -, -, -⟩ := hq.lg.rows
               dsimp only at elv
               subst elv
               have elg : Lg.length = nL := by
                 have := congrArg List.length hq.lgd
                 rw [List.length_map] at this
                 exact this.trans HNL.out
               have c6 : u.cell? ⟨b, 6, none⟩ = some (.slice LA nL lc) := by rw [← elg]; exact cell_of hq.blk 6 (.slice LA Lg.length lc) rfl
               have c7 : u.cell? ⟨b, 7, none⟩ = some (.int .u64 hb) := by rw [← HHB.out]; exact cell_of hq.blk 7 (.int .u64 d.hb) rfl
               have c10 : u.cell? ⟨b, 10, none⟩ = some (.bool _) := (cell_of hq.blk 10 (.bool d.hh) rfl).trans (by rw [HHH.out])
               have HPU := Lib.hid hq
               have HKW := Lib.hid hku
               have HKU := Lib.hid (HKP.out.trans hku fun _ _ h => h)
               have HSU := Lib.hid (HKS.out.trans (HP.out.keeps hku))
               have HQ : Hid (PQ base u b m ((d.add x).longer TN) ⟨mv, .slice LA Lg.length lc, Lg, hv, vl⟩) := Lib.hid (by rw [Pd.longer_no (by rw [show (d.add x).Lg = d.Lg from rfl, HNL.out, HTL.out]; exact HLT.out)]; exact hq)
               have HXU := Lib.hid (HX.out u hku)
               clear hq hku elg)
            | (have HXUx := HXU.out
               refine wpList_load_row rfl 32 (.tmp 10) rfl (k + 1) (by rfl) 32 y.cs (0, 0) _ HXUx Try.underlying32 rfl (by kernel_rfl) ?_)
            | (go_at_call 25
               refine (KV.out _ HSU.out).mono ?_
               rintro e u5 ⟨⟨m5, X5, t5, L5⟩, rfl, ok5, d5, b5⟩
               have hq5 := HQ.out.below b5
               have th5 : u5.there b 7 4 := there_row hq5.blk (by show 7 + 4 ≤ 13; omega)
               have hq6 := hq5.setHeld acc ⟨m5, X5, t5, L5⟩ true ok5
               obtain ⟨A5, c5, e5, -, -, -, -⟩ := ok5.m.rows
               obtain ⟨A6, c6, e6, -, -, -, -⟩ := ok5.t.rows
               dsimp only at e5 e6
               subst e5 e6
               dsimp only [Vl.cs] at hq6 ⊢
               obtain ⟨n5, hn5⟩ : ∃ z, X5.length = z := ⟨_, rfl⟩
               obtain ⟨n6, hn6⟩ : ∃ z, L5.length = z := ⟨_, rfl⟩
               simp only [hn5, hn6] at hq6 ⊢
               obtain ⟨u6, hu6⟩ : ∃ z, u5.setCells b 7 [.int .u64 acc, .slice A5 n5 c5, .slice A6 n6 c6, .bool true] = z := ⟨_, rfl⟩
               rw [hu6] at hq6
               have kp6 : KP (fun j => j = b) u5 u6 := by rw [← hu6]; exact KP.setCells (S := fun j => j = b) rfl _ _ _
               have HKU6 := Lib.hid (HKU.out.trans ((KP.of_below (S := FP b m) b5).trans (kp6.mono fun i e => .inl e) fun _ _ h => h) fun _ _ h => h)
               have HP6 : Hid (PP base u6 b m (((d.add x).longer TN).hold acc y.d true)) := Lib.hid (by
                 rw [Pd.hold_yes (by rw [HDH.out.1, HDH.out.2]; rfl), ← d5]
                 exact ⟨_, hq6⟩)
               have T6 := Lib.hid th5
               have HU6 := Lib.hid hu6
               clear hq5 hq6 kp6 hu6 th5 ok5 d5 b5 hn5 hn6)
            | (have T6x := T6.out
               refine wpList_store_mid rfl 65 (.tmp 58) (.tmp 56) rfl b 7 #[.int .u64 acc, .slice A5 n5 c5, .slice A6 n6 c6, .bool true] (by rfl) (by rfl) T6x (by kernel_rfl) (by simp [Value.oneCell']) ?_
               rw [HU6.out])
            | fail)
          refine bodyPost_end (results_none rfl _ _ _) rfl ?_
          exact ⟨rfl, by rw [HE.out]; exact HP6.out, HKU6.out⟩
        | true =>
          by_cases hbl : hb < acc
          · as_aux_lemma =>
            skip
            have HBL := Lib.hid hbl
            have hbi : ¬ acc ≤ hb := by omega
            go_enter Try.func16, Try.ntmps16
            go_wp2_with (first
              | (rw [HW2.out, HS1.out])
              | (rw [HW1.out])
              | (go_at_call 30; refine KI.out.mono ?_; rintro e u ⟨rfl, rfl⟩)
              | (go_at_call 31; refine KC.out.mono ?_; rintro e u ⟨rfl, hpu, hku⟩
                 rw [HCY.out] at hpu
                 obtain ⟨⟨mv, lv, Lg, hv, vl⟩, hq⟩ := hpu
                 obtain ⟨LA, lc, elv, -, -, -, -⟩ := hq.lg.rows
                 dsimp only at elv
                 subst elv
                 have elg : Lg.length = nL := by
                   have := congrArg List.length hq.lgd
                   rw [List.length_map] at this
                   exact this.trans HNL.out
                 have c6 : u.cell? ⟨b, 6, none⟩ = some (.slice LA nL lc) := by rw [← elg]; exact cell_of hq.blk 6 (.slice LA Lg.length lc) rfl
                 have c7 : u.cell? ⟨b, 7, none⟩ = some (.int .u64 hb) := by rw [← HHB.out]; exact cell_of hq.blk 7 (.int .u64 d.hb) rfl
                 have c10 : u.cell? ⟨b, 10, none⟩ = some (.bool _) := (cell_of hq.blk 10 (.bool d.hh) rfl).trans (by rw [HHH.out])
                 have HPU := Lib.hid hq
                 have HKW := Lib.hid hku
                 have HKU := Lib.hid (HKP.out.trans hku fun _ _ h => h)
                 have HSU := Lib.hid (HKS.out.trans (HP.out.keeps hku))
                 have HQ : Hid (PQ base u b m ((d.add x).longer TN) ⟨mv, .slice LA Lg.length lc, Lg, hv, vl⟩) := Lib.hid (by rw [Pd.longer_no (by rw [show (d.add x).Lg = d.Lg from rfl, HNL.out, HTL.out]; exact HLT.out)]; exact hq)
                 have HXU := Lib.hid (HX.out u hku)
                 clear hq hku elg)
              | (have HXUx := HXU.out
                 refine wpList_load_row rfl 32 (.tmp 10) rfl (k + 1) (by rfl) 32 y.cs (0, 0) _ HXUx Try.underlying32 rfl (by kernel_rfl) ?_)
              | (go_at_call 25
                 refine (KV.out _ HSU.out).mono ?_
                 rintro e u5 ⟨⟨m5, X5, t5, L5⟩, rfl, ok5, d5, b5⟩
                 have hq5 := HQ.out.below b5
                 have th5 : u5.there b 7 4 := there_row hq5.blk (by show 7 + 4 ≤ 13; omega)
                 have hq6 := hq5.setHeld acc ⟨m5, X5, t5, L5⟩ true ok5
                 obtain ⟨A5, c5, e5, -, -, -, -⟩ := ok5.m.rows
                 obtain ⟨A6, c6, e6, -, -, -, -⟩ := ok5.t.rows
                 dsimp only at e5 e6
                 subst e5 e6
                 dsimp only [Vl.cs] at hq6 ⊢
                 obtain ⟨n5, hn5⟩ : ∃ z, X5.length = z := ⟨_, rfl⟩
                 obtain ⟨n6, hn6⟩ : ∃ z, L5.length = z := ⟨_, rfl⟩
                 simp only [hn5, hn6] at hq6 ⊢
                 obtain ⟨u6, hu6⟩ : ∃ z, u5.setCells b 7 [.int .u64 acc, .slice A5 n5 c5, .slice A6 n6 c6, .bool true] = z := ⟨_, rfl⟩
                 rw [hu6] at hq6
                 have kp6 : KP (fun j => j = b) u5 u6 := by rw [← hu6]; exact KP.setCells (S := fun j => j = b) rfl _ _ _
                 have HKU6 := Lib.hid (HKU.out.trans ((KP.of_below (S := FP b m) b5).trans (kp6.mono fun i e => .inl e) fun _ _ h => h) fun _ _ h => h)
                 have HP6 : Hid (PP base u6 b m (((d.add x).longer TN).hold acc y.d true)) := Lib.hid (by
                   rw [Pd.hold_yes (by rw [HDH.out.1, HDH.out.2]; simpa using HBL.out), ← d5]
                   exact ⟨_, hq6⟩)
                 have T6 := Lib.hid th5
                 have HU6 := Lib.hid hu6
                 clear hq5 hq6 kp6 hu6 th5 ok5 d5 b5 hn5 hn6)
              | (have T6x := T6.out
                 refine wpList_store_mid rfl 65 (.tmp 58) (.tmp 56) rfl b 7 #[.int .u64 acc, .slice A5 n5 c5, .slice A6 n6 c6, .bool true] (by rfl) (by rfl) T6x (by kernel_rfl) (by simp [Value.oneCell']) ?_
                 rw [HU6.out])
              | fail)
            refine bodyPost_end (results_none rfl _ _ _) rfl ?_
            exact ⟨rfl, by rw [HE.out]; exact HP6.out, HKU6.out⟩
          · as_aux_lemma =>
            skip
            have HBL := Lib.hid hbl
            have hbi : acc ≤ hb := by omega
            go_enter Try.func16, Try.ntmps16
            go_wp2_with (first
              | (rw [HW2.out, HS1.out])
              | (rw [HW1.out])
              | (go_at_call 30; refine KI.out.mono ?_; rintro e u ⟨rfl, rfl⟩)
              | (go_at_call 31; refine KC.out.mono ?_; rintro e u ⟨rfl, hpu, hku⟩
                 rw [HCY.out] at hpu
                 obtain ⟨⟨mv, lv, Lg, hv, vl⟩, hq⟩ := hpu
                 obtain ⟨LA, lc, elv, -, -, -, -⟩ := hq.lg.rows
                 dsimp only at elv
                 subst elv
                 have elg : Lg.length = nL := by
                   have := congrArg List.length hq.lgd
                   rw [List.length_map] at this
                   exact this.trans HNL.out
                 have c6 : u.cell? ⟨b, 6, none⟩ = some (.slice LA nL lc) := by rw [← elg]; exact cell_of hq.blk 6 (.slice LA Lg.length lc) rfl
                 have c7 : u.cell? ⟨b, 7, none⟩ = some (.int .u64 hb) := by rw [← HHB.out]; exact cell_of hq.blk 7 (.int .u64 d.hb) rfl
                 have c10 : u.cell? ⟨b, 10, none⟩ = some (.bool _) := (cell_of hq.blk 10 (.bool d.hh) rfl).trans (by rw [HHH.out])
                 have HPU := Lib.hid hq
                 have HKW := Lib.hid hku
                 have HKU := Lib.hid (HKP.out.trans hku fun _ _ h => h)
                 have HSU := Lib.hid (HKS.out.trans (HP.out.keeps hku))
                 have HQ : Hid (PQ base u b m ((d.add x).longer TN) ⟨mv, .slice LA Lg.length lc, Lg, hv, vl⟩) := Lib.hid (by rw [Pd.longer_no (by rw [show (d.add x).Lg = d.Lg from rfl, HNL.out, HTL.out]; exact HLT.out)]; exact hq)
                 have HXU := Lib.hid (HX.out u hku)
                 clear hq hku elg)
              | fail)
            refine bodyPost_end (results_none rfl _ _ _) rfl ?_
            exact ⟨rfl, by rw [HE.out, Pd.hold_no (by rw [HDH.out.1, HDH.out.2]; simpa using HBL.out)]; exact ⟨_, HQ.out⟩, HKU.out⟩

end Go.Proofs.Ytfkmodmgihadkaa
