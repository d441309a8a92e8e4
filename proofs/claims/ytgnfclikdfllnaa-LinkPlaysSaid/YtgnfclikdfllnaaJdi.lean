/-
  The document's Hear, walked: by an exact answer. Condition: the link lies in memory.
-/
import Derived.Test.YtgnfclikdfllnaaJdh
namespace Go.Proofs.Ytgnfclikdfllnaa
set_option linter.unusedSimpArgs false
set_option linter.unusedVariables false
open Go.RowKit Go.Maps Go.Sort

set_option maxRecDepth 100000 in
set_option maxHeartbeats 4000000 in
theorem hearD_from (base : Nat) (W : World) (b : Nat) (v w : Value) (s : Sc) (L : List Ls) (K : List Kr) (h : DL base W b v w s L K) (p : Hp) (XA : Option Addr) (xc : Nat) (hx : BytesAt W base XA p.B) (hxl : p.B.length ≤ 1000000) (hA0 : XA = none → p.B.length = 0 ∧ xc = 0) (ho : ¬ (p.fn = s.pn ∧ p.fl = s.pl)) (hq : p.seq ≤ 18446744073709551615) (hKW : KW s.want K) (hKf : K.length < 900) :
    Calls Try.prog 21 #[.pointer (some ⟨b, 0, none⟩), .agg (p.cs XA xc)] W fun e W' => HearDR base W b v w s L K p e W' := by
  have hbw := blt h.lnk
  have hbase := h.hb
  obtain ⟨W1, hW1⟩ : ∃ Y, W.alloc (.cells (p.cs XA xc) 37) = Y := ⟨_, rfl⟩
  have r1 : W1.heap[W.heap.size]? = some (.cells (p.cs XA xc) 37 (0, 0)) := by rw [← hW1]; exact heap_alloc_new _ _
  have b1 : Below W.heap.size W W1 := by rw [← hW1]; exact (Below.refl _ _).alloc (Nat.le_refl _) _
  have J1 : Hid (HJ base W b v w s K p XA xc v L W1) := Lib.hid ⟨h.below b1, r1, hx.below b1 (by omega) (Nat.le_refl _), KP.of_below b1, rfl⟩
  obtain ⟨mn, ml, pn, pl, ag, nx, wt, ow⟩ := s
  have lnk := J1.out.dl.lnk
  simp only [Sc.ds] at lnk
  have HW := Lib.hid hW1
  obtain ⟨fn, fl, tn, tl, sq, ak, hs, xB⟩ := p
  obtain ⟨xl, hxx⟩ : ∃ xl, xB.length = xl := ⟨_, rfl⟩
  simp only [Hp.cs, hxx] at r1 HW ⊢
  have HXX := Lib.hid hxx
  have HXL := Lib.hid hxl
  have HA0 := Lib.hid hA0
  have HQ := Lib.hid hq
  have HKW := Lib.hid hKW
  have HKF := Lib.hid hKf
  have HD0 := Lib.hid h
  have R1 := Lib.hid r1
  have B1 := Lib.hid b1
  have HNO := Lib.hid (fun hm => ho ⟨hm.1, hm.2.1⟩ : ¬ (Hp.mine ⟨fn, fl, tn, tl, sq, ak, hs, xB⟩ ⟨mn, ml, pn, pl, ag, nx, wt, ow⟩))
  have n1 := fun W => neqRP fn fl pn pl false (by simpa using ho) W
  clear ho
  have c0 := cell_of lnk 0 (.int .u8 mn) rfl
  have c1 := cell_of lnk 1 (.int .u16 ml) rfl
  have c2 := cell_of lnk 2 (.int .u8 pn) rfl
  have c3 := cell_of lnk 3 (.int .u16 pl) rfl
  have d0 := cell_of r1 0 (.int .u8 fn) rfl
  have d1 := cell_of r1 1 (.int .u16 fl) rfl
  have d2 := cell_of r1 2 (.int .u8 tn) rfl
  have d3 := cell_of r1 3 (.int .u16 tl) rfl
  clear h hx hxl hA0 hq hKW hKf hW1 r1 b1 lnk hxx hbw hbase
  go_enter Try.func21, Try.ntmps21
  go_wp2_with (refine wpList_bx rfl 37 (.tmp 1) rfl 3 rfl #[.int .u8 fn, .int .u16 fl, .int .u8 tn, .int .u16 tl, .int .u64 sq, .int .u64 ak, .bool hs, .slice XA xl xc] rfl ?_; rw [HW.out])
  have t0 := cell_regrown c0
  have y0 := cell_regrown d0
  have t1 := cell_regrown c1
  have y1 := cell_regrown d1
  have t2 := cell_regrown c2
  have y2 := cell_regrown d2
  have t3 := cell_regrown c3
  have y3 := cell_regrown d3
  clear c0 c1 c2 c3 d0 d1 d2 d3
  refine wp_region_quiet_below (by kernel_rfl) (by kernel_rfl) ?_
  repeat (go_big_quiet_step (fail))
  refine wpQuiet_nil ?_
  rintro W3 ⟨pz, rfl⟩
  have bz := below_regrown W1 pz.d pz.os
  generalize grow (redrawn W1 pz.d) pz.os = W3 at bz ⊢
  clear t0 t1 t2 t3 y0 y1 y2 y3
  have B3 := Lib.hid (B1.out.trans (bz.mono B1.out.size))
  clear bz
  go_wp2
  go_ret
  unfold HearDR
  rw [hear_no HNO.out]
  exact ⟨.slice none 0 0, v, w, K, [], rfl, World.ownsRow_nil _ _ _ _, fun _ hx => (by cases hx), HD0.out.below B3.out, rfl, rfl, KP.of_below B3.out⟩

set_option maxRecDepth 100000 in
set_option maxHeartbeats 4000000 in
theorem hearD_to (base : Nat) (W : World) (b : Nat) (v w : Value) (s : Sc) (L : List Ls) (K : List Kr) (h : DL base W b v w s L K) (p : Hp) (XA : Option Addr) (xc : Nat) (hx : BytesAt W base XA p.B) (hxl : p.B.length ≤ 1000000) (hA0 : XA = none → p.B.length = 0 ∧ xc = 0) (ho : (p.fn = s.pn ∧ p.fl = s.pl) ∧ ¬ (p.tn = s.mn ∧ p.tl = s.ml)) (hq : p.seq ≤ 18446744073709551615) (hKW : KW s.want K) (hKf : K.length < 900) :
    Calls Try.prog 21 #[.pointer (some ⟨b, 0, none⟩), .agg (p.cs XA xc)] W fun e W' => HearDR base W b v w s L K p e W' := by
  have hbw := blt h.lnk
  have hbase := h.hb
  obtain ⟨W1, hW1⟩ : ∃ Y, W.alloc (.cells (p.cs XA xc) 37) = Y := ⟨_, rfl⟩
  have r1 : W1.heap[W.heap.size]? = some (.cells (p.cs XA xc) 37 (0, 0)) := by rw [← hW1]; exact heap_alloc_new _ _
  have b1 : Below W.heap.size W W1 := by rw [← hW1]; exact (Below.refl _ _).alloc (Nat.le_refl _) _
  have J1 : Hid (HJ base W b v w s K p XA xc v L W1) := Lib.hid ⟨h.below b1, r1, hx.below b1 (by omega) (Nat.le_refl _), KP.of_below b1, rfl⟩
  obtain ⟨mn, ml, pn, pl, ag, nx, wt, ow⟩ := s
  have lnk := J1.out.dl.lnk
  simp only [Sc.ds] at lnk
  have HW := Lib.hid hW1
  obtain ⟨fn, fl, tn, tl, sq, ak, hs, xB⟩ := p
  obtain ⟨xl, hxx⟩ : ∃ xl, xB.length = xl := ⟨_, rfl⟩
  simp only [Hp.cs, hxx] at r1 HW ⊢
  have HXX := Lib.hid hxx
  have HXL := Lib.hid hxl
  have HA0 := Lib.hid hA0
  have HQ := Lib.hid hq
  have HKW := Lib.hid hKW
  have HKF := Lib.hid hKf
  have HD0 := Lib.hid h
  have R1 := Lib.hid r1
  have B1 := Lib.hid b1
  have HNO := Lib.hid (fun hm => ho.2 ⟨hm.2.2.1, hm.2.2.2⟩ : ¬ (Hp.mine ⟨fn, fl, tn, tl, sq, ak, hs, xB⟩ ⟨mn, ml, pn, pl, ag, nx, wt, ow⟩))
  have n1 := fun W => neqRP fn fl pn pl true (by simpa using ho.1) W
  have n2 := fun W => neqRP tn tl mn ml false (by simpa using ho.2) W
  clear ho
  have c0 := cell_of lnk 0 (.int .u8 mn) rfl
  have c1 := cell_of lnk 1 (.int .u16 ml) rfl
  have c2 := cell_of lnk 2 (.int .u8 pn) rfl
  have c3 := cell_of lnk 3 (.int .u16 pl) rfl
  have d0 := cell_of r1 0 (.int .u8 fn) rfl
  have d1 := cell_of r1 1 (.int .u16 fl) rfl
  have d2 := cell_of r1 2 (.int .u8 tn) rfl
  have d3 := cell_of r1 3 (.int .u16 tl) rfl
  clear h hx hxl hA0 hq hKW hKf hW1 r1 b1 lnk hxx hbw hbase
  go_enter Try.func21, Try.ntmps21
  go_wp2_with (refine wpList_bx rfl 37 (.tmp 1) rfl 3 rfl #[.int .u8 fn, .int .u16 fl, .int .u8 tn, .int .u16 tl, .int .u64 sq, .int .u64 ak, .bool hs, .slice XA xl xc] rfl ?_; rw [HW.out])
  have t0 := cell_regrown c0
  have y0 := cell_regrown d0
  have t1 := cell_regrown c1
  have y1 := cell_regrown d1
  have t2 := cell_regrown c2
  have y2 := cell_regrown d2
  have t3 := cell_regrown c3
  have y3 := cell_regrown d3
  clear c0 c1 c2 c3 d0 d1 d2 d3
  refine wp_region_quiet_below (by kernel_rfl) (by kernel_rfl) ?_
  repeat (go_big_quiet_step (fail))
  refine wpQuiet_nil ?_
  rintro W3 ⟨pz, rfl⟩
  have bz := below_regrown W1 pz.d pz.os
  generalize grow (redrawn W1 pz.d) pz.os = W3 at bz ⊢
  clear t0 t1 t2 t3 y0 y1 y2 y3
  have B3 := Lib.hid (B1.out.trans (bz.mono B1.out.size))
  clear bz
  go_wp2
  go_ret
  unfold HearDR
  rw [hear_no HNO.out]
  exact ⟨.slice none 0 0, v, w, K, [], rfl, World.ownsRow_nil _ _ _ _, fun _ hx => (by cases hx), HD0.out.below B3.out, rfl, rfl, KP.of_below B3.out⟩

/-- while what was kept comes. -/
structure CJ (base : Nat) (W : World) (b : Nat) (v w : Value) (s : Sc) (La : List Ls) (K : List Kr) (vq : Value) (x0 : Kr) (i u : Nat) (K' D : List Kr) (w' ov : Value) (wr : World) : Prop where
  dl : DL base wr b vq w' { s with want := u } La K'
  row : wr.ownsRow W.heap.size 35 1 ov (D.length + 1) (bvs (x0 :: D))
  ok : ∀ x ∈ x0 :: D, x.b.Ok wr
  kp : KP (FD b v w) W wr
  eq : comeF K.length K (inc s.want) = ((comeF K'.length K' u).1, (comeF K'.length K' u).2.1, D ++ (comeF K'.length K' u).2.2)
  cw : CW s.want i K'
  hu : u = (s.want + 1 + i) % 18446744073709551616
  le : D.length + K'.length ≤ K.length
theorem CJ.start {base : Nat} {W : World} {b : Nat} {v w : Value} {s : Sc} {La : List Ls} {K : List Kr} {p : Hp} {XA : Option Addr} {xc : Nat} {vq ov : Value} {x0 : Kr} {wc wd : World} (h : HJ base W b v w s K p XA xc vq La wc) (hK : KW s.want K) (ok : x0.b.Ok wc) (row : wc.ownsRow W.heap.size 35 1 ov 1 (bvs [x0]))
    (hwd : wc.setCell ⟨b, 6, none⟩ (.int .u64 ((inc s.want : Nat) : Int)) = wd) : CJ base W b v w s La K vq x0 0 (inc s.want) K [] w ov wd := by
  have kF : KP (fun k => k = b) wc wd := by rw [← hwd]; exact KP.set (S := fun k => k = b) wc b 6 _ rfl
  refine ⟨h.dl.num kF (by rw [← hwd]; exact (row_set h.dl.lnk _).trans rfl) rfl rfl (inc_le _), owns_keepB row fun g hg => kF.block g (row.lt g hg).2 ?_, fun x hx => ?_, h.kp.trans kF fun k _ hk => Or.inl hk, by simp, hK.cw, by unfold inc; omega, by simp⟩
  · obtain ⟨cu, hcu⟩ := row_block row hg
    exact apart_of hcu h.dl.lnk (by decide)
  · obtain rfl : x = x0 := by simpa using hx
    exact ok.keepK kF fun g' cur hg e => h.dl.u8 g' cur hg (Or.inl e)
theorem CJ.fin {base : Nat} {W : World} {b : Nat} {v w : Value} {s : Sc} {L : List Ls} {K : List Kr} {p : Hp} {vq : Value} {x0 : Kr} {i u : Nat} {K' D : List Kr} {w' w3 ov : Value} {wr w2 : World} (h : CJ base W b v w { s with owed := true } (L.drop (ackN s.next p.ack L.length)) K vq x0 i u K' D w' ov wr)
    (hm : p.mine s) (hK : KW s.want K) (hx : x0.p = (p.seq, p.B)) (hf : fK K' u = none) (d2 : DL base w2 b vq w3 { s with owed := true, want := u } (L.drop (ackN s.next p.ack L.length)) (outN K' u)) (k2 : KP (fun k => k = b) wr w2) (hh : p.has = true := by rfl) (hs : p.seq = s.want := by rfl) :
    HearDR base W b v w s L K p (.returned ov) w2 := by
  have e := h.eq
  rw [comeF_none hf] at e
  have ho : outN K' u = K' := by
    unfold outN
    exact List.filter_eq_self.2 fun y hy => by simpa using fK_none hf y hy
  rw [ho] at d2
  unfold HearDR
  rw [hear_come hm hh hK hs x0 hx]
  have e' : comeF K.length K (inc s.want) = (K', u, D) := by
    have e2 : comeF K.length K (inc s.want) = (K', u, D ++ []) := e
    rw [e2, List.append_nil]
  rw [e']
  refine ⟨ov, vq, w3, K', x0 :: D, rfl, owns_keepB h.row fun g hg => k2.block g (h.row.lt g hg).2 ?_, fun x hx => ?_, d2, rfl, rfl, h.kp.trans k2 fun k _ hk => Or.inl hk⟩
  · obtain ⟨cu, hcu⟩ := row_block h.row hg
    exact apart_of hcu h.dl.lnk (by decide)
  · exact (h.ok x hx).keepK k2 fun g' cur hg e => h.dl.u8 g' cur hg (Or.inl e)
theorem CJ.step {base : Nat} {W : World} {b : Nat} {v w : Value} {s : Sc} {La : List Ls} {K : List Kr} {vq : Value} {x0 x : Kr} {i u : Nat} {K' D : List Kr} {w' w3 ov dv' : Value} {wr w2 w4 w9 : World} (h : CJ base W b v w s La K vq x0 i u K' D w' ov wr) (hf : fK K' u = some x)
    (d2 : DL base w2 b vq w3 { s with want := u } La (outN K' u)) (k2 : KP (fun k => k = b) wr w2) (b4 : Below w2.heap.size w2 w4) (row : w9.ownsRow W.heap.size 35 1 dv' (D.length + 1 + 1) (bvs (x0 :: D) ++ [x.b.v])) (k9 : KP (fun k => ov.ownBlock = some k) w4 w9) (wF : World) (hwF : w9.setCell ⟨b, 6, none⟩ (.int .u64 ((inc u : Nat) : Int)) = wF) :
    CJ base W b v w s La K vq x0 (i + 1) (inc u) (outN K' u) (D ++ [x]) w3 dv' wF ∧ i < 7 := by
  obtain ⟨c1, c2, c3⟩ := h.cw.step h.hu hf
  refine ⟨?_, c3⟩
  obtain ⟨hx, hxu⟩ := fK_some hf
  have u2 : ∀ (g' : Nat) (cur : Array Value), wr.heap[g']? = some (.cells cur 5 (0, 0)) → ¬ (g' = b) := fun g' cur hg e => h.dl.u8 g' cur hg (Or.inl e)
  have d4 := d2.below b4
  have hrow4 : w4.ownsRow W.heap.size 35 1 ov (D.length + 1) (bvs (x0 :: D)) := by
    refine owns_keepB h.row fun g hg => ?_
    obtain ⟨cu, hcu⟩ := row_block h.row hg
    have q1 := (k2.block g (blt hcu) (apart_of hcu h.dl.lnk (by decide))).trans hcu
    exact ((b4.block g (blt q1)).trans q1).trans hcu.symm
  have hne : ∀ (k : Nat) (cu : Array Value) (t : TypeId), w4.heap[k]? = some (.cells cu t (0, 0)) → t ≠ 35 → ¬ (ov.ownBlock = some k) := fun k cu t hk ht e => by
    obtain ⟨c2, h2⟩ := row_block hrow4 e
    exact apart_of hk h2 ht rfl
  have u4 : ∀ (g' : Nat) (cur : Array Value), w4.heap[g']? = some (.cells cur 5 (0, 0)) → ¬ (ov.ownBlock = some g') := fun g' cu hc => hne g' _ _ hc (by decide)
  have d9 := d4.keepK k9 (hne b _ _ d4.lnk (by decide)) (fun g' hg => by
    obtain ⟨c2, h2⟩ := d4.row.block g' hg
    exact hne g' _ _ h2 (by decide)) (fun g' hg => by
    obtain ⟨c2, h2⟩ := d4.krow.block g' hg
    exact hne g' _ _ h2 (by decide)) u4
  have kF : KP (fun k => k = b) w9 wF := by rw [← hwF]; exact KP.set (S := fun k => k = b) w9 b 6 _ rfl
  have hbd : ∀ y : Kr, y.b.Ok wr → y.b.Ok wF := fun y hy => (((hy.keepK k2 u2).below b4).keepK k9 u4).keepK kF fun g' cur hg e => d9.u8 g' cur hg (Or.inl e)
  have hlen := outN_len h.cw.ap hx
  rw [hxu] at hlen
  refine ⟨d9.num kF (by rw [← hwF]; exact (row_set d9.lnk _).trans rfl) rfl rfl (inc_le u), ?_, fun y hy => ?_, ?_, ?_, c1, c2, ?_⟩
  · rw [List.length_append]
    have e : bvs (x0 :: (D ++ [x])) = bvs (x0 :: D) ++ [x.b.v] := by simp [bvs]
    rw [e]
    refine owns_keepB row fun g hg => kF.block g (row.lt g hg).2 ?_
    obtain ⟨cu, hcu⟩ := row_block row hg
    exact apart_of hcu d9.lnk (by decide)
  · have hy' : y ∈ x0 :: D ∨ y = x := by
      rcases List.mem_cons.1 hy with e | e
      · exact Or.inl (e ▸ List.mem_cons_self ..)
      · rcases List.mem_append.1 e with e | e
        · exact Or.inl (List.mem_cons_of_mem _ e)
        · exact Or.inr (by simpa using e)
    rcases hy' with hy | rfl
    · exact hbd y (h.ok y hy)
    · exact hbd _ (h.dl.okK _ hx)
  · have k01 := h.kp.trans k2 fun k _ hk => Or.inl hk
    have k02 := k01.trans (KP.of_below (S := FD b v w) b4) fun _ _ h => h
    have k03 := k02.trans k9 fun k hk hp => absurd (h.row.lt k hp).1 (by omega)
    exact k03.trans kF fun k _ hk => Or.inl hk
  · obtain ⟨f, hf'⟩ : ∃ f, K'.length = f + 1 := ⟨(outN K' u).length, hlen.symm⟩
    have e := h.eq
    rw [hf', comeF_some hf] at e
    have e2 : (outN K' u).length = f := by omega
    rw [e, e2]
    simp
  · rw [List.length_append]
    have := h.le
    simp
    omega

set_option maxRecDepth 100000 in
set_option maxHeartbeats 4000000 in
theorem hearD_mine (base : Nat) (W : World) (b : Nat) (v w : Value) (s : Sc) (L : List Ls) (K : List Kr) (h : DL base W b v w s L K) (p : Hp) (XA : Option Addr) (xc : Nat) (hx : BytesAt W base XA p.B) (hxl : p.B.length ≤ 1000000) (hA0 : XA = none → p.B.length = 0 ∧ xc = 0) (ho : p.mine s) (hq : p.seq ≤ 18446744073709551615) (hKW : KW s.want K) (hKf : K.length < 900) :
    Calls Try.prog 21 #[.pointer (some ⟨b, 0, none⟩), .agg (p.cs XA xc)] W fun e W' => HearDR base W b v w s L K p e W' := by
  have hbw := blt h.lnk
  have hbase := h.hb
  obtain ⟨W1, hW1⟩ : ∃ Y, W.alloc (.cells (p.cs XA xc) 37) = Y := ⟨_, rfl⟩
  have r1 : W1.heap[W.heap.size]? = some (.cells (p.cs XA xc) 37 (0, 0)) := by rw [← hW1]; exact heap_alloc_new _ _
  have b1 : Below W.heap.size W W1 := by rw [← hW1]; exact (Below.refl _ _).alloc (Nat.le_refl _) _
  have J1 : Hid (HJ base W b v w s K p XA xc v L W1) := Lib.hid ⟨h.below b1, r1, hx.below b1 (by omega) (Nat.le_refl _), KP.of_below b1, rfl⟩
  obtain ⟨mn, ml, pn, pl, ag, nx, wt, ow⟩ := s
  have lnk := J1.out.dl.lnk
  simp only [Sc.ds] at lnk
  have HW := Lib.hid hW1
  obtain ⟨fn, fl, tn, tl, sq, ak, hs, xB⟩ := p
  obtain ⟨xl, hxx⟩ : ∃ xl, xB.length = xl := ⟨_, rfl⟩
  simp only [Hp.cs, hxx] at r1 HW ⊢
  have HXX := Lib.hid hxx
  have HXL := Lib.hid hxl
  have HA0 := Lib.hid hA0
  have HQ := Lib.hid hq
  have HKW := Lib.hid hKW
  have HKF := Lib.hid hKf
  have HD0 := Lib.hid h
  have R1 := Lib.hid r1
  have B1 := Lib.hid b1
  have HM := Lib.hid (ho : Hp.mine ⟨fn, fl, tn, tl, sq, ak, hs, xB⟩ ⟨mn, ml, pn, pl, ag, nx, wt, ow⟩)
  have n1 := fun W => neqRP fn fl pn pl true (by have := ho.1; have := ho.2.1; simp at *; exact ⟨by assumption, by assumption⟩) W
  have n2 := fun W => neqRP tn tl mn ml true (by have := ho.2.2.1; have := ho.2.2.2; simp at *; exact ⟨by assumption, by assumption⟩) W
  clear ho
  have c0 := cell_of lnk 0 (.int .u8 mn) rfl
  have c1 := cell_of lnk 1 (.int .u16 ml) rfl
  have c2 := cell_of lnk 2 (.int .u8 pn) rfl
  have c3 := cell_of lnk 3 (.int .u16 pl) rfl
  have d0 := cell_of r1 0 (.int .u8 fn) rfl
  have d1 := cell_of r1 1 (.int .u16 fl) rfl
  have d2 := cell_of r1 2 (.int .u8 tn) rfl
  have d3 := cell_of r1 3 (.int .u16 tl) rfl
  clear h hx hxl hA0 hq hKW hKf hW1 r1 b1 lnk hxx hbw hbase
  go_enter Try.func21, Try.ntmps21
  go_wp2_with (refine wpList_bx rfl 37 (.tmp 1) rfl 3 rfl #[.int .u8 fn, .int .u16 fl, .int .u8 tn, .int .u16 tl, .int .u64 sq, .int .u64 ak, .bool hs, .slice XA xl xc] rfl ?_; rw [HW.out])
  have t0 := cell_regrown c0
  have y0 := cell_regrown d0
  have t1 := cell_regrown c1
  have y1 := cell_regrown d1
  have t2 := cell_regrown c2
  have y2 := cell_regrown d2
  have t3 := cell_regrown c3
  have y3 := cell_regrown d3
  clear c0 c1 c2 c3 d0 d1 d2 d3
  refine wp_region_quiet_below (by kernel_rfl) (by kernel_rfl) ?_
  repeat (go_big_quiet_step (fail))
  refine wpQuiet_nil ?_
  rintro W3 ⟨pz, rfl⟩
  have bz := below_regrown W1 pz.d pz.os
  generalize grow (redrawn W1 pz.d) pz.os = W3 at bz ⊢
  clear t0 t1 t2 t3 y0 y1 y2 y3 n1 n2
  have J3 : Hid (HJ base W b v w ⟨mn, ml, pn, pl, ag, nx, wt, ow⟩ K ⟨fn, fl, tn, tl, sq, ak, hs, xB⟩ XA xc v L W3) := Lib.hid (J1.out.below bz J1.out.base)
  clear bz
  obtain ⟨n, hn⟩ : ∃ n, L.length = n := ⟨_, rfl⟩
  have HN := Lib.hid hn
  clear hn
  go_wp2
  go_loopg [] L.length (fun gk wr => ∃ (d : Nat) (v' : Value), d + gk = n ∧ d ≤ ackN nx ak n ∧ Hid (HJ base W b v w ⟨mn, ml, pn, pl, ag, nx, wt, ow⟩ K ⟨fn, fl, tn, tl, sq, ak, hs, xB⟩ XA xc v' (L.drop d) wr))
  case atStart => exact ⟨0, v, by have := HN.out; omega, Nat.zero_le _, by rw [List.drop_zero]; exact J3⟩
  case round =>
    obtain ⟨d, v', hdg, hda, J⟩ := hrel
    clear J3
    obtain ⟨Lx, hLx⟩ : ∃ Lx, L.drop d = Lx := ⟨_, rfl⟩
    rw [hLx] at J
    have hlen : Lx.length = gk := by rw [← hLx, List.length_drop, HN.out]; omega
    have HLX := Lib.hid hLx
    have HLN := Lib.hid hlen
    clear hlen
    have HDG := Lib.hid hdg
    have HDA := Lib.hid hda
    have lnk := J.out.dl.lnk
    simp only [Sc.ds] at lnk
    have pk := J.out.pk
    simp only [Hp.cs, HXX.out] at pk
    have d5 := cell_of pk 5 (.int .u64 ak) rfl
    have c5 := cell_of lnk 5 (.int .u64 nx) rfl
    have y5 := cell_regrown d5
    have t5 := cell_regrown c5
    clear hLx hdg hda d5 c5
    obtain ⟨A', c', hv', hc1, hc2, hA'⟩ := J.out.dl.row.slice
    subst hv'
    have c7 := cell_of lnk 7 (.slice A' Lx.length c') rfl
    cases Lx with
    | nil =>
      have HL : Hid (([] : List Ls) = L.drop (ackN nx ak n)) := Lib.hid (by
        have h1 := HLX.out
        have h2 := ackN_le nx ak n
        have h3 := HDG.out
        rw [← h1]
        have hlen := HLN.out
        have : d = n := by simp at hlen; omega
        rw [List.drop_eq_nil_of_le (by rw [HN.out]; omega), List.drop_eq_nil_of_le (by rw [HN.out]; have := HDA.out; omega)])
      simp only [List.length_nil] at c7
      have t7 := cell_regrown c7
      clear lnk pk c7 hc1 hc2 hA'
      go_wp2
      refine wp_region_quiet_below (by kernel_rfl) (by kernel_rfl) ?_
      repeat (go_big_quiet_step (fail))
      refine wpQuiet_nil ?_
      rintro Wq ⟨pz, rfl⟩
      have bz := below_regrown wr pz.d pz.os
      generalize grow (redrawn wr pz.d) pz.os = Wq at bz ⊢
      clear t5 t7 y5
      as_aux_lemma =>
        have jq : ∃ vq, HJ base W b v w ⟨mn, ml, pn, pl, ag, nx, wt, ow⟩ K ⟨fn, fl, tn, tl, sq, ak, hs, xB⟩ XA xc vq (L.drop (ackN nx ak L.length)) Wq := ⟨_, by rw [HN.out, ← HL.out]; exact J.out.below bz J.out.base⟩
        obtain ⟨vq, jq⟩ := jq
        have JQ := Lib.hid jq
        have pq := jq.pk
        simp only [Hp.cs, HXX.out] at pq
        have d6 := cell_of pq 6 (.bool hs) rfl
        clear bz jq pq J HLX
        cases hs with
        | false =>
          go_wp2
          go_ret
          unfold HearDR
          rw [hear_bare HM.out rfl]
          exact ⟨.slice none 0 0, vq, w, K, [], rfl, World.ownsRow_nil _ _ _ _, fun _ hx => (by cases hx), JQ.out.dl, rfl, rfl, JQ.out.kp⟩
        | true =>
          have lq := JQ.out.dl.lnk
          have c9 := cell_of lq 9 (.bool ow) rfl
          have z9 := frz_row 9 lq
          obtain ⟨w5, hw5⟩ : ∃ Y, Wq.setCell ⟨b, 9, none⟩ (.bool true) = Y := ⟨_, rfl⟩
          have j5 := JQ.out.owe true
          rw [hw5] at j5
          have J5 := Lib.hid j5
          have HW5 := Lib.hid hw5
          clear lq hw5 j5
          go_wp2_with (rw [HW5.out])
          clear c9 z9 d6
          have lk := J5.out.dl.lnk
          simp only [Sc.ds] at lk
          have pk := J5.out.pk
          simp only [Hp.cs, HXX.out] at pk
          have d4 := cell_of pk 4 (.int .u64 sq) rfl
          have c6 := cell_of lk 6 (.int .u64 wt) rfl
          have y4 := cell_regrown d4
          have t6 := cell_regrown c6
          clear lk pk d4 c6
          by_cases h1 : sq < wt
          · have h1i : (sq : Int) < (wt : Int) := by omega
            have HLO := Lib.hid h1
            refine wp_region_quiet_below (by kernel_rfl) (by kernel_rfl) ?_
            repeat (go_big_quiet_step (fail))
            refine wpQuiet_nil ?_
            rintro w6 ⟨pz, rfl⟩
            have bz := below_regrown w5 pz.d pz.os
            generalize grow (redrawn w5 pz.d) pz.os = w6 at bz ⊢
            clear y4 t6
            have J6 := Lib.hid (J5.out.below bz J5.out.base)
            clear bz
            go_wp2
            go_ret
            unfold HearDR
            rw [hear_same HM.out rfl HKW.out (Or.inl HLO.out)]
            exact ⟨.slice none 0 0, vq, w, K, [], rfl, World.ownsRow_nil _ _ _ _, fun _ hx => (by cases hx), J6.out.dl, rfl, rfl, J6.out.kp⟩
          · have h1i : ¬ (sq : Int) < (wt : Int) := by omega
            have hwr : IntKind.u64.wrap ((sq : Int) - (wt : Int)) = (sq : Int) - (wt : Int) := IntWalk.u64_in _ (by have hq2 : sq ≤ 18446744073709551615 := HQ.out; have hw2 := J5.out.dl.wnt; have hw3 : wt ≤ 18446744073709551615 := hw2; omega)
            by_cases h2 : 8 ≤ sq - wt
            · have h2i : (8 : Int) ≤ (sq : Int) - (wt : Int) := by omega
              have HHI := Lib.hid h2
              refine wp_region_quiet_below (by kernel_rfl) (by kernel_rfl) ?_
              repeat (go_big_quiet_step (fail))
              refine wpQuiet_nil ?_
              rintro w6 ⟨pz, rfl⟩
              have bz := below_regrown w5 pz.d pz.os
              generalize grow (redrawn w5 pz.d) pz.os = w6 at bz ⊢
              clear y4 t6
              have J6 := Lib.hid (J5.out.below bz J5.out.base)
              clear bz
              go_wp2
              go_ret
              unfold HearDR
              rw [hear_same HM.out rfl HKW.out (Or.inr (Or.inl HHI.out))]
              exact ⟨.slice none 0 0, vq, w, K, [], rfl, World.ownsRow_nil _ _ _ _, fun _ hx => (by cases hx), J6.out.dl, rfl, rfl, J6.out.kp⟩
            · have h2i : ¬ (8 : Int) ≤ (sq : Int) - (wt : Int) := by omega
              have HHI : Hid (sq - wt < 8) := Lib.hid (by omega)
              refine wp_region_quiet_below (by kernel_rfl) (by kernel_rfl) ?_
              repeat (go_big_quiet_step (fail))
              refine wpQuiet_nil ?_
              rintro w6 ⟨pz, rfl⟩
              have bz := below_regrown w5 pz.d pz.os
              generalize grow (redrawn w5 pz.d) pz.os = w6 at bz ⊢
              have J6 := Lib.hid (J5.out.below bz J5.out.base)
              clear bz y4 t6 hwr h2i h2
              go_wp2
              have lk := J6.out.dl.lnk
              simp only [Sc.ds] at lk
              have pk := J6.out.pk
              simp only [Hp.cs, HXX.out] at pk
              have d4 := cell_of pk 4 (.int .u64 sq) rfl
              have c6 := cell_of lk 6 (.int .u64 wt) rfl
              have y4 := cell_regrown d4
              have t6 := cell_regrown c6
              clear lk pk d4 c6
              by_cases h3 : sq = wt
              · subst h3
                refine wp_region_quiet_below (by kernel_rfl) (by kernel_rfl) ?_
                repeat (go_big_quiet_step (fail))
                refine wpQuiet_nil ?_
                rintro w7 ⟨pz, rfl⟩
                have bz := below_regrown w6 pz.d pz.os
                generalize grow (redrawn w6 pz.d) pz.os = w7 at bz ⊢
                have J7 := Lib.hid (J6.out.below bz J6.out.base)
                have hwt := J7.out.dl.wnt
                clear bz y4 t6 h1 h1i
                obtain ⟨wa, hwa⟩ : ∃ Y, w7.alloc (.cells #[] 5) = Y := ⟨_, rfl⟩
                have ba : Below w7.heap.size w7 wa := by rw [← hwa]; exact (Below.refl _ _).alloc (Nat.le_refl _) _
                have Oa : Hid (wa.ownsRow w7.heap.size 5 1 (.slice (some ⟨w7.heap.size, 0, none⟩) 0 0) 0 []) := Lib.hid (by rw [← hwa]; exact ⟨rfl, .inr ⟨w7.heap.size, 0, #[], rfl, Nat.le_refl _, heap_alloc_new _ _, Nat.le_refl _, by unfold maxLen; omega, rfl, rfl⟩⟩)
                have Ja := J7.out.below ba J7.out.base
                have pk := Ja.pk
                simp only [Hp.cs, HXX.out] at pk
                have d7 := cell_of pk 7 (.slice XA xl xc) rfl
                have XAa := Lib.hid Ja.x
                have BA := Lib.hid ba
                have HWA := Lib.hid hwa
                have HWT := Lib.hid hwt
                have hwi := inc_wrap sq
                clear hwa ba Ja pk hwt
                go_wp2_with (first
                  | (rw [HWA.out])
                  | (refine wpList_appB rfl 130 rfl (.tmp 127) (.tmp 129) rfl w7.heap.size _ 0 [] rfl Oa.out XA xB xl xc base rfl HXX.out.symm (fun e => by have := HA0.out e; simp only [HXX.out] at this; exact this) XAa.out (by have hxl3 : xB.length ≤ 1000000 := HXL.out; omega) BA.out.size ?_
                     intro bv wb bo gb
                     have bb : Below w7.heap.size w7 wb := BA.out.grown gb BA.out.size fun k hk => (Oa.out.lt k hk).1
                     rw [Nat.zero_add, List.nil_append] at bo
                     obtain ⟨bd, rfl, hbB, bok⟩ := Bd.of_own bo HXL.out
                     obtain ⟨bl, hbl⟩ : ∃ bl, bd.B.length = bl := ⟨_, rfl⟩
                     obtain ⟨wc, hwc⟩ : ∃ Y, wb.alloc (.cells #[.slice bd.A bl bd.c] 35) = Y := ⟨_, rfl⟩
                     have bc : Below w7.heap.size w7 wc := by rw [← hwc]; exact bb.alloc bb.size _
                     have bc2 : Below wb.heap.size wb wc := by rw [← hwc]; exact (Below.refl _ _).alloc (Nat.le_refl _) _
                     have rowc : wc.ownsRow W.heap.size 35 1 (.slice (some ⟨wb.heap.size, 0, none⟩) 1 1) 1 [.slice bd.A bl bd.c] := by
                       rw [← hwc]
                       exact ⟨rfl, .inr ⟨wb.heap.size, 1, #[.slice bd.A bl bd.c], rfl, by have := J7.out.kp.size; have := bb.size; omega, heap_alloc_new _ _, Nat.le_refl _, by unfold maxLen; omega, rfl, rfl⟩⟩
                     have jc := J7.out.below bc J7.out.base
                     have lc := jc.dl.lnk
                     simp only [Sc.ds] at lc
                     have c6 := cell_of lc 6 (.int .u64 sq) rfl
                     have z6 := frz_row 6 lc
                     have JC := Lib.hid jc
                     have OKC := Lib.hid (bok.below bc2)
                     have ROWC := Lib.hid rowc
                     have HWC := Lib.hid hwc
                     have HBB := Lib.hid hbB
                     have HBL := Lib.hid hbl
                     unfold Bd.v
                     rw [hbl]
                     clear bo gb bb bc bc2 rowc jc lc hwc hbB hbl bok d7)
                  | (rw [HWC.out]))
                obtain ⟨wd, hwd⟩ : ∃ Y, wc.setCell ⟨b, 6, none⟩ (.int .u64 ((inc sq : Nat) : Int)) = Y := ⟨_, rfl⟩
                rw [hwd]
                have C0 : Hid (CJ base W b v w ⟨mn, ml, pn, pl, ag, nx, sq, true⟩ (L.drop (ackN nx ak L.length)) K vq ⟨sq, bd⟩ 0 (inc sq) K [] w (.slice (some ⟨wb.heap.size, 0, none⟩) 1 1) wd) := Lib.hid (CJ.start JC.out HKW.out OKC.out (by have := ROWC.out; unfold bvs Bd.v; simp only [List.map_cons, List.map_nil, HBL.out]; exact this) hwd)
                clear hwd c6 z6 hwi
                go_loopw [6, 7] (fun ov iv wz => ∃ (i u : Nat) (K' D : List Kr) (w' : Value), i ≤ 7 ∧ iv = .int .i64 i ∧ Hid (CJ base W b v w ⟨mn, ml, pn, pl, ag, nx, sq, true⟩ (L.drop (ackN nx ak L.length)) K vq ⟨sq, bd⟩ i u K' D w' ov wz)) (fun _ iv _ => 8 - (intOf iv).toNat)
                case atStart => exact ⟨0, _, _, _, _, by omega, rfl, C0⟩
                case round =>
                  obtain ⟨i, u, K', D, w', hi, rfl, CJJ⟩ := hrel
                  clear C0
                  have hi8 : (i : Int) < 8 := by omega
                  have KC := keptD base wr b vq w' _ _ K' CJJ.out.dl u CJJ.out.cw.ap
                  have lk := CJJ.out.dl.lnk
                  simp only [Sc.ds] at lk
                  have c6 := cell_of lk 6 (.int .u64 u) rfl
                  clear lk
                  cases hf : fK K' u with
                  | none =>
                    have HF := Lib.hid hf
                    clear hf
                    go_wp2_with fail
                    refine KC.mono ?_
                    rintro e w2 hr
                    unfold KeptR at hr
                    obtain ⟨he, w3', D2, k2, _⟩ := hr
                    rw [HF.out] at he
                    have hkv : kv K' u = .slice none 0 0 := by unfold kv; rw [HF.out]
                    rw [hkv] at he
                    subst he
                    have D2' := Lib.hid D2
                    have K2 := Lib.hid k2
                    clear D2 k2 KC c6 hkv
                    simp only [Option.isSome]
                    go_wp2
                    go_ret
                    exact CJJ.out.fin HM.out HKW.out (x0 := ⟨sq, bd⟩) (by unfold Kr.p; rw [HBB.out]) HF.out D2'.out K2.out
                  | some x =>
                    have HF := Lib.hid hf
                    clear hf
                    go_wp2_with fail
                    refine KC.mono ?_
                    rintro e w2 hr
                    unfold KeptR at hr
                    obtain ⟨he, w3', D2, k2, _⟩ := hr
                    rw [HF.out] at he
                    have hkv : kv K' u = x.b.v := by unfold kv; rw [HF.out]
                    rw [hkv] at he
                    obtain ⟨xa, hxa⟩ : ∃ z, x.b.A = z := ⟨_, rfl⟩
                    obtain ⟨xbl, hxbl⟩ : ∃ z, x.b.B.length = z := ⟨_, rfl⟩
                    obtain ⟨xcc, hxcc⟩ : ∃ z, x.b.c = z := ⟨_, rfl⟩
                    have hxv : x.b.v = .slice xa xbl xcc := by unfold Bd.v; rw [hxa, hxbl, hxcc]
                    rw [hxv] at he
                    subst he
                    have l2 := D2.lnk
                    simp only [Sc.ds] at l2
                    obtain ⟨w4, hw4⟩ : ∃ Y, w2.alloc (.cells #[.slice xa xbl xcc] 35) = Y := ⟨_, rfl⟩
                    have b4 : Below w2.heap.size w2 w4 := by rw [← hw4]; exact (Below.refl _ _).alloc (Nat.le_refl _) _
                    have r4 : w4.heap[w2.heap.size]? = some (.cells #[.slice xa xbl xcc] 35 (0, 0)) := by rw [← hw4]; exact heap_alloc_new _ _
                    have l4 := (b4.block b (blt l2)).trans l2
                    have row4 : w4.ownsRow W.heap.size 35 1 u6 (D.length + 1) (bvs (⟨sq, bd⟩ :: D)) := by
                      refine owns_keepB CJJ.out.row fun g hg => ?_
                      obtain ⟨cu, hcu⟩ := row_block CJJ.out.row hg
                      have q1 := (k2.block g (blt hcu) (apart_of hcu CJJ.out.dl.lnk (by decide))).trans hcu
                      exact ((b4.block g (blt q1)).trans q1).trans hcu.symm
                    have D2' := Lib.hid D2
                    have K2 := Lib.hid k2
                    have B4 := Lib.hid b4
                    have R4 := Lib.hid r4
                    have ROW4 := Lib.hid row4
                    have HW4 := Lib.hid hw4
                    have HXV := Lib.hid hxv
                    have L4 := Lib.hid l4
                    have hsz4 : Hid (W.heap.size ≤ w4.heap.size) := Lib.hid (Nat.le_trans CJJ.out.kp.size (Nat.le_trans k2.size b4.size))
                    have hdl : Hid (D.length + 1 ≤ 100000) := Lib.hid (by have := CJJ.out.le; have := HKF.out; omega)
                    have hwi := inc_wrap u
                    simp only [Option.isSome]
                    clear D2 k2 KC c6 hkv hxa hxbl hxcc hxv l2 hw4 b4 r4 l4 row4
                    go_wp2_with (first
                      | (rw [HW4.out])
                      | (refine wpList_appBd rfl 157 rfl (.tmp 154) (.tmp 156) rfl W.heap.size u6 (D.length + 1) _ rfl ROW4.out w2.heap.size #[.slice xa xbl xcc] 1 rfl (by simp [Value.oneCell']) rfl R4.out hdl.out hsz4.out ?_
                         intro v' w9 O9 g9
                         have k9 : KP (fun k => u6.ownBlock = some k) w4 w9 := KP.grown g9 fun k hk => hk
                         have h9 := (k9.block b (blt L4.out) (fun e => by
                           obtain ⟨cu, hcu⟩ := row_block ROW4.out e
                           exact apart_of L4.out hcu (by decide) rfl)).trans L4.out
                         have c6 := cell_of h9 6 (.int .u64 u) rfl
                         have z6 := frz_row 6 h9
                         have O9' := Lib.hid O9
                         have K9 := Lib.hid k9
                         clear O9 g9 k9 h9))
                    go_roundw
                    case rel =>
                      have st := CJJ.out.step HF.out D2'.out K2.out B4.out (dv' := v') (by rw [HXV.out]; exact O9'.out) K9.out _ rfl
                      exact ⟨i + 1, inc u, outN K' u, D ++ [x], w3', by have := st.2; omega, by go_num, Lib.hid st.1⟩
                    case measure => simp [intOf]; omega
              · have h3i : ¬ (sq : Int) = (wt : Int) := by omega
                have h3b : ((sq : Int) == (wt : Int)) = false := by simp; omega
                have HLO : Hid (wt < sq) := Lib.hid (by omega)
                refine wp_region_quiet_below (by kernel_rfl) (by kernel_rfl) ?_
                repeat (go_big_quiet_step (fail))
                refine wpQuiet_nil ?_
                rintro w7 ⟨pz, rfl⟩
                have bz := below_regrown w6 pz.d pz.os
                generalize grow (redrawn w6 pz.d) pz.os = w7 at bz ⊢
                have J7 := Lib.hid (J6.out.below bz J6.out.base)
                clear bz y4 t6
                go_wp2
                clear h3 h3i h3b h1 h1i
                obtain ⟨kA, kc, hkv0, hk1, hk2, hkA⟩ := J7.out.dl.krow.slice
                obtain ⟨kn, hkn⟩ : ∃ kn, K.length = kn := ⟨_, rfl⟩
                have hkv : w = .slice kA kn kc := by rw [hkv0, hkn]
                have HKA := Lib.hid hkA
                have HK1 := Lib.hid hk1
                have hkn900 : kn < 900 := by rw [← hkn]; exact HKF.out
                have HKV := Lib.hid hkv
                have HKN := Lib.hid hkn
                have HKROW := Lib.hid J7.out.dl.krow
                clear hkv0 hk1 hk2 hkA hkv hkn
                go_loopw [5] (fun iv wq2 => ∃ k : Nat, k ≤ kn ∧ iv = .int .i64 k ∧ Hid (∀ j y, j < k → K[j]? = some y → y.seq ≠ sq) ∧ Hid (Below w7.heap.size w7 wq2)) (fun iv _ => kn - (intOf iv).toNat)
                case atStart => exact ⟨0, Nat.zero_le _, rfl, Lib.hid fun j y hj => by omega, Lib.hid (Below.refl _ _)⟩
                case round =>
                  obtain ⟨k, hk, rfl, HB2, B2⟩ := hrel
                  have J2 := Lib.hid (J7.out.below B2.out J7.out.base)
                  have lk := J2.out.dl.lnk
                  simp only [Sc.ds, HKV.out] at lk
                  have pk := J2.out.pk
                  simp only [Hp.cs, HXX.out] at pk
                  have d4 := cell_of pk 4 (.int .u64 sq) rfl
                  have c8 := cell_of lk 8 (.slice kA kn kc) rfl
                  have y4 := cell_regrown d4
                  have t8 := cell_regrown c8
                  clear lk pk d4
                  by_cases hkk : k < kn
                  · have hki : (k : Int) < (kn : Int) := by omega
                    obtain ⟨x, hxk⟩ : ∃ x, K[k]? = some x := ⟨K[k]'(by rw [HKN.out]; exact hkk), by simp [HKN.out, hkk]⟩
                    have hAs : ∃ g o, kA = some ⟨g, o, none⟩ := by
                      rcases HKA.out with ⟨_, h0⟩ | h0
                      · have := HK1.out
                        rw [HKN.out] at this
                        omega
                      · exact h0
                    obtain ⟨g, o, rfl⟩ := hAs
                    have row := J2.out.dl.krow
                    simp only [HKV.out, HKN.out] at row
                    have e0 := RowO.elem Kr.sz row hxk (j := 0) (by decide)
                    obtain ⟨xs, xb⟩ := x
                    simp only [Kr.cs, List.getElem?_toArray, List.getElem?_cons_zero, List.getElem?_cons_succ, Nat.add_zero] at e0
                    have t0 := cell_regrown e0
                    have HXK := Lib.hid hxk
                    clear row e0 hxk
                    by_cases hqe : xs = sq
                    · subst hqe
                      go_wp2
                      refine wp_region_quiet_below (by kernel_rfl) (by kernel_rfl) ?_
                      repeat (go_big_quiet_step (fail))
                      refine wpQuiet_nil ?_
                      rintro w9q ⟨pz, rfl⟩
                      have bz := below_regrown wr pz.d pz.os
                      generalize grow (redrawn wr pz.d) pz.os = w9q at bz ⊢
                      have J9 := Lib.hid (J2.out.below bz J2.out.base)
                      clear bz t0 t8 y4 c8
                      go_wp2
                      go_ret
                      unfold HearDR
                      rw [hear_same HM.out rfl HKW.out (Or.inr (Or.inr (by rw [fK_at HB2.out HXK.out rfl]; rfl)))]
                      exact ⟨.slice none 0 0, vq, w, K, [], rfl, World.ownsRow_nil _ _ _ _, fun _ hx => (by cases hx), J9.out.dl, rfl, rfl, J9.out.kp⟩
                    · have hqi : ¬ (xs : Int) = (sq : Int) := by omega
                      have hqb : ((xs : Int) == (sq : Int)) = false := by simp; omega
                      have HQE := Lib.hid hqe
                      go_wp2
                      refine wp_region_quiet_below (by kernel_rfl) (by kernel_rfl) ?_
                      repeat (go_big_quiet_step (fail))
                      refine wpQuiet_nil ?_
                      rintro w9q ⟨pz, rfl⟩
                      have bz := below_regrown wr pz.d pz.os
                      generalize grow (redrawn wr pz.d) pz.os = w9q at bz ⊢
                      have B3 := Lib.hid (B2.out.trans (bz.mono B2.out.size))
                      clear bz t0 t8 y4 c8
                      go_wp2
                      go_roundw
                      case rel =>
                        refine ⟨k + 1, by omega, by go_num, Lib.hid fun j y hj hy => ?_, B3⟩
                        by_cases hjk : j < k
                        · exact HB2.out j y hjk hy
                        · obtain rfl : j = k := by omega
                          rw [HXK.out] at hy
                          cases hy
                          exact HQE.out
                      case measure => simp [intOf]; omega
                  · obtain rfl : k = kn := by omega
                    have hki : ¬ (k : Int) < (k : Int) := by omega
                    have hkn := HKN.out
                    have hkv := HKV.out
                    subst hkn
                    obtain ⟨w8, hw8⟩ : ∃ Y, wr.drew = Y := ⟨_, rfl⟩
                    have b8 : Below wr.heap.size wr w8 := by rw [← hw8]; exact (Below.refl _ _).drew
                    have J8 := J7.out.below (B2.out.trans (b8.mono B2.out.size)) J7.out.base
                    have lk := J8.dl.lnk
                    simp only [Sc.ds, hkv] at lk
                    have pk := J8.pk
                    simp only [Hp.cs, HXX.out] at pk
                    have HS : w8.heap[b]? = some (.cells #[.int .u8 mn, .int .u16 ml, .int .u8 pn, .int .u16 pl, .int .i64 ag, .int .u64 nx, .int .u64 wt, vq, .slice kA K.length kc, .bool true] 60 (0, 0)) ∧ w8.heap[W.heap.size]? = some (.cells #[.int .u8 fn, .int .u16 fl, .int .u8 tn, .int .u16 tl, .int .u64 sq, .int .u64 ak, .bool true, .slice XA xl xc] 37 (0, 0)) := ⟨lk, pk⟩
                    have H8 := Lib.hid HS
                    have HW8 := Lib.hid hw8
                    have JJ8 := Lib.hid J8
                    clear hw8 b8 J8 lk pk HS t8 y4
                    go_wp2
                    refine region_heldT (S := fun X => X.heap[b]? = some (.cells #[.int .u8 mn, .int .u16 ml, .int .u8 pn, .int .u16 pl, .int .i64 ag, .int .u64 nx, .int .u64 wt, vq, .slice kA K.length kc, .bool true] 60 (0, 0)) ∧ X.heap[W.heap.size]? = some (.cells #[.int .u8 fn, .int .u16 fl, .int .u8 tn, .int .u16 tl, .int .u64 sq, .int .u64 ak, .bool true, .slice XA xl xc] 37 (0, 0))) 14 (by kernel_rfl) (by decide) (fun inv => ?_)
                    change FirstH _ _ _ _ _ _ _ _ _ _ wr.drew
                    rw [HW8.out]
                    have HS := H8.out
                    refine FirstH.go (i := 0) (v := .pointer (some ⟨b, 0, none⟩)) rfl rfl _ rfl _ rfl (by kernel_rfl) (fun _ _ _ h => h) inv (fun X _ => by unfold bareO; go_simp) HS (fun inv => ?_)
                    try simp only [Act.put, List.setIfInBounds_toArray, List.set_cons_zero, List.set_cons_succ]
                    refine FirstH.go (i := 1) (v := .pointer (some ⟨b, 0, none⟩)) rfl rfl _ rfl _ rfl (by kernel_rfl) (fun _ _ _ h => h) inv (fun X _ => by unfold bareO; go_simp) HS (fun inv => ?_)
                    try simp only [Act.put, List.setIfInBounds_toArray, List.set_cons_zero, List.set_cons_succ]
                    refine FirstH.go (i := 2) (v := .pointer (some ⟨b, 0, none⟩)) rfl rfl _ rfl _ rfl (by kernel_rfl) (fun _ _ _ h => h) inv (fun X _ => by unfold bareO; go_simp) HS (fun inv => ?_)
                    try simp only [Act.put, List.setIfInBounds_toArray, List.set_cons_zero, List.set_cons_succ]
                    refine FirstH.go (i := 3) (v := .pointer (some ⟨b, 8, none⟩)) rfl rfl _ rfl _ rfl (by kernel_rfl) (fun _ _ _ h => h) inv (fun X _ => by unfold bareO; go_simp) HS (fun inv => ?_)
                    try simp only [Act.put, List.setIfInBounds_toArray, List.set_cons_zero, List.set_cons_succ]
                    refine FirstH.go (i := 4) (v := .slice kA K.length kc) rfl rfl _ rfl _ rfl (by kernel_rfl) (fun _ _ _ h => h) inv (fun X hS => by have c1 := cell_of hS.1 8 (.slice kA K.length kc) rfl; unfold bareO; go_simp) HS (fun inv => ?_)
                    try simp only [Act.put, List.setIfInBounds_toArray, List.set_cons_zero, List.set_cons_succ]
                    refine FirstH.go (i := 5) (v := .pointer (some ⟨W.heap.size, 4, none⟩)) rfl rfl _ rfl _ rfl (by kernel_rfl) (fun _ _ _ h => h) inv (fun X _ => by unfold bareO; go_simp) HS (fun inv => ?_)
                    try simp only [Act.put, List.setIfInBounds_toArray, List.set_cons_zero, List.set_cons_succ]
                    refine FirstH.go (i := 6) (v := .int .u64 sq) rfl rfl _ rfl _ rfl (by kernel_rfl) (fun _ _ _ h => h) inv (fun X hS => by have c1 := cell_of hS.2 4 (.int .u64 sq) rfl; unfold bareO; go_simp) HS (fun inv => ?_)
                    try simp only [Act.put, List.setIfInBounds_toArray, List.set_cons_zero, List.set_cons_succ]
                    refine FirstH.go (i := 8) (v := .pointer (some ⟨W.heap.size, 7, none⟩)) rfl rfl _ rfl _ rfl (by kernel_rfl) (fun _ _ _ h => h) inv (fun X _ => by unfold bareO; go_simp) HS (fun inv => ?_)
                    try simp only [Act.put, List.setIfInBounds_toArray, List.set_cons_zero, List.set_cons_succ]
                    refine FirstH.go (i := 9) (v := .slice XA xl xc) rfl rfl _ rfl _ rfl (by kernel_rfl) (fun _ _ _ h => h) inv (fun X hS => by have c1 := cell_of hS.2 7 (.slice XA xl xc) rfl; unfold bareO; go_simp) HS (fun inv => ?_)
                    try simp only [Act.put, List.setIfInBounds_toArray, List.set_cons_zero, List.set_cons_succ]
                    clear HS
                    refine FirstH.only (i := 7) (by kernel_rfl) (by decide) inv (fun inv => wpOp_vl (i := 7) (v := .slice (some ⟨w8.heap.size, 0, none⟩) 0 0) (w' := w8.alloc (.cells #[] 5)) rfl rfl 118 rfl _ rfl (by unfold bareO; go_simp) ?_)
                    obtain ⟨wa, hwa⟩ : ∃ Y, w8.alloc (.cells #[] 5) = Y := ⟨_, rfl⟩
                    have ba : Below w8.heap.size w8 wa := by rw [← hwa]; exact (Below.refl _ _).alloc (Nat.le_refl _) _
                    have Oa : Hid (wa.ownsRow w8.heap.size 5 1 (.slice (some ⟨w8.heap.size, 0, none⟩) 0 0) 0 []) := Lib.hid (by rw [← hwa]; exact ⟨rfl, .inr ⟨w8.heap.size, 0, #[], rfl, Nat.le_refl _, heap_alloc_new _ _, Nat.le_refl _, by unfold maxLen; omega, rfl, rfl⟩⟩)
                    have BA := Lib.hid ba
                    have XA8 := Lib.hid (JJ8.out.x.below ba JJ8.out.base (Nat.le_refl _))
                    have Sa := Lib.hid (⟨(ba.block _ (blt H8.out.1)).trans H8.out.1, (ba.block _ (blt H8.out.2)).trans H8.out.2⟩ : wa.heap[b]? = some (.cells #[.int .u8 mn, .int .u16 ml, .int .u8 pn, .int .u16 pl, .int .i64 ag, .int .u64 nx, .int .u64 wt, vq, .slice kA K.length kc, .bool true] 60 (0, 0)) ∧ wa.heap[W.heap.size]? = some (.cells #[.int .u8 fn, .int .u16 fl, .int .u8 tn, .int .u16 tl, .int .u64 sq, .int .u64 ak, .bool true, .slice XA xl xc] 37 (0, 0)))
                    rw [hwa]
                    refine ⟨Sa.out, ?_⟩
                    clear hwa ba
                    try simp only [Act.put, List.setIfInBounds_toArray, List.set_cons_zero, List.set_cons_succ]
                    refine FirstH.only (i := 10) (by kernel_rfl) (by decide) inv (fun inv => wpOp_appB (i := 10) rfl rfl 121 rfl (.tmp 118) (.tmp 120) rfl w8.heap.size _ 0 [] rfl Oa.out XA xB xl xc base rfl HXX.out.symm (fun e => by have := HA0.out e; simp only [HXX.out] at this; exact this) XA8.out (by have hxl3 : xB.length ≤ 1000000 := HXL.out; omega) BA.out.size ?_)
                    intro bv wb bo gb
                    have bb : Below w8.heap.size w8 wb := BA.out.grown gb BA.out.size fun k hk => (Oa.out.lt k hk).1
                    rw [Nat.zero_add, List.nil_append] at bo
                    obtain ⟨bd, rfl, hbB, bok⟩ := Bd.of_own bo HXL.out
                    have Sb := Lib.hid (⟨(bb.block _ (blt H8.out.1)).trans H8.out.1, (bb.block _ (blt H8.out.2)).trans H8.out.2⟩ : wb.heap[b]? = some (.cells #[.int .u8 mn, .int .u16 ml, .int .u8 pn, .int .u16 pl, .int .i64 ag, .int .u64 nx, .int .u64 wt, vq, .slice kA K.length kc, .bool true] 60 (0, 0)) ∧ wb.heap[W.heap.size]? = some (.cells #[.int .u8 fn, .int .u16 fl, .int .u8 tn, .int .u16 tl, .int .u64 sq, .int .u64 ak, .bool true, .slice XA xl xc] 37 (0, 0)))
                    refine ⟨Sb.out, ?_⟩
                    have OKB := Lib.hid bok
                    have HBB := Lib.hid hbB
                    have BB := Lib.hid bb
                    have hxl2 : bd.B.length = xl := by rw [hbB]; exact HXX.out
                    have HXX2 := Lib.hid hxl2
                    unfold Bd.v
                    rw [hxl2]
                    clear bo gb bb bok hbB hxl2 Oa XA8 BA Sa
                    try simp only [Act.put, List.setIfInBounds_toArray, List.set_cons_zero, List.set_cons_succ]
                    refine FirstH.only (i := 11) (by kernel_rfl) (by decide) inv (fun inv => wpOp_vl (i := 11) (v := .agg #[.int .u64 sq, .slice bd.A xl bd.c]) (w' := wb) rfl rfl 122 rfl _ rfl (by unfold bareO; go_simp) ?_)
                    refine ⟨Sb.out, ?_⟩
                    try simp only [Act.put, List.setIfInBounds_toArray, List.set_cons_zero, List.set_cons_succ]
                    refine FirstH.only (i := 12) (by kernel_rfl) (by decide) inv (fun inv => wpOp_vl (i := 12) (v := .slice (some ⟨wb.heap.size, 0, none⟩) 1 1) (w' := wb.alloc (.cells #[.int .u64 sq, .slice bd.A xl bd.c] 98)) rfl rfl 123 rfl _ rfl (by unfold bareO; go_simp) ?_)
                    obtain ⟨wc, hwc⟩ : ∃ Y, wb.alloc (.cells #[.int .u64 sq, .slice bd.A xl bd.c] 98) = Y := ⟨_, rfl⟩
                    have rc : wc.heap[wb.heap.size]? = some (.cells #[.int .u64 sq, .slice bd.A xl bd.c] 98 (0, 0)) := by rw [← hwc]; exact heap_alloc_new _ _
                    have bc : Below w8.heap.size w8 wc := by rw [← hwc]; exact BB.out.alloc BB.out.size _
                    have bc2 : Below wb.heap.size wb wc := by rw [← hwc]; exact (Below.refl _ _).alloc (Nat.le_refl _) _
                    have OKC := Lib.hid (OKB.out.below bc2)
                    have Jc := Lib.hid (JJ8.out.below bc JJ8.out.base)
                    have RC := Lib.hid rc
                    have Sc' := Lib.hid (⟨(bc.block _ (blt H8.out.1)).trans H8.out.1, (bc.block _ (blt H8.out.2)).trans H8.out.2⟩ : wc.heap[b]? = some (.cells #[.int .u8 mn, .int .u16 ml, .int .u8 pn, .int .u16 pl, .int .i64 ag, .int .u64 nx, .int .u64 wt, vq, .slice kA K.length kc, .bool true] 60 (0, 0)) ∧ wc.heap[W.heap.size]? = some (.cells #[.int .u8 fn, .int .u16 fl, .int .u8 tn, .int .u16 tl, .int .u64 sq, .int .u64 ak, .bool true, .slice XA xl xc] 37 (0, 0)))
                    rw [hwc]
                    refine ⟨Sc'.out, ?_⟩
                    clear hwc rc bc bc2 Sb
                    try simp only [Act.put, List.setIfInBounds_toArray, List.set_cons_zero, List.set_cons_succ]
                    obtain ⟨i0, hi0, hz0, hz1, hz2⟩ := info_parts rkI
                    have krow := Jc.out.dl.krow
                    simp only [hkv] at krow
                    have KROW := Lib.hid krow
                    clear krow
                    refine FirstH.only (i := 13) (by kernel_rfl) (by decide) inv (fun inv => wpOp_any rfl rfl (wp_appO 124 rfl (.tmp 115) (.tmp 123) 58 98 rfl i0 _ 2 32 Try.underlying58 hi0 hz0 hz1 hz2 rfl (by decide) (.slice kA K.length kc) K.length _ rfl KROW.out ⟨wb.heap.size, 0, none⟩ 1 1 [.int .u64 sq, .slice bd.A xl bd.c] rfl rfl (fun j u hu => by rw [addr_add, Nat.zero_add, cell_of_row _ _ j _ _ _ RC.out]; simpa using hu) (by simp [Value.oneCell']) (by decide) (by have := HKF.out; omega) (by decide) ?_))
                    intro v9 w9 O9 g9 f9
                    have k9 : KP (fun k => (Value.slice kA K.length kc).ownBlock = some k) wc w9 := KP.grown g9 fun k hk => hk
                    have hn9 : ∀ (k : Nat) (cu : Array Value) (t : TypeId), wc.heap[k]? = some (.cells cu t (0, 0)) → t ≠ 98 → ¬ ((Value.slice kA K.length kc).ownBlock = some k) := fun k cu t hk ht e => by
                      obtain ⟨c2, h2⟩ := KROW.out.block _ e
                      exact apart_of hk h2 ht rfl
                    refine ⟨⟨(k9.block _ (blt Sc'.out.1) (hn9 _ _ _ Sc'.out.1 (by decide))).trans Sc'.out.1, (k9.block _ (blt Sc'.out.2) (hn9 _ _ _ Sc'.out.2 (by decide))).trans Sc'.out.2⟩, ?_⟩
                    have l9 : w9.heap[b]? = some (.cells #[.int .u8 mn, .int .u16 ml, .int .u8 pn, .int .u16 pl, .int .i64 ag, .int .u64 nx, .int .u64 wt, vq, .slice kA K.length kc, .bool true] 60 (0, 0)) := (k9.block _ (blt Sc'.out.1) (hn9 _ _ _ Sc'.out.1 (by decide))).trans Sc'.out.1
                    obtain ⟨A9, c9, hv9, _, _, _⟩ := O9.slice
                    subst hv9
                    have c8' := cell_of l9 8 (.slice kA K.length kc) rfl
                    have z8' := frz_row 8 l9
                    have L9 := Lib.hid l9
                    have K9 := Lib.hid k9
                    have O9' := Lib.hid O9
                    have F9 := Lib.hid f9
                    clear O9 g9 k9 hn9 l9 f9 hi0 hz0 hz1 hz2
                    try simp only [Act.put, List.setIfInBounds_toArray, List.set_cons_zero, List.set_cons_succ]
                    refine ⟨by kernel_rfl, ?_⟩
                    simp only [List.drop_succ_cons, List.drop_zero]
                    go_wp2
                    go_ret
                    clear inv
                    have hnx : fK K sq = none := fK_out fun y hy => by
                      obtain ⟨j, hj⟩ := List.getElem?_of_mem hy
                      exact HB2.out j y (by have := (List.getElem?_eq_some_iff.1 hj).1; omega) hj
                    have hxp : Kr.p ⟨sq, bd⟩ = (sq, xB) := by unfold Kr.p; rw [HBB.out]
                    unfold HearDR
                    rw [hear_keep HM.out rfl HKW.out HLO.out HHI.out hnx ⟨sq, bd⟩ hxp]
                    have jc := Jc.out
                    have kF : KP (fun k => k = b ∨ (Value.slice kA K.length kc).ownBlock = some k) wc (w9.setCell ⟨b, 8, none⟩ (.slice A9 (K.length + 1) c9)) := (K9.out.mono fun k hk => Or.inr hk).trans (KP.set (S := fun k => k = b) w9 b 8 _ rfl) fun k _ hk => Or.inl hk
                    have hwk : w = .slice kA K.length kc := hkv
                    have uF : ∀ (g' : Nat) (cur : Array Value), wc.heap[g']? = some (.cells cur 5 (0, 0)) → ¬ (g' = b ∨ (Value.slice kA K.length kc).ownBlock = some g') := fun g' cur hg e => jc.dl.u8 g' cur hg (e.elim Or.inl fun e => Or.inr (Or.inr (by rw [hwk]; exact e)))
                    have eF : flat Kr.cs (K ++ [(⟨sq, bd⟩ : Kr)]) = flat Kr.cs K ++ [.int .u64 sq, .slice bd.A xl bd.c] := by
                      rw [flat_append]
                      simp [flat, Kr.cs, HXX2.out]
                    have lF : (K ++ [(⟨sq, bd⟩ : Kr)]).length = K.length + 1 := by simp
                    refine ⟨.slice none 0 0, vq, .slice A9 (K.length + 1) c9, K ++ [⟨sq, bd⟩], [], rfl, World.ownsRow_nil _ _ _ _, fun _ hx => (by cases hx), ⟨jc.dl.hb, jc.dl.hv, fun g' hg => ?_, (row_set L9.out _).trans rfl, jc.dl.row.keepK kF (fun g' hg e => e.elim (fun e => jc.dl.ne_bv g' hg e) fun e => jc.dl.ne_vw g' hg (by rw [hwk]; exact e)), ?_, fun y hy => (jc.dl.okL y hy).keepK kF uF, fun y hy => ?_, jc.dl.few, by rw [lF]; have := HKF.out; omega, jc.dl.nxt, jc.dl.wnt, jc.dl.agn, jc.dl.seqs, jc.dl.ats⟩, rfl, rfl, ?_⟩
                    · rcases F9.out with e | ⟨k, e, hk⟩
                      · exact jc.dl.hw g' (by rw [hwk, ← e]; exact hg)
                      · rw [hg] at e
                        cases e
                        have := jc.base
                        omega
                    · rw [lF, eF]
                      refine O9'.out.keepB fun g' hg => Below.heap_setCell _ _ _ _ ?_
                      obtain ⟨c2, h2⟩ := O9'.out.block g' hg
                      exact apart_of h2 L9.out (by decide)
                    · rcases List.mem_append.1 hy with hy | hy
                      · exact (jc.dl.okK y hy).keepK kF uF
                      · obtain rfl : y = ⟨sq, bd⟩ := by simpa using hy
                        exact OKC.out.keepK kF uF
                    · exact jc.kp.trans kF fun k _ hk => hk.elim Or.inl fun e => Or.inr (Or.inr (by rw [hwk]; exact e))
    | cons x L' =>
      obtain ⟨xq, xb, xt, xw⟩ := x
      obtain ⟨n', hn'⟩ : ∃ n', L'.length = n' := ⟨_, rfl⟩
      obtain ⟨cc, rfl⟩ : ∃ cc, c' = cc + 1 := ⟨c' - 1, by simp only [List.length_cons] at hc1; omega⟩
      have hAs : ∃ g o, A' = some ⟨g, o, none⟩ := by
        rcases hA' with ⟨_, h0⟩ | h0
        · omega
        · exact h0
      obtain ⟨g, o, rfl⟩ := hAs
      have row := J.out.dl.row
      have e0 : wr.cell? ⟨g, o, none⟩ = some (.int .u64 xq) := by
        have := RowO.elem Ls.sz row (i := 0) rfl (j := 0) (by decide)
        simpa [Ls.cs] using this
      have hsq := J.out.dl.seqs 0 _ rfl
      simp only [List.length_cons, hn'] at c7 hsq
      have hsq' : xq + (n' + 1) = nx := hsq
      have HSQ := Lib.hid hsq'
      have HN' := Lib.hid hn'
      have hdn : Hid (d + (n' + 1) = n) := Lib.hid (by have h1 := HLN.out; have h2 := HDG.out; simp only [List.length_cons, hn'] at h1; omega)
      have HCC := Lib.hid hc1
      have t7 := cell_regrown c7
      have t8 := cell_regrown e0
      have hlc : (0 : Int) < ((n' + 1 : Nat) : Int) := by omega
      have E0 := Lib.hid e0
      clear lnk pk c7 hc1 hc2 hA' row e0 hsq hsq' hn'
      by_cases hbad : nx < ak
      · have hbi : ¬ (ak : Int) ≤ (nx : Int) := by omega
        have hbi2 : (nx : Int) < (ak : Int) := by omega
        have hbi3 : decide (ak ≤ nx) = false := by simp; omega
        have HL : Hid (((⟨xq, xb, xt, xw⟩ : Ls) :: L') = L.drop (ackN nx ak n)) := Lib.hid (by
          have h1 := HLX.out
          rw [← h1]
          congr 1
          have h2 := HDA.out
          unfold ackN at h2 ⊢
          rw [if_pos hbad] at h2 ⊢
          omega)
        clear hbad
        go_wp2
        refine wp_region_quiet_below (by kernel_rfl) (by kernel_rfl) ?_
        repeat (go_big_quiet_step (fail))
        refine wpQuiet_nil ?_
        rintro Wq ⟨pz, rfl⟩
        have bz := below_regrown wr pz.d pz.os
        generalize grow (redrawn wr pz.d) pz.os = Wq at bz ⊢
        clear t5 t7 t8 y5
        as_aux_lemma =>
          have jq : ∃ vq, HJ base W b v w ⟨mn, ml, pn, pl, ag, nx, wt, ow⟩ K ⟨fn, fl, tn, tl, sq, ak, hs, xB⟩ XA xc vq (L.drop (ackN nx ak L.length)) Wq := ⟨_, by rw [HN.out, ← HL.out]; exact J.out.below bz J.out.base⟩
          obtain ⟨vq, jq⟩ := jq
          have JQ := Lib.hid jq
          have pq := jq.pk
          simp only [Hp.cs, HXX.out] at pq
          have d6 := cell_of pq 6 (.bool hs) rfl
          clear bz jq pq J HLX
          cases hs with
          | false =>
            go_wp2
            go_ret
            unfold HearDR
            rw [hear_bare HM.out rfl]
            exact ⟨.slice none 0 0, vq, w, K, [], rfl, World.ownsRow_nil _ _ _ _, fun _ hx => (by cases hx), JQ.out.dl, rfl, rfl, JQ.out.kp⟩
          | true =>
            have lq := JQ.out.dl.lnk
            have c9 := cell_of lq 9 (.bool ow) rfl
            have z9 := frz_row 9 lq
            obtain ⟨w5, hw5⟩ : ∃ Y, Wq.setCell ⟨b, 9, none⟩ (.bool true) = Y := ⟨_, rfl⟩
            have j5 := JQ.out.owe true
            rw [hw5] at j5
            have J5 := Lib.hid j5
            have HW5 := Lib.hid hw5
            clear lq hw5 j5
            go_wp2_with (rw [HW5.out])
            clear c9 z9 d6
            have lk := J5.out.dl.lnk
            simp only [Sc.ds] at lk
            have pk := J5.out.pk
            simp only [Hp.cs, HXX.out] at pk
            have d4 := cell_of pk 4 (.int .u64 sq) rfl
            have c6 := cell_of lk 6 (.int .u64 wt) rfl
            have y4 := cell_regrown d4
            have t6 := cell_regrown c6
            clear lk pk d4 c6
            by_cases h1 : sq < wt
            · have h1i : (sq : Int) < (wt : Int) := by omega
              have HLO := Lib.hid h1
              refine wp_region_quiet_below (by kernel_rfl) (by kernel_rfl) ?_
              repeat (go_big_quiet_step (fail))
              refine wpQuiet_nil ?_
              rintro w6 ⟨pz, rfl⟩
              have bz := below_regrown w5 pz.d pz.os
              generalize grow (redrawn w5 pz.d) pz.os = w6 at bz ⊢
              clear y4 t6
              have J6 := Lib.hid (J5.out.below bz J5.out.base)
              clear bz
              go_wp2
              go_ret
              unfold HearDR
              rw [hear_same HM.out rfl HKW.out (Or.inl HLO.out)]
              exact ⟨.slice none 0 0, vq, w, K, [], rfl, World.ownsRow_nil _ _ _ _, fun _ hx => (by cases hx), J6.out.dl, rfl, rfl, J6.out.kp⟩
            · have h1i : ¬ (sq : Int) < (wt : Int) := by omega
              have hwr : IntKind.u64.wrap ((sq : Int) - (wt : Int)) = (sq : Int) - (wt : Int) := IntWalk.u64_in _ (by have hq2 : sq ≤ 18446744073709551615 := HQ.out; have hw2 := J5.out.dl.wnt; have hw3 : wt ≤ 18446744073709551615 := hw2; omega)
              by_cases h2 : 8 ≤ sq - wt
              · have h2i : (8 : Int) ≤ (sq : Int) - (wt : Int) := by omega
                have HHI := Lib.hid h2
                refine wp_region_quiet_below (by kernel_rfl) (by kernel_rfl) ?_
                repeat (go_big_quiet_step (fail))
                refine wpQuiet_nil ?_
                rintro w6 ⟨pz, rfl⟩
                have bz := below_regrown w5 pz.d pz.os
                generalize grow (redrawn w5 pz.d) pz.os = w6 at bz ⊢
                clear y4 t6
                have J6 := Lib.hid (J5.out.below bz J5.out.base)
                clear bz
                go_wp2
                go_ret
                unfold HearDR
                rw [hear_same HM.out rfl HKW.out (Or.inr (Or.inl HHI.out))]
                exact ⟨.slice none 0 0, vq, w, K, [], rfl, World.ownsRow_nil _ _ _ _, fun _ hx => (by cases hx), J6.out.dl, rfl, rfl, J6.out.kp⟩
              · have h2i : ¬ (8 : Int) ≤ (sq : Int) - (wt : Int) := by omega
                have HHI : Hid (sq - wt < 8) := Lib.hid (by omega)
                refine wp_region_quiet_below (by kernel_rfl) (by kernel_rfl) ?_
                repeat (go_big_quiet_step (fail))
                refine wpQuiet_nil ?_
                rintro w6 ⟨pz, rfl⟩
                have bz := below_regrown w5 pz.d pz.os
                generalize grow (redrawn w5 pz.d) pz.os = w6 at bz ⊢
                have J6 := Lib.hid (J5.out.below bz J5.out.base)
                clear bz y4 t6 hwr h2i h2
                go_wp2
                have lk := J6.out.dl.lnk
                simp only [Sc.ds] at lk
                have pk := J6.out.pk
                simp only [Hp.cs, HXX.out] at pk
                have d4 := cell_of pk 4 (.int .u64 sq) rfl
                have c6 := cell_of lk 6 (.int .u64 wt) rfl
                have y4 := cell_regrown d4
                have t6 := cell_regrown c6
                clear lk pk d4 c6
                by_cases h3 : sq = wt
                · subst h3
                  refine wp_region_quiet_below (by kernel_rfl) (by kernel_rfl) ?_
                  repeat (go_big_quiet_step (fail))
                  refine wpQuiet_nil ?_
                  rintro w7 ⟨pz, rfl⟩
                  have bz := below_regrown w6 pz.d pz.os
                  generalize grow (redrawn w6 pz.d) pz.os = w7 at bz ⊢
                  have J7 := Lib.hid (J6.out.below bz J6.out.base)
                  have hwt := J7.out.dl.wnt
                  clear bz y4 t6 h1 h1i
                  obtain ⟨wa, hwa⟩ : ∃ Y, w7.alloc (.cells #[] 5) = Y := ⟨_, rfl⟩
                  have ba : Below w7.heap.size w7 wa := by rw [← hwa]; exact (Below.refl _ _).alloc (Nat.le_refl _) _
                  have Oa : Hid (wa.ownsRow w7.heap.size 5 1 (.slice (some ⟨w7.heap.size, 0, none⟩) 0 0) 0 []) := Lib.hid (by rw [← hwa]; exact ⟨rfl, .inr ⟨w7.heap.size, 0, #[], rfl, Nat.le_refl _, heap_alloc_new _ _, Nat.le_refl _, by unfold maxLen; omega, rfl, rfl⟩⟩)
                  have Ja := J7.out.below ba J7.out.base
                  have pk := Ja.pk
                  simp only [Hp.cs, HXX.out] at pk
                  have d7 := cell_of pk 7 (.slice XA xl xc) rfl
                  have XAa := Lib.hid Ja.x
                  have BA := Lib.hid ba
                  have HWA := Lib.hid hwa
                  have HWT := Lib.hid hwt
                  have hwi := inc_wrap sq
                  clear hwa ba Ja pk hwt
                  go_wp2_with (first
                    | (rw [HWA.out])
                    | (refine wpList_appB rfl 130 rfl (.tmp 127) (.tmp 129) rfl w7.heap.size _ 0 [] rfl Oa.out XA xB xl xc base rfl HXX.out.symm (fun e => by have := HA0.out e; simp only [HXX.out] at this; exact this) XAa.out (by have hxl3 : xB.length ≤ 1000000 := HXL.out; omega) BA.out.size ?_
                       intro bv wb bo gb
                       have bb : Below w7.heap.size w7 wb := BA.out.grown gb BA.out.size fun k hk => (Oa.out.lt k hk).1
                       rw [Nat.zero_add, List.nil_append] at bo
                       obtain ⟨bd, rfl, hbB, bok⟩ := Bd.of_own bo HXL.out
                       obtain ⟨bl, hbl⟩ : ∃ bl, bd.B.length = bl := ⟨_, rfl⟩
                       obtain ⟨wc, hwc⟩ : ∃ Y, wb.alloc (.cells #[.slice bd.A bl bd.c] 35) = Y := ⟨_, rfl⟩
                       have bc : Below w7.heap.size w7 wc := by rw [← hwc]; exact bb.alloc bb.size _
                       have bc2 : Below wb.heap.size wb wc := by rw [← hwc]; exact (Below.refl _ _).alloc (Nat.le_refl _) _
                       have rowc : wc.ownsRow W.heap.size 35 1 (.slice (some ⟨wb.heap.size, 0, none⟩) 1 1) 1 [.slice bd.A bl bd.c] := by
                         rw [← hwc]
                         exact ⟨rfl, .inr ⟨wb.heap.size, 1, #[.slice bd.A bl bd.c], rfl, by have := J7.out.kp.size; have := bb.size; omega, heap_alloc_new _ _, Nat.le_refl _, by unfold maxLen; omega, rfl, rfl⟩⟩
                       have jc := J7.out.below bc J7.out.base
                       have lc := jc.dl.lnk
                       simp only [Sc.ds] at lc
                       have c6 := cell_of lc 6 (.int .u64 sq) rfl
                       have z6 := frz_row 6 lc
                       have JC := Lib.hid jc
                       have OKC := Lib.hid (bok.below bc2)
                       have ROWC := Lib.hid rowc
                       have HWC := Lib.hid hwc
                       have HBB := Lib.hid hbB
                       have HBL := Lib.hid hbl
                       unfold Bd.v
                       rw [hbl]
                       clear bo gb bb bc bc2 rowc jc lc hwc hbB hbl bok d7)
                    | (rw [HWC.out]))
                  obtain ⟨wd, hwd⟩ : ∃ Y, wc.setCell ⟨b, 6, none⟩ (.int .u64 ((inc sq : Nat) : Int)) = Y := ⟨_, rfl⟩
                  rw [hwd]
                  have C0 : Hid (CJ base W b v w ⟨mn, ml, pn, pl, ag, nx, sq, true⟩ (L.drop (ackN nx ak L.length)) K vq ⟨sq, bd⟩ 0 (inc sq) K [] w (.slice (some ⟨wb.heap.size, 0, none⟩) 1 1) wd) := Lib.hid (CJ.start JC.out HKW.out OKC.out (by have := ROWC.out; unfold bvs Bd.v; simp only [List.map_cons, List.map_nil, HBL.out]; exact this) hwd)
                  clear hwd c6 z6 hwi
                  go_loopw [6, 7] (fun ov iv wz => ∃ (i u : Nat) (K' D : List Kr) (w' : Value), i ≤ 7 ∧ iv = .int .i64 i ∧ Hid (CJ base W b v w ⟨mn, ml, pn, pl, ag, nx, sq, true⟩ (L.drop (ackN nx ak L.length)) K vq ⟨sq, bd⟩ i u K' D w' ov wz)) (fun _ iv _ => 8 - (intOf iv).toNat)
                  case atStart => exact ⟨0, _, _, _, _, by omega, rfl, C0⟩
                  case round =>
                    obtain ⟨i, u, K', D, w', hi, rfl, CJJ⟩ := hrel
                    clear C0
                    have hi8 : (i : Int) < 8 := by omega
                    have KC := keptD base wr b vq w' _ _ K' CJJ.out.dl u CJJ.out.cw.ap
                    have lk := CJJ.out.dl.lnk
                    simp only [Sc.ds] at lk
                    have c6 := cell_of lk 6 (.int .u64 u) rfl
                    clear lk
                    cases hf : fK K' u with
                    | none =>
                      have HF := Lib.hid hf
                      clear hf
                      go_wp2_with fail
                      refine KC.mono ?_
                      rintro e w2 hr
                      unfold KeptR at hr
                      obtain ⟨he, w3', D2, k2, _⟩ := hr
                      rw [HF.out] at he
                      have hkv : kv K' u = .slice none 0 0 := by unfold kv; rw [HF.out]
                      rw [hkv] at he
                      subst he
                      have D2' := Lib.hid D2
                      have K2 := Lib.hid k2
                      clear D2 k2 KC c6 hkv
                      simp only [Option.isSome]
                      go_wp2
                      go_ret
                      exact CJJ.out.fin HM.out HKW.out (x0 := ⟨sq, bd⟩) (by unfold Kr.p; rw [HBB.out]) HF.out D2'.out K2.out
                    | some x =>
                      have HF := Lib.hid hf
                      clear hf
                      go_wp2_with fail
                      refine KC.mono ?_
                      rintro e w2 hr
                      unfold KeptR at hr
                      obtain ⟨he, w3', D2, k2, _⟩ := hr
                      rw [HF.out] at he
                      have hkv : kv K' u = x.b.v := by unfold kv; rw [HF.out]
                      rw [hkv] at he
                      obtain ⟨xa, hxa⟩ : ∃ z, x.b.A = z := ⟨_, rfl⟩
                      obtain ⟨xbl, hxbl⟩ : ∃ z, x.b.B.length = z := ⟨_, rfl⟩
                      obtain ⟨xcc, hxcc⟩ : ∃ z, x.b.c = z := ⟨_, rfl⟩
                      have hxv : x.b.v = .slice xa xbl xcc := by unfold Bd.v; rw [hxa, hxbl, hxcc]
                      rw [hxv] at he
                      subst he
                      have l2 := D2.lnk
                      simp only [Sc.ds] at l2
                      obtain ⟨w4, hw4⟩ : ∃ Y, w2.alloc (.cells #[.slice xa xbl xcc] 35) = Y := ⟨_, rfl⟩
                      have b4 : Below w2.heap.size w2 w4 := by rw [← hw4]; exact (Below.refl _ _).alloc (Nat.le_refl _) _
                      have r4 : w4.heap[w2.heap.size]? = some (.cells #[.slice xa xbl xcc] 35 (0, 0)) := by rw [← hw4]; exact heap_alloc_new _ _
                      have l4 := (b4.block b (blt l2)).trans l2
                      have row4 : w4.ownsRow W.heap.size 35 1 u6 (D.length + 1) (bvs (⟨sq, bd⟩ :: D)) := by
                        refine owns_keepB CJJ.out.row fun g hg => ?_
                        obtain ⟨cu, hcu⟩ := row_block CJJ.out.row hg
                        have q1 := (k2.block g (blt hcu) (apart_of hcu CJJ.out.dl.lnk (by decide))).trans hcu
                        exact ((b4.block g (blt q1)).trans q1).trans hcu.symm
                      have D2' := Lib.hid D2
                      have K2 := Lib.hid k2
                      have B4 := Lib.hid b4
                      have R4 := Lib.hid r4
                      have ROW4 := Lib.hid row4
                      have HW4 := Lib.hid hw4
                      have HXV := Lib.hid hxv
                      have L4 := Lib.hid l4
                      have hsz4 : Hid (W.heap.size ≤ w4.heap.size) := Lib.hid (Nat.le_trans CJJ.out.kp.size (Nat.le_trans k2.size b4.size))
                      have hdl : Hid (D.length + 1 ≤ 100000) := Lib.hid (by have := CJJ.out.le; have := HKF.out; omega)
                      have hwi := inc_wrap u
                      simp only [Option.isSome]
                      clear D2 k2 KC c6 hkv hxa hxbl hxcc hxv l2 hw4 b4 r4 l4 row4
                      go_wp2_with (first
                        | (rw [HW4.out])
                        | (refine wpList_appBd rfl 157 rfl (.tmp 154) (.tmp 156) rfl W.heap.size u6 (D.length + 1) _ rfl ROW4.out w2.heap.size #[.slice xa xbl xcc] 1 rfl (by simp [Value.oneCell']) rfl R4.out hdl.out hsz4.out ?_
                           intro v' w9 O9 g9
                           have k9 : KP (fun k => u6.ownBlock = some k) w4 w9 := KP.grown g9 fun k hk => hk
                           have h9 := (k9.block b (blt L4.out) (fun e => by
                             obtain ⟨cu, hcu⟩ := row_block ROW4.out e
                             exact apart_of L4.out hcu (by decide) rfl)).trans L4.out
                           have c6 := cell_of h9 6 (.int .u64 u) rfl
                           have z6 := frz_row 6 h9
                           have O9' := Lib.hid O9
                           have K9 := Lib.hid k9
                           clear O9 g9 k9 h9))
                      go_roundw
                      case rel =>
                        have st := CJJ.out.step HF.out D2'.out K2.out B4.out (dv' := v') (by rw [HXV.out]; exact O9'.out) K9.out _ rfl
                        exact ⟨i + 1, inc u, outN K' u, D ++ [x], w3', by have := st.2; omega, by go_num, Lib.hid st.1⟩
                      case measure => simp [intOf]; omega
                · have h3i : ¬ (sq : Int) = (wt : Int) := by omega
                  have h3b : ((sq : Int) == (wt : Int)) = false := by simp; omega
                  have HLO : Hid (wt < sq) := Lib.hid (by omega)
                  refine wp_region_quiet_below (by kernel_rfl) (by kernel_rfl) ?_
                  repeat (go_big_quiet_step (fail))
                  refine wpQuiet_nil ?_
                  rintro w7 ⟨pz, rfl⟩
                  have bz := below_regrown w6 pz.d pz.os
                  generalize grow (redrawn w6 pz.d) pz.os = w7 at bz ⊢
                  have J7 := Lib.hid (J6.out.below bz J6.out.base)
                  clear bz y4 t6
                  go_wp2
                  clear h3 h3i h3b h1 h1i
                  obtain ⟨kA, kc, hkv0, hk1, hk2, hkA⟩ := J7.out.dl.krow.slice
                  obtain ⟨kn, hkn⟩ : ∃ kn, K.length = kn := ⟨_, rfl⟩
                  have hkv : w = .slice kA kn kc := by rw [hkv0, hkn]
                  have HKA := Lib.hid hkA
                  have HK1 := Lib.hid hk1
                  have hkn900 : kn < 900 := by rw [← hkn]; exact HKF.out
                  have HKV := Lib.hid hkv
                  have HKN := Lib.hid hkn
                  have HKROW := Lib.hid J7.out.dl.krow
                  clear hkv0 hk1 hk2 hkA hkv hkn
                  go_loopw [5] (fun iv wq2 => ∃ k : Nat, k ≤ kn ∧ iv = .int .i64 k ∧ Hid (∀ j y, j < k → K[j]? = some y → y.seq ≠ sq) ∧ Hid (Below w7.heap.size w7 wq2)) (fun iv _ => kn - (intOf iv).toNat)
                  case atStart => exact ⟨0, Nat.zero_le _, rfl, Lib.hid fun j y hj => by omega, Lib.hid (Below.refl _ _)⟩
                  case round =>
                    obtain ⟨k, hk, rfl, HB2, B2⟩ := hrel
                    have J2 := Lib.hid (J7.out.below B2.out J7.out.base)
                    have lk := J2.out.dl.lnk
                    simp only [Sc.ds, HKV.out] at lk
                    have pk := J2.out.pk
                    simp only [Hp.cs, HXX.out] at pk
                    have d4 := cell_of pk 4 (.int .u64 sq) rfl
                    have c8 := cell_of lk 8 (.slice kA kn kc) rfl
                    have y4 := cell_regrown d4
                    have t8 := cell_regrown c8
                    clear lk pk d4
                    by_cases hkk : k < kn
                    · have hki : (k : Int) < (kn : Int) := by omega
                      obtain ⟨x, hxk⟩ : ∃ x, K[k]? = some x := ⟨K[k]'(by rw [HKN.out]; exact hkk), by simp [HKN.out, hkk]⟩
                      have hAs : ∃ g o, kA = some ⟨g, o, none⟩ := by
                        rcases HKA.out with ⟨_, h0⟩ | h0
                        · have := HK1.out
                          rw [HKN.out] at this
                          omega
                        · exact h0
                      obtain ⟨g, o, rfl⟩ := hAs
                      have row := J2.out.dl.krow
                      simp only [HKV.out, HKN.out] at row
                      have e0 := RowO.elem Kr.sz row hxk (j := 0) (by decide)
                      obtain ⟨xs, xb⟩ := x
                      simp only [Kr.cs, List.getElem?_toArray, List.getElem?_cons_zero, List.getElem?_cons_succ, Nat.add_zero] at e0
                      have t0 := cell_regrown e0
                      have HXK := Lib.hid hxk
                      clear row e0 hxk
                      by_cases hqe : xs = sq
                      · subst hqe
                        go_wp2
                        refine wp_region_quiet_below (by kernel_rfl) (by kernel_rfl) ?_
                        repeat (go_big_quiet_step (fail))
                        refine wpQuiet_nil ?_
                        rintro w9q ⟨pz, rfl⟩
                        have bz := below_regrown wr pz.d pz.os
                        generalize grow (redrawn wr pz.d) pz.os = w9q at bz ⊢
                        have J9 := Lib.hid (J2.out.below bz J2.out.base)
                        clear bz t0 t8 y4 c8
                        go_wp2
                        go_ret
                        unfold HearDR
                        rw [hear_same HM.out rfl HKW.out (Or.inr (Or.inr (by rw [fK_at HB2.out HXK.out rfl]; rfl)))]
                        exact ⟨.slice none 0 0, vq, w, K, [], rfl, World.ownsRow_nil _ _ _ _, fun _ hx => (by cases hx), J9.out.dl, rfl, rfl, J9.out.kp⟩
                      · have hqi : ¬ (xs : Int) = (sq : Int) := by omega
                        have hqb : ((xs : Int) == (sq : Int)) = false := by simp; omega
                        have HQE := Lib.hid hqe
                        go_wp2
                        refine wp_region_quiet_below (by kernel_rfl) (by kernel_rfl) ?_
                        repeat (go_big_quiet_step (fail))
                        refine wpQuiet_nil ?_
                        rintro w9q ⟨pz, rfl⟩
                        have bz := below_regrown wr pz.d pz.os
                        generalize grow (redrawn wr pz.d) pz.os = w9q at bz ⊢
                        have B3 := Lib.hid (B2.out.trans (bz.mono B2.out.size))
                        clear bz t0 t8 y4 c8
                        go_wp2
                        go_roundw
                        case rel =>
                          refine ⟨k + 1, by omega, by go_num, Lib.hid fun j y hj hy => ?_, B3⟩
                          by_cases hjk : j < k
                          · exact HB2.out j y hjk hy
                          · obtain rfl : j = k := by omega
                            rw [HXK.out] at hy
                            cases hy
                            exact HQE.out
                        case measure => simp [intOf]; omega
                    · obtain rfl : k = kn := by omega
                      have hki : ¬ (k : Int) < (k : Int) := by omega
                      have hkn := HKN.out
                      have hkv := HKV.out
                      subst hkn
                      obtain ⟨w8, hw8⟩ : ∃ Y, wr.drew = Y := ⟨_, rfl⟩
                      have b8 : Below wr.heap.size wr w8 := by rw [← hw8]; exact (Below.refl _ _).drew
                      have J8 := J7.out.below (B2.out.trans (b8.mono B2.out.size)) J7.out.base
                      have lk := J8.dl.lnk
                      simp only [Sc.ds, hkv] at lk
                      have pk := J8.pk
                      simp only [Hp.cs, HXX.out] at pk
                      have HS : w8.heap[b]? = some (.cells #[.int .u8 mn, .int .u16 ml, .int .u8 pn, .int .u16 pl, .int .i64 ag, .int .u64 nx, .int .u64 wt, vq, .slice kA K.length kc, .bool true] 60 (0, 0)) ∧ w8.heap[W.heap.size]? = some (.cells #[.int .u8 fn, .int .u16 fl, .int .u8 tn, .int .u16 tl, .int .u64 sq, .int .u64 ak, .bool true, .slice XA xl xc] 37 (0, 0)) := ⟨lk, pk⟩
                      have H8 := Lib.hid HS
                      have HW8 := Lib.hid hw8
                      have JJ8 := Lib.hid J8
                      clear hw8 b8 J8 lk pk HS t8 y4
                      go_wp2
                      refine region_heldT (S := fun X => X.heap[b]? = some (.cells #[.int .u8 mn, .int .u16 ml, .int .u8 pn, .int .u16 pl, .int .i64 ag, .int .u64 nx, .int .u64 wt, vq, .slice kA K.length kc, .bool true] 60 (0, 0)) ∧ X.heap[W.heap.size]? = some (.cells #[.int .u8 fn, .int .u16 fl, .int .u8 tn, .int .u16 tl, .int .u64 sq, .int .u64 ak, .bool true, .slice XA xl xc] 37 (0, 0))) 14 (by kernel_rfl) (by decide) (fun inv => ?_)
                      change FirstH _ _ _ _ _ _ _ _ _ _ wr.drew
                      rw [HW8.out]
                      have HS := H8.out
                      refine FirstH.go (i := 0) (v := .pointer (some ⟨b, 0, none⟩)) rfl rfl _ rfl _ rfl (by kernel_rfl) (fun _ _ _ h => h) inv (fun X _ => by unfold bareO; go_simp) HS (fun inv => ?_)
                      try simp only [Act.put, List.setIfInBounds_toArray, List.set_cons_zero, List.set_cons_succ]
                      refine FirstH.go (i := 1) (v := .pointer (some ⟨b, 0, none⟩)) rfl rfl _ rfl _ rfl (by kernel_rfl) (fun _ _ _ h => h) inv (fun X _ => by unfold bareO; go_simp) HS (fun inv => ?_)
                      try simp only [Act.put, List.setIfInBounds_toArray, List.set_cons_zero, List.set_cons_succ]
                      refine FirstH.go (i := 2) (v := .pointer (some ⟨b, 0, none⟩)) rfl rfl _ rfl _ rfl (by kernel_rfl) (fun _ _ _ h => h) inv (fun X _ => by unfold bareO; go_simp) HS (fun inv => ?_)
                      try simp only [Act.put, List.setIfInBounds_toArray, List.set_cons_zero, List.set_cons_succ]
                      refine FirstH.go (i := 3) (v := .pointer (some ⟨b, 8, none⟩)) rfl rfl _ rfl _ rfl (by kernel_rfl) (fun _ _ _ h => h) inv (fun X _ => by unfold bareO; go_simp) HS (fun inv => ?_)
                      try simp only [Act.put, List.setIfInBounds_toArray, List.set_cons_zero, List.set_cons_succ]
                      refine FirstH.go (i := 4) (v := .slice kA K.length kc) rfl rfl _ rfl _ rfl (by kernel_rfl) (fun _ _ _ h => h) inv (fun X hS => by have c1 := cell_of hS.1 8 (.slice kA K.length kc) rfl; unfold bareO; go_simp) HS (fun inv => ?_)
                      try simp only [Act.put, List.setIfInBounds_toArray, List.set_cons_zero, List.set_cons_succ]
                      refine FirstH.go (i := 5) (v := .pointer (some ⟨W.heap.size, 4, none⟩)) rfl rfl _ rfl _ rfl (by kernel_rfl) (fun _ _ _ h => h) inv (fun X _ => by unfold bareO; go_simp) HS (fun inv => ?_)
                      try simp only [Act.put, List.setIfInBounds_toArray, List.set_cons_zero, List.set_cons_succ]
                      refine FirstH.go (i := 6) (v := .int .u64 sq) rfl rfl _ rfl _ rfl (by kernel_rfl) (fun _ _ _ h => h) inv (fun X hS => by have c1 := cell_of hS.2 4 (.int .u64 sq) rfl; unfold bareO; go_simp) HS (fun inv => ?_)
                      try simp only [Act.put, List.setIfInBounds_toArray, List.set_cons_zero, List.set_cons_succ]
                      refine FirstH.go (i := 8) (v := .pointer (some ⟨W.heap.size, 7, none⟩)) rfl rfl _ rfl _ rfl (by kernel_rfl) (fun _ _ _ h => h) inv (fun X _ => by unfold bareO; go_simp) HS (fun inv => ?_)
                      try simp only [Act.put, List.setIfInBounds_toArray, List.set_cons_zero, List.set_cons_succ]
                      refine FirstH.go (i := 9) (v := .slice XA xl xc) rfl rfl _ rfl _ rfl (by kernel_rfl) (fun _ _ _ h => h) inv (fun X hS => by have c1 := cell_of hS.2 7 (.slice XA xl xc) rfl; unfold bareO; go_simp) HS (fun inv => ?_)
                      try simp only [Act.put, List.setIfInBounds_toArray, List.set_cons_zero, List.set_cons_succ]
                      clear HS
                      refine FirstH.only (i := 7) (by kernel_rfl) (by decide) inv (fun inv => wpOp_vl (i := 7) (v := .slice (some ⟨w8.heap.size, 0, none⟩) 0 0) (w' := w8.alloc (.cells #[] 5)) rfl rfl 118 rfl _ rfl (by unfold bareO; go_simp) ?_)
                      obtain ⟨wa, hwa⟩ : ∃ Y, w8.alloc (.cells #[] 5) = Y := ⟨_, rfl⟩
                      have ba : Below w8.heap.size w8 wa := by rw [← hwa]; exact (Below.refl _ _).alloc (Nat.le_refl _) _
                      have Oa : Hid (wa.ownsRow w8.heap.size 5 1 (.slice (some ⟨w8.heap.size, 0, none⟩) 0 0) 0 []) := Lib.hid (by rw [← hwa]; exact ⟨rfl, .inr ⟨w8.heap.size, 0, #[], rfl, Nat.le_refl _, heap_alloc_new _ _, Nat.le_refl _, by unfold maxLen; omega, rfl, rfl⟩⟩)
                      have BA := Lib.hid ba
                      have XA8 := Lib.hid (JJ8.out.x.below ba JJ8.out.base (Nat.le_refl _))
                      have Sa := Lib.hid (⟨(ba.block _ (blt H8.out.1)).trans H8.out.1, (ba.block _ (blt H8.out.2)).trans H8.out.2⟩ : wa.heap[b]? = some (.cells #[.int .u8 mn, .int .u16 ml, .int .u8 pn, .int .u16 pl, .int .i64 ag, .int .u64 nx, .int .u64 wt, vq, .slice kA K.length kc, .bool true] 60 (0, 0)) ∧ wa.heap[W.heap.size]? = some (.cells #[.int .u8 fn, .int .u16 fl, .int .u8 tn, .int .u16 tl, .int .u64 sq, .int .u64 ak, .bool true, .slice XA xl xc] 37 (0, 0)))
                      rw [hwa]
                      refine ⟨Sa.out, ?_⟩
                      clear hwa ba
                      try simp only [Act.put, List.setIfInBounds_toArray, List.set_cons_zero, List.set_cons_succ]
                      refine FirstH.only (i := 10) (by kernel_rfl) (by decide) inv (fun inv => wpOp_appB (i := 10) rfl rfl 121 rfl (.tmp 118) (.tmp 120) rfl w8.heap.size _ 0 [] rfl Oa.out XA xB xl xc base rfl HXX.out.symm (fun e => by have := HA0.out e; simp only [HXX.out] at this; exact this) XA8.out (by have hxl3 : xB.length ≤ 1000000 := HXL.out; omega) BA.out.size ?_)
                      intro bv wb bo gb
                      have bb : Below w8.heap.size w8 wb := BA.out.grown gb BA.out.size fun k hk => (Oa.out.lt k hk).1
                      rw [Nat.zero_add, List.nil_append] at bo
                      obtain ⟨bd, rfl, hbB, bok⟩ := Bd.of_own bo HXL.out
                      have Sb := Lib.hid (⟨(bb.block _ (blt H8.out.1)).trans H8.out.1, (bb.block _ (blt H8.out.2)).trans H8.out.2⟩ : wb.heap[b]? = some (.cells #[.int .u8 mn, .int .u16 ml, .int .u8 pn, .int .u16 pl, .int .i64 ag, .int .u64 nx, .int .u64 wt, vq, .slice kA K.length kc, .bool true] 60 (0, 0)) ∧ wb.heap[W.heap.size]? = some (.cells #[.int .u8 fn, .int .u16 fl, .int .u8 tn, .int .u16 tl, .int .u64 sq, .int .u64 ak, .bool true, .slice XA xl xc] 37 (0, 0)))
                      refine ⟨Sb.out, ?_⟩
                      have OKB := Lib.hid bok
                      have HBB := Lib.hid hbB
                      have BB := Lib.hid bb
                      have hxl2 : bd.B.length = xl := by rw [hbB]; exact HXX.out
                      have HXX2 := Lib.hid hxl2
                      unfold Bd.v
                      rw [hxl2]
                      clear bo gb bb bok hbB hxl2 Oa XA8 BA Sa
                      try simp only [Act.put, List.setIfInBounds_toArray, List.set_cons_zero, List.set_cons_succ]
                      refine FirstH.only (i := 11) (by kernel_rfl) (by decide) inv (fun inv => wpOp_vl (i := 11) (v := .agg #[.int .u64 sq, .slice bd.A xl bd.c]) (w' := wb) rfl rfl 122 rfl _ rfl (by unfold bareO; go_simp) ?_)
                      refine ⟨Sb.out, ?_⟩
                      try simp only [Act.put, List.setIfInBounds_toArray, List.set_cons_zero, List.set_cons_succ]
                      refine FirstH.only (i := 12) (by kernel_rfl) (by decide) inv (fun inv => wpOp_vl (i := 12) (v := .slice (some ⟨wb.heap.size, 0, none⟩) 1 1) (w' := wb.alloc (.cells #[.int .u64 sq, .slice bd.A xl bd.c] 98)) rfl rfl 123 rfl _ rfl (by unfold bareO; go_simp) ?_)
                      obtain ⟨wc, hwc⟩ : ∃ Y, wb.alloc (.cells #[.int .u64 sq, .slice bd.A xl bd.c] 98) = Y := ⟨_, rfl⟩
                      have rc : wc.heap[wb.heap.size]? = some (.cells #[.int .u64 sq, .slice bd.A xl bd.c] 98 (0, 0)) := by rw [← hwc]; exact heap_alloc_new _ _
                      have bc : Below w8.heap.size w8 wc := by rw [← hwc]; exact BB.out.alloc BB.out.size _
                      have bc2 : Below wb.heap.size wb wc := by rw [← hwc]; exact (Below.refl _ _).alloc (Nat.le_refl _) _
                      have OKC := Lib.hid (OKB.out.below bc2)
                      have Jc := Lib.hid (JJ8.out.below bc JJ8.out.base)
                      have RC := Lib.hid rc
                      have Sc' := Lib.hid (⟨(bc.block _ (blt H8.out.1)).trans H8.out.1, (bc.block _ (blt H8.out.2)).trans H8.out.2⟩ : wc.heap[b]? = some (.cells #[.int .u8 mn, .int .u16 ml, .int .u8 pn, .int .u16 pl, .int .i64 ag, .int .u64 nx, .int .u64 wt, vq, .slice kA K.length kc, .bool true] 60 (0, 0)) ∧ wc.heap[W.heap.size]? = some (.cells #[.int .u8 fn, .int .u16 fl, .int .u8 tn, .int .u16 tl, .int .u64 sq, .int .u64 ak, .bool true, .slice XA xl xc] 37 (0, 0)))
                      rw [hwc]
                      refine ⟨Sc'.out, ?_⟩
                      clear hwc rc bc bc2 Sb
                      try simp only [Act.put, List.setIfInBounds_toArray, List.set_cons_zero, List.set_cons_succ]
                      obtain ⟨i0, hi0, hz0, hz1, hz2⟩ := info_parts rkI
                      have krow := Jc.out.dl.krow
                      simp only [hkv] at krow
                      have KROW := Lib.hid krow
                      clear krow
                      refine FirstH.only (i := 13) (by kernel_rfl) (by decide) inv (fun inv => wpOp_any rfl rfl (wp_appO 124 rfl (.tmp 115) (.tmp 123) 58 98 rfl i0 _ 2 32 Try.underlying58 hi0 hz0 hz1 hz2 rfl (by decide) (.slice kA K.length kc) K.length _ rfl KROW.out ⟨wb.heap.size, 0, none⟩ 1 1 [.int .u64 sq, .slice bd.A xl bd.c] rfl rfl (fun j u hu => by rw [addr_add, Nat.zero_add, cell_of_row _ _ j _ _ _ RC.out]; simpa using hu) (by simp [Value.oneCell']) (by decide) (by have := HKF.out; omega) (by decide) ?_))
                      intro v9 w9 O9 g9 f9
                      have k9 : KP (fun k => (Value.slice kA K.length kc).ownBlock = some k) wc w9 := KP.grown g9 fun k hk => hk
                      have hn9 : ∀ (k : Nat) (cu : Array Value) (t : TypeId), wc.heap[k]? = some (.cells cu t (0, 0)) → t ≠ 98 → ¬ ((Value.slice kA K.length kc).ownBlock = some k) := fun k cu t hk ht e => by
                        obtain ⟨c2, h2⟩ := KROW.out.block _ e
                        exact apart_of hk h2 ht rfl
                      refine ⟨⟨(k9.block _ (blt Sc'.out.1) (hn9 _ _ _ Sc'.out.1 (by decide))).trans Sc'.out.1, (k9.block _ (blt Sc'.out.2) (hn9 _ _ _ Sc'.out.2 (by decide))).trans Sc'.out.2⟩, ?_⟩
                      have l9 : w9.heap[b]? = some (.cells #[.int .u8 mn, .int .u16 ml, .int .u8 pn, .int .u16 pl, .int .i64 ag, .int .u64 nx, .int .u64 wt, vq, .slice kA K.length kc, .bool true] 60 (0, 0)) := (k9.block _ (blt Sc'.out.1) (hn9 _ _ _ Sc'.out.1 (by decide))).trans Sc'.out.1
                      obtain ⟨A9, c9, hv9, _, _, _⟩ := O9.slice
                      subst hv9
                      have c8' := cell_of l9 8 (.slice kA K.length kc) rfl
                      have z8' := frz_row 8 l9
                      have L9 := Lib.hid l9
                      have K9 := Lib.hid k9
                      have O9' := Lib.hid O9
                      have F9 := Lib.hid f9
                      clear O9 g9 k9 hn9 l9 f9 hi0 hz0 hz1 hz2
                      try simp only [Act.put, List.setIfInBounds_toArray, List.set_cons_zero, List.set_cons_succ]
                      refine ⟨by kernel_rfl, ?_⟩
                      simp only [List.drop_succ_cons, List.drop_zero]
                      go_wp2
                      go_ret
                      clear inv
                      have hnx : fK K sq = none := fK_out fun y hy => by
                        obtain ⟨j, hj⟩ := List.getElem?_of_mem hy
                        exact HB2.out j y (by have := (List.getElem?_eq_some_iff.1 hj).1; omega) hj
                      have hxp : Kr.p ⟨sq, bd⟩ = (sq, xB) := by unfold Kr.p; rw [HBB.out]
                      unfold HearDR
                      rw [hear_keep HM.out rfl HKW.out HLO.out HHI.out hnx ⟨sq, bd⟩ hxp]
                      have jc := Jc.out
                      have kF : KP (fun k => k = b ∨ (Value.slice kA K.length kc).ownBlock = some k) wc (w9.setCell ⟨b, 8, none⟩ (.slice A9 (K.length + 1) c9)) := (K9.out.mono fun k hk => Or.inr hk).trans (KP.set (S := fun k => k = b) w9 b 8 _ rfl) fun k _ hk => Or.inl hk
                      have hwk : w = .slice kA K.length kc := hkv
                      have uF : ∀ (g' : Nat) (cur : Array Value), wc.heap[g']? = some (.cells cur 5 (0, 0)) → ¬ (g' = b ∨ (Value.slice kA K.length kc).ownBlock = some g') := fun g' cur hg e => jc.dl.u8 g' cur hg (e.elim Or.inl fun e => Or.inr (Or.inr (by rw [hwk]; exact e)))
                      have eF : flat Kr.cs (K ++ [(⟨sq, bd⟩ : Kr)]) = flat Kr.cs K ++ [.int .u64 sq, .slice bd.A xl bd.c] := by
                        rw [flat_append]
                        simp [flat, Kr.cs, HXX2.out]
                      have lF : (K ++ [(⟨sq, bd⟩ : Kr)]).length = K.length + 1 := by simp
                      refine ⟨.slice none 0 0, vq, .slice A9 (K.length + 1) c9, K ++ [⟨sq, bd⟩], [], rfl, World.ownsRow_nil _ _ _ _, fun _ hx => (by cases hx), ⟨jc.dl.hb, jc.dl.hv, fun g' hg => ?_, (row_set L9.out _).trans rfl, jc.dl.row.keepK kF (fun g' hg e => e.elim (fun e => jc.dl.ne_bv g' hg e) fun e => jc.dl.ne_vw g' hg (by rw [hwk]; exact e)), ?_, fun y hy => (jc.dl.okL y hy).keepK kF uF, fun y hy => ?_, jc.dl.few, by rw [lF]; have := HKF.out; omega, jc.dl.nxt, jc.dl.wnt, jc.dl.agn, jc.dl.seqs, jc.dl.ats⟩, rfl, rfl, ?_⟩
                      · rcases F9.out with e | ⟨k, e, hk⟩
                        · exact jc.dl.hw g' (by rw [hwk, ← e]; exact hg)
                        · rw [hg] at e
                          cases e
                          have := jc.base
                          omega
                      · rw [lF, eF]
                        refine O9'.out.keepB fun g' hg => Below.heap_setCell _ _ _ _ ?_
                        obtain ⟨c2, h2⟩ := O9'.out.block g' hg
                        exact apart_of h2 L9.out (by decide)
                      · rcases List.mem_append.1 hy with hy | hy
                        · exact (jc.dl.okK y hy).keepK kF uF
                        · obtain rfl : y = ⟨sq, bd⟩ := by simpa using hy
                          exact OKC.out.keepK kF uF
                      · exact jc.kp.trans kF fun k _ hk => hk.elim Or.inl fun e => Or.inr (Or.inr (by rw [hwk]; exact e))
      · have hbi : (ak : Int) ≤ (nx : Int) := by omega
        by_cases hlt : xq < ak
        · have hli : (xq : Int) < (ak : Int) := by omega
          have HD2 : Hid (d + 1 ≤ ackN nx ak n) := Lib.hid (by
            have h1 := HSQ.out
            have h2 := hdn.out
            unfold ackN
            rw [if_neg hbad]
            omega)
          have hL1 : Hid (L.drop (d + 1) = L') := Lib.hid (by rw [List.drop_add_one_eq_tail_drop, HLX.out]; rfl)
          clear hbad hlt
          go_wp2
          refine wp_region_quiet_below (by kernel_rfl) (by kernel_rfl) ?_
          repeat (go_big_quiet_step (fail))
          refine wpQuiet_nil ?_
          rintro Wq ⟨pz, rfl⟩
          have bz := below_regrown wr pz.d pz.os
          generalize grow (redrawn wr pz.d) pz.os = Wq at bz ⊢
          clear t5 t7 t8 y5
          have jq := J.out.below bz J.out.base
          rw [List.length_cons, HN'.out] at jq
          have Jq := Lib.hid jq
          clear jq
          have lq := Jq.out.dl.lnk
          simp only [Sc.ds, List.length_cons, HN'.out] at lq
          have c7 := cell_of lq 7 (.slice (some ⟨g, o, none⟩) (n' + 1) (cc + 1)) rfl
          have z7 := frz_row 7 lq
          have f1 : (1 : Int) ≤ ((n' + 1 : Nat) : Int) := by omega
          have f2 : ((n' + 1 : Nat) : Int) ≤ ((cc + 1 : Nat) : Int) := by have := HCC.out; simp only [List.length_cons, HN'.out] at this; omega
          have f3 : (1 : Int) ≤ ((cc + 1 : Nat) : Int) := by omega
          clear lq bz
          by_cases hz : cc = 0
          · subst hz
            go_wp2
            have st := Jq.out.step (n := n') (c := 0) (o' := o) (by exact HN'.out) (.inl ⟨rfl, rfl⟩)
            go_roundg n'
            case measure => have h1 := HLN.out; simp only [List.length_cons, HN'.out] at h1; omega
            case rel => exact ⟨d + 1, _, by have := hdn.out; omega, HD2.out, by rw [hL1.out]; exact Lib.hid st⟩
          · have hz1 : (1 : Int) < ((cc + 1 : Nat) : Int) := by omega
            have hz2 : ¬ ((cc + 1 : Nat) : Int) = 1 := by omega
            have hz3 : ¬ cc + 1 = 1 := by omega
            go_wp2
            have st := Jq.out.step (n := n') (c := cc) (o' := o + 4) (by exact HN'.out) (.inr ⟨by omega, rfl⟩)
            go_roundg n'
            case measure => have h1 := HLN.out; simp only [List.length_cons, HN'.out] at h1; omega
            case rel => exact ⟨d + 1, _, by have := hdn.out; omega, HD2.out, by rw [hL1.out]; exact Lib.hid st⟩
        · have hli : ¬ (xq : Int) < (ak : Int) := by omega
          have HL : Hid (((⟨xq, xb, xt, xw⟩ : Ls) :: L') = L.drop (ackN nx ak n)) := Lib.hid (by
            have h1 := HLX.out
            rw [← h1]
            congr 1
            have h2 := HDA.out
            have h3 := HSQ.out
            have h4 := hdn.out
            unfold ackN at h2 ⊢
            rw [if_neg hbad] at h2 ⊢
            omega)
          clear hbad hlt
          go_wp2
          refine wp_region_quiet_below (by kernel_rfl) (by kernel_rfl) ?_
          repeat (go_big_quiet_step (fail))
          refine wpQuiet_nil ?_
          rintro Wq ⟨pz, rfl⟩
          have bz := below_regrown wr pz.d pz.os
          generalize grow (redrawn wr pz.d) pz.os = Wq at bz ⊢
          clear t5 t7 t8 y5
          as_aux_lemma =>
            have jq : ∃ vq, HJ base W b v w ⟨mn, ml, pn, pl, ag, nx, wt, ow⟩ K ⟨fn, fl, tn, tl, sq, ak, hs, xB⟩ XA xc vq (L.drop (ackN nx ak L.length)) Wq := ⟨_, by rw [HN.out, ← HL.out]; exact J.out.below bz J.out.base⟩
            obtain ⟨vq, jq⟩ := jq
            have JQ := Lib.hid jq
            have pq := jq.pk
            simp only [Hp.cs, HXX.out] at pq
            have d6 := cell_of pq 6 (.bool hs) rfl
            clear bz jq pq J HLX
            cases hs with
            | false =>
              go_wp2
              go_ret
              unfold HearDR
              rw [hear_bare HM.out rfl]
              exact ⟨.slice none 0 0, vq, w, K, [], rfl, World.ownsRow_nil _ _ _ _, fun _ hx => (by cases hx), JQ.out.dl, rfl, rfl, JQ.out.kp⟩
            | true =>
              have lq := JQ.out.dl.lnk
              have c9 := cell_of lq 9 (.bool ow) rfl
              have z9 := frz_row 9 lq
              obtain ⟨w5, hw5⟩ : ∃ Y, Wq.setCell ⟨b, 9, none⟩ (.bool true) = Y := ⟨_, rfl⟩
              have j5 := JQ.out.owe true
              rw [hw5] at j5
              have J5 := Lib.hid j5
              have HW5 := Lib.hid hw5
              clear lq hw5 j5
              go_wp2_with (rw [HW5.out])
              clear c9 z9 d6
              have lk := J5.out.dl.lnk
              simp only [Sc.ds] at lk
              have pk := J5.out.pk
              simp only [Hp.cs, HXX.out] at pk
              have d4 := cell_of pk 4 (.int .u64 sq) rfl
              have c6 := cell_of lk 6 (.int .u64 wt) rfl
              have y4 := cell_regrown d4
              have t6 := cell_regrown c6
              clear lk pk d4 c6
              by_cases h1 : sq < wt
              · have h1i : (sq : Int) < (wt : Int) := by omega
                have HLO := Lib.hid h1
                refine wp_region_quiet_below (by kernel_rfl) (by kernel_rfl) ?_
                repeat (go_big_quiet_step (fail))
                refine wpQuiet_nil ?_
                rintro w6 ⟨pz, rfl⟩
                have bz := below_regrown w5 pz.d pz.os
                generalize grow (redrawn w5 pz.d) pz.os = w6 at bz ⊢
                clear y4 t6
                have J6 := Lib.hid (J5.out.below bz J5.out.base)
                clear bz
                go_wp2
                go_ret
                unfold HearDR
                rw [hear_same HM.out rfl HKW.out (Or.inl HLO.out)]
                exact ⟨.slice none 0 0, vq, w, K, [], rfl, World.ownsRow_nil _ _ _ _, fun _ hx => (by cases hx), J6.out.dl, rfl, rfl, J6.out.kp⟩
              · have h1i : ¬ (sq : Int) < (wt : Int) := by omega
                have hwr : IntKind.u64.wrap ((sq : Int) - (wt : Int)) = (sq : Int) - (wt : Int) := IntWalk.u64_in _ (by have hq2 : sq ≤ 18446744073709551615 := HQ.out; have hw2 := J5.out.dl.wnt; have hw3 : wt ≤ 18446744073709551615 := hw2; omega)
                by_cases h2 : 8 ≤ sq - wt
                · have h2i : (8 : Int) ≤ (sq : Int) - (wt : Int) := by omega
                  have HHI := Lib.hid h2
                  refine wp_region_quiet_below (by kernel_rfl) (by kernel_rfl) ?_
                  repeat (go_big_quiet_step (fail))
                  refine wpQuiet_nil ?_
                  rintro w6 ⟨pz, rfl⟩
                  have bz := below_regrown w5 pz.d pz.os
                  generalize grow (redrawn w5 pz.d) pz.os = w6 at bz ⊢
                  clear y4 t6
                  have J6 := Lib.hid (J5.out.below bz J5.out.base)
                  clear bz
                  go_wp2
                  go_ret
                  unfold HearDR
                  rw [hear_same HM.out rfl HKW.out (Or.inr (Or.inl HHI.out))]
                  exact ⟨.slice none 0 0, vq, w, K, [], rfl, World.ownsRow_nil _ _ _ _, fun _ hx => (by cases hx), J6.out.dl, rfl, rfl, J6.out.kp⟩
                · have h2i : ¬ (8 : Int) ≤ (sq : Int) - (wt : Int) := by omega
                  have HHI : Hid (sq - wt < 8) := Lib.hid (by omega)
                  refine wp_region_quiet_below (by kernel_rfl) (by kernel_rfl) ?_
                  repeat (go_big_quiet_step (fail))
                  refine wpQuiet_nil ?_
                  rintro w6 ⟨pz, rfl⟩
                  have bz := below_regrown w5 pz.d pz.os
                  generalize grow (redrawn w5 pz.d) pz.os = w6 at bz ⊢
                  have J6 := Lib.hid (J5.out.below bz J5.out.base)
                  clear bz y4 t6 hwr h2i h2
                  go_wp2
                  have lk := J6.out.dl.lnk
                  simp only [Sc.ds] at lk
                  have pk := J6.out.pk
                  simp only [Hp.cs, HXX.out] at pk
                  have d4 := cell_of pk 4 (.int .u64 sq) rfl
                  have c6 := cell_of lk 6 (.int .u64 wt) rfl
                  have y4 := cell_regrown d4
                  have t6 := cell_regrown c6
                  clear lk pk d4 c6
                  by_cases h3 : sq = wt
                  · subst h3
                    refine wp_region_quiet_below (by kernel_rfl) (by kernel_rfl) ?_
                    repeat (go_big_quiet_step (fail))
                    refine wpQuiet_nil ?_
                    rintro w7 ⟨pz, rfl⟩
                    have bz := below_regrown w6 pz.d pz.os
                    generalize grow (redrawn w6 pz.d) pz.os = w7 at bz ⊢
                    have J7 := Lib.hid (J6.out.below bz J6.out.base)
                    have hwt := J7.out.dl.wnt
                    clear bz y4 t6 h1 h1i
                    obtain ⟨wa, hwa⟩ : ∃ Y, w7.alloc (.cells #[] 5) = Y := ⟨_, rfl⟩
                    have ba : Below w7.heap.size w7 wa := by rw [← hwa]; exact (Below.refl _ _).alloc (Nat.le_refl _) _
                    have Oa : Hid (wa.ownsRow w7.heap.size 5 1 (.slice (some ⟨w7.heap.size, 0, none⟩) 0 0) 0 []) := Lib.hid (by rw [← hwa]; exact ⟨rfl, .inr ⟨w7.heap.size, 0, #[], rfl, Nat.le_refl _, heap_alloc_new _ _, Nat.le_refl _, by unfold maxLen; omega, rfl, rfl⟩⟩)
                    have Ja := J7.out.below ba J7.out.base
                    have pk := Ja.pk
                    simp only [Hp.cs, HXX.out] at pk
                    have d7 := cell_of pk 7 (.slice XA xl xc) rfl
                    have XAa := Lib.hid Ja.x
                    have BA := Lib.hid ba
                    have HWA := Lib.hid hwa
                    have HWT := Lib.hid hwt
                    have hwi := inc_wrap sq
                    clear hwa ba Ja pk hwt
                    go_wp2_with (first
                      | (rw [HWA.out])
                      | (refine wpList_appB rfl 130 rfl (.tmp 127) (.tmp 129) rfl w7.heap.size _ 0 [] rfl Oa.out XA xB xl xc base rfl HXX.out.symm (fun e => by have := HA0.out e; simp only [HXX.out] at this; exact this) XAa.out (by have hxl3 : xB.length ≤ 1000000 := HXL.out; omega) BA.out.size ?_
                         intro bv wb bo gb
                         have bb : Below w7.heap.size w7 wb := BA.out.grown gb BA.out.size fun k hk => (Oa.out.lt k hk).1
                         rw [Nat.zero_add, List.nil_append] at bo
                         obtain ⟨bd, rfl, hbB, bok⟩ := Bd.of_own bo HXL.out
                         obtain ⟨bl, hbl⟩ : ∃ bl, bd.B.length = bl := ⟨_, rfl⟩
                         obtain ⟨wc, hwc⟩ : ∃ Y, wb.alloc (.cells #[.slice bd.A bl bd.c] 35) = Y := ⟨_, rfl⟩
                         have bc : Below w7.heap.size w7 wc := by rw [← hwc]; exact bb.alloc bb.size _
                         have bc2 : Below wb.heap.size wb wc := by rw [← hwc]; exact (Below.refl _ _).alloc (Nat.le_refl _) _
                         have rowc : wc.ownsRow W.heap.size 35 1 (.slice (some ⟨wb.heap.size, 0, none⟩) 1 1) 1 [.slice bd.A bl bd.c] := by
                           rw [← hwc]
                           exact ⟨rfl, .inr ⟨wb.heap.size, 1, #[.slice bd.A bl bd.c], rfl, by have := J7.out.kp.size; have := bb.size; omega, heap_alloc_new _ _, Nat.le_refl _, by unfold maxLen; omega, rfl, rfl⟩⟩
                         have jc := J7.out.below bc J7.out.base
                         have lc := jc.dl.lnk
                         simp only [Sc.ds] at lc
                         have c6 := cell_of lc 6 (.int .u64 sq) rfl
                         have z6 := frz_row 6 lc
                         have JC := Lib.hid jc
                         have OKC := Lib.hid (bok.below bc2)
                         have ROWC := Lib.hid rowc
                         have HWC := Lib.hid hwc
                         have HBB := Lib.hid hbB
                         have HBL := Lib.hid hbl
                         unfold Bd.v
                         rw [hbl]
                         clear bo gb bb bc bc2 rowc jc lc hwc hbB hbl bok d7)
                      | (rw [HWC.out]))
                    obtain ⟨wd, hwd⟩ : ∃ Y, wc.setCell ⟨b, 6, none⟩ (.int .u64 ((inc sq : Nat) : Int)) = Y := ⟨_, rfl⟩
                    rw [hwd]
                    have C0 : Hid (CJ base W b v w ⟨mn, ml, pn, pl, ag, nx, sq, true⟩ (L.drop (ackN nx ak L.length)) K vq ⟨sq, bd⟩ 0 (inc sq) K [] w (.slice (some ⟨wb.heap.size, 0, none⟩) 1 1) wd) := Lib.hid (CJ.start JC.out HKW.out OKC.out (by have := ROWC.out; unfold bvs Bd.v; simp only [List.map_cons, List.map_nil, HBL.out]; exact this) hwd)
                    clear hwd c6 z6 hwi
                    go_loopw [6, 7] (fun ov iv wz => ∃ (i u : Nat) (K' D : List Kr) (w' : Value), i ≤ 7 ∧ iv = .int .i64 i ∧ Hid (CJ base W b v w ⟨mn, ml, pn, pl, ag, nx, sq, true⟩ (L.drop (ackN nx ak L.length)) K vq ⟨sq, bd⟩ i u K' D w' ov wz)) (fun _ iv _ => 8 - (intOf iv).toNat)
                    case atStart => exact ⟨0, _, _, _, _, by omega, rfl, C0⟩
                    case round =>
                      obtain ⟨i, u, K', D, w', hi, rfl, CJJ⟩ := hrel
                      clear C0
                      have hi8 : (i : Int) < 8 := by omega
                      have KC := keptD base wr b vq w' _ _ K' CJJ.out.dl u CJJ.out.cw.ap
                      have lk := CJJ.out.dl.lnk
                      simp only [Sc.ds] at lk
                      have c6 := cell_of lk 6 (.int .u64 u) rfl
                      clear lk
                      cases hf : fK K' u with
                      | none =>
                        have HF := Lib.hid hf
                        clear hf
                        go_wp2_with fail
                        refine KC.mono ?_
                        rintro e w2 hr
                        unfold KeptR at hr
                        obtain ⟨he, w3', D2, k2, _⟩ := hr
                        rw [HF.out] at he
                        have hkv : kv K' u = .slice none 0 0 := by unfold kv; rw [HF.out]
                        rw [hkv] at he
                        subst he
                        have D2' := Lib.hid D2
                        have K2 := Lib.hid k2
                        clear D2 k2 KC c6 hkv
                        simp only [Option.isSome]
                        go_wp2
                        go_ret
                        exact CJJ.out.fin HM.out HKW.out (x0 := ⟨sq, bd⟩) (by unfold Kr.p; rw [HBB.out]) HF.out D2'.out K2.out
                      | some x =>
                        have HF := Lib.hid hf
                        clear hf
                        go_wp2_with fail
                        refine KC.mono ?_
                        rintro e w2 hr
                        unfold KeptR at hr
                        obtain ⟨he, w3', D2, k2, _⟩ := hr
                        rw [HF.out] at he
                        have hkv : kv K' u = x.b.v := by unfold kv; rw [HF.out]
                        rw [hkv] at he
                        obtain ⟨xa, hxa⟩ : ∃ z, x.b.A = z := ⟨_, rfl⟩
                        obtain ⟨xbl, hxbl⟩ : ∃ z, x.b.B.length = z := ⟨_, rfl⟩
                        obtain ⟨xcc, hxcc⟩ : ∃ z, x.b.c = z := ⟨_, rfl⟩
                        have hxv : x.b.v = .slice xa xbl xcc := by unfold Bd.v; rw [hxa, hxbl, hxcc]
                        rw [hxv] at he
                        subst he
                        have l2 := D2.lnk
                        simp only [Sc.ds] at l2
                        obtain ⟨w4, hw4⟩ : ∃ Y, w2.alloc (.cells #[.slice xa xbl xcc] 35) = Y := ⟨_, rfl⟩
                        have b4 : Below w2.heap.size w2 w4 := by rw [← hw4]; exact (Below.refl _ _).alloc (Nat.le_refl _) _
                        have r4 : w4.heap[w2.heap.size]? = some (.cells #[.slice xa xbl xcc] 35 (0, 0)) := by rw [← hw4]; exact heap_alloc_new _ _
                        have l4 := (b4.block b (blt l2)).trans l2
                        have row4 : w4.ownsRow W.heap.size 35 1 u6 (D.length + 1) (bvs (⟨sq, bd⟩ :: D)) := by
                          refine owns_keepB CJJ.out.row fun g hg => ?_
                          obtain ⟨cu, hcu⟩ := row_block CJJ.out.row hg
                          have q1 := (k2.block g (blt hcu) (apart_of hcu CJJ.out.dl.lnk (by decide))).trans hcu
                          exact ((b4.block g (blt q1)).trans q1).trans hcu.symm
                        have D2' := Lib.hid D2
                        have K2 := Lib.hid k2
                        have B4 := Lib.hid b4
                        have R4 := Lib.hid r4
                        have ROW4 := Lib.hid row4
                        have HW4 := Lib.hid hw4
                        have HXV := Lib.hid hxv
                        have L4 := Lib.hid l4
                        have hsz4 : Hid (W.heap.size ≤ w4.heap.size) := Lib.hid (Nat.le_trans CJJ.out.kp.size (Nat.le_trans k2.size b4.size))
                        have hdl : Hid (D.length + 1 ≤ 100000) := Lib.hid (by have := CJJ.out.le; have := HKF.out; omega)
                        have hwi := inc_wrap u
                        simp only [Option.isSome]
                        clear D2 k2 KC c6 hkv hxa hxbl hxcc hxv l2 hw4 b4 r4 l4 row4
                        go_wp2_with (first
                          | (rw [HW4.out])
                          | (refine wpList_appBd rfl 157 rfl (.tmp 154) (.tmp 156) rfl W.heap.size u6 (D.length + 1) _ rfl ROW4.out w2.heap.size #[.slice xa xbl xcc] 1 rfl (by simp [Value.oneCell']) rfl R4.out hdl.out hsz4.out ?_
                             intro v' w9 O9 g9
                             have k9 : KP (fun k => u6.ownBlock = some k) w4 w9 := KP.grown g9 fun k hk => hk
                             have h9 := (k9.block b (blt L4.out) (fun e => by
                               obtain ⟨cu, hcu⟩ := row_block ROW4.out e
                               exact apart_of L4.out hcu (by decide) rfl)).trans L4.out
                             have c6 := cell_of h9 6 (.int .u64 u) rfl
                             have z6 := frz_row 6 h9
                             have O9' := Lib.hid O9
                             have K9 := Lib.hid k9
                             clear O9 g9 k9 h9))
                        go_roundw
                        case rel =>
                          have st := CJJ.out.step HF.out D2'.out K2.out B4.out (dv' := v') (by rw [HXV.out]; exact O9'.out) K9.out _ rfl
                          exact ⟨i + 1, inc u, outN K' u, D ++ [x], w3', by have := st.2; omega, by go_num, Lib.hid st.1⟩
                        case measure => simp [intOf]; omega
                  · have h3i : ¬ (sq : Int) = (wt : Int) := by omega
                    have h3b : ((sq : Int) == (wt : Int)) = false := by simp; omega
                    have HLO : Hid (wt < sq) := Lib.hid (by omega)
                    refine wp_region_quiet_below (by kernel_rfl) (by kernel_rfl) ?_
                    repeat (go_big_quiet_step (fail))
                    refine wpQuiet_nil ?_
                    rintro w7 ⟨pz, rfl⟩
                    have bz := below_regrown w6 pz.d pz.os
                    generalize grow (redrawn w6 pz.d) pz.os = w7 at bz ⊢
                    have J7 := Lib.hid (J6.out.below bz J6.out.base)
                    clear bz y4 t6
                    go_wp2
                    clear h3 h3i h3b h1 h1i
                    obtain ⟨kA, kc, hkv0, hk1, hk2, hkA⟩ := J7.out.dl.krow.slice
                    obtain ⟨kn, hkn⟩ : ∃ kn, K.length = kn := ⟨_, rfl⟩
                    have hkv : w = .slice kA kn kc := by rw [hkv0, hkn]
                    have HKA := Lib.hid hkA
                    have HK1 := Lib.hid hk1
                    have hkn900 : kn < 900 := by rw [← hkn]; exact HKF.out
                    have HKV := Lib.hid hkv
                    have HKN := Lib.hid hkn
                    have HKROW := Lib.hid J7.out.dl.krow
                    clear hkv0 hk1 hk2 hkA hkv hkn
                    go_loopw [5] (fun iv wq2 => ∃ k : Nat, k ≤ kn ∧ iv = .int .i64 k ∧ Hid (∀ j y, j < k → K[j]? = some y → y.seq ≠ sq) ∧ Hid (Below w7.heap.size w7 wq2)) (fun iv _ => kn - (intOf iv).toNat)
                    case atStart => exact ⟨0, Nat.zero_le _, rfl, Lib.hid fun j y hj => by omega, Lib.hid (Below.refl _ _)⟩
                    case round =>
                      obtain ⟨k, hk, rfl, HB2, B2⟩ := hrel
                      have J2 := Lib.hid (J7.out.below B2.out J7.out.base)
                      have lk := J2.out.dl.lnk
                      simp only [Sc.ds, HKV.out] at lk
                      have pk := J2.out.pk
                      simp only [Hp.cs, HXX.out] at pk
                      have d4 := cell_of pk 4 (.int .u64 sq) rfl
                      have c8 := cell_of lk 8 (.slice kA kn kc) rfl
                      have y4 := cell_regrown d4
                      have t8 := cell_regrown c8
                      clear lk pk d4
                      by_cases hkk : k < kn
                      · have hki : (k : Int) < (kn : Int) := by omega
                        obtain ⟨x, hxk⟩ : ∃ x, K[k]? = some x := ⟨K[k]'(by rw [HKN.out]; exact hkk), by simp [HKN.out, hkk]⟩
                        have hAs : ∃ g o, kA = some ⟨g, o, none⟩ := by
                          rcases HKA.out with ⟨_, h0⟩ | h0
                          · have := HK1.out
                            rw [HKN.out] at this
                            omega
                          · exact h0
                        obtain ⟨g, o, rfl⟩ := hAs
                        have row := J2.out.dl.krow
                        simp only [HKV.out, HKN.out] at row
                        have e0 := RowO.elem Kr.sz row hxk (j := 0) (by decide)
                        obtain ⟨xs, xb⟩ := x
                        simp only [Kr.cs, List.getElem?_toArray, List.getElem?_cons_zero, List.getElem?_cons_succ, Nat.add_zero] at e0
                        have t0 := cell_regrown e0
                        have HXK := Lib.hid hxk
                        clear row e0 hxk
                        by_cases hqe : xs = sq
                        · subst hqe
                          go_wp2
                          refine wp_region_quiet_below (by kernel_rfl) (by kernel_rfl) ?_
                          repeat (go_big_quiet_step (fail))
                          refine wpQuiet_nil ?_
                          rintro w9q ⟨pz, rfl⟩
                          have bz := below_regrown wr pz.d pz.os
                          generalize grow (redrawn wr pz.d) pz.os = w9q at bz ⊢
                          have J9 := Lib.hid (J2.out.below bz J2.out.base)
                          clear bz t0 t8 y4 c8
                          go_wp2
                          go_ret
                          unfold HearDR
                          rw [hear_same HM.out rfl HKW.out (Or.inr (Or.inr (by rw [fK_at HB2.out HXK.out rfl]; rfl)))]
                          exact ⟨.slice none 0 0, vq, w, K, [], rfl, World.ownsRow_nil _ _ _ _, fun _ hx => (by cases hx), J9.out.dl, rfl, rfl, J9.out.kp⟩
                        · have hqi : ¬ (xs : Int) = (sq : Int) := by omega
                          have hqb : ((xs : Int) == (sq : Int)) = false := by simp; omega
                          have HQE := Lib.hid hqe
                          go_wp2
                          refine wp_region_quiet_below (by kernel_rfl) (by kernel_rfl) ?_
                          repeat (go_big_quiet_step (fail))
                          refine wpQuiet_nil ?_
                          rintro w9q ⟨pz, rfl⟩
                          have bz := below_regrown wr pz.d pz.os
                          generalize grow (redrawn wr pz.d) pz.os = w9q at bz ⊢
                          have B3 := Lib.hid (B2.out.trans (bz.mono B2.out.size))
                          clear bz t0 t8 y4 c8
                          go_wp2
                          go_roundw
                          case rel =>
                            refine ⟨k + 1, by omega, by go_num, Lib.hid fun j y hj hy => ?_, B3⟩
                            by_cases hjk : j < k
                            · exact HB2.out j y hjk hy
                            · obtain rfl : j = k := by omega
                              rw [HXK.out] at hy
                              cases hy
                              exact HQE.out
                          case measure => simp [intOf]; omega
                      · obtain rfl : k = kn := by omega
                        have hki : ¬ (k : Int) < (k : Int) := by omega
                        have hkn := HKN.out
                        have hkv := HKV.out
                        subst hkn
                        obtain ⟨w8, hw8⟩ : ∃ Y, wr.drew = Y := ⟨_, rfl⟩
                        have b8 : Below wr.heap.size wr w8 := by rw [← hw8]; exact (Below.refl _ _).drew
                        have J8 := J7.out.below (B2.out.trans (b8.mono B2.out.size)) J7.out.base
                        have lk := J8.dl.lnk
                        simp only [Sc.ds, hkv] at lk
                        have pk := J8.pk
                        simp only [Hp.cs, HXX.out] at pk
                        have HS : w8.heap[b]? = some (.cells #[.int .u8 mn, .int .u16 ml, .int .u8 pn, .int .u16 pl, .int .i64 ag, .int .u64 nx, .int .u64 wt, vq, .slice kA K.length kc, .bool true] 60 (0, 0)) ∧ w8.heap[W.heap.size]? = some (.cells #[.int .u8 fn, .int .u16 fl, .int .u8 tn, .int .u16 tl, .int .u64 sq, .int .u64 ak, .bool true, .slice XA xl xc] 37 (0, 0)) := ⟨lk, pk⟩
                        have H8 := Lib.hid HS
                        have HW8 := Lib.hid hw8
                        have JJ8 := Lib.hid J8
                        clear hw8 b8 J8 lk pk HS t8 y4
                        go_wp2
                        refine region_heldT (S := fun X => X.heap[b]? = some (.cells #[.int .u8 mn, .int .u16 ml, .int .u8 pn, .int .u16 pl, .int .i64 ag, .int .u64 nx, .int .u64 wt, vq, .slice kA K.length kc, .bool true] 60 (0, 0)) ∧ X.heap[W.heap.size]? = some (.cells #[.int .u8 fn, .int .u16 fl, .int .u8 tn, .int .u16 tl, .int .u64 sq, .int .u64 ak, .bool true, .slice XA xl xc] 37 (0, 0))) 14 (by kernel_rfl) (by decide) (fun inv => ?_)
                        change FirstH _ _ _ _ _ _ _ _ _ _ wr.drew
                        rw [HW8.out]
                        have HS := H8.out
                        refine FirstH.go (i := 0) (v := .pointer (some ⟨b, 0, none⟩)) rfl rfl _ rfl _ rfl (by kernel_rfl) (fun _ _ _ h => h) inv (fun X _ => by unfold bareO; go_simp) HS (fun inv => ?_)
                        try simp only [Act.put, List.setIfInBounds_toArray, List.set_cons_zero, List.set_cons_succ]
                        refine FirstH.go (i := 1) (v := .pointer (some ⟨b, 0, none⟩)) rfl rfl _ rfl _ rfl (by kernel_rfl) (fun _ _ _ h => h) inv (fun X _ => by unfold bareO; go_simp) HS (fun inv => ?_)
                        try simp only [Act.put, List.setIfInBounds_toArray, List.set_cons_zero, List.set_cons_succ]
                        refine FirstH.go (i := 2) (v := .pointer (some ⟨b, 0, none⟩)) rfl rfl _ rfl _ rfl (by kernel_rfl) (fun _ _ _ h => h) inv (fun X _ => by unfold bareO; go_simp) HS (fun inv => ?_)
                        try simp only [Act.put, List.setIfInBounds_toArray, List.set_cons_zero, List.set_cons_succ]
                        refine FirstH.go (i := 3) (v := .pointer (some ⟨b, 8, none⟩)) rfl rfl _ rfl _ rfl (by kernel_rfl) (fun _ _ _ h => h) inv (fun X _ => by unfold bareO; go_simp) HS (fun inv => ?_)
                        try simp only [Act.put, List.setIfInBounds_toArray, List.set_cons_zero, List.set_cons_succ]
                        refine FirstH.go (i := 4) (v := .slice kA K.length kc) rfl rfl _ rfl _ rfl (by kernel_rfl) (fun _ _ _ h => h) inv (fun X hS => by have c1 := cell_of hS.1 8 (.slice kA K.length kc) rfl; unfold bareO; go_simp) HS (fun inv => ?_)
                        try simp only [Act.put, List.setIfInBounds_toArray, List.set_cons_zero, List.set_cons_succ]
                        refine FirstH.go (i := 5) (v := .pointer (some ⟨W.heap.size, 4, none⟩)) rfl rfl _ rfl _ rfl (by kernel_rfl) (fun _ _ _ h => h) inv (fun X _ => by unfold bareO; go_simp) HS (fun inv => ?_)
                        try simp only [Act.put, List.setIfInBounds_toArray, List.set_cons_zero, List.set_cons_succ]
                        refine FirstH.go (i := 6) (v := .int .u64 sq) rfl rfl _ rfl _ rfl (by kernel_rfl) (fun _ _ _ h => h) inv (fun X hS => by have c1 := cell_of hS.2 4 (.int .u64 sq) rfl; unfold bareO; go_simp) HS (fun inv => ?_)
                        try simp only [Act.put, List.setIfInBounds_toArray, List.set_cons_zero, List.set_cons_succ]
                        refine FirstH.go (i := 8) (v := .pointer (some ⟨W.heap.size, 7, none⟩)) rfl rfl _ rfl _ rfl (by kernel_rfl) (fun _ _ _ h => h) inv (fun X _ => by unfold bareO; go_simp) HS (fun inv => ?_)
                        try simp only [Act.put, List.setIfInBounds_toArray, List.set_cons_zero, List.set_cons_succ]
                        refine FirstH.go (i := 9) (v := .slice XA xl xc) rfl rfl _ rfl _ rfl (by kernel_rfl) (fun _ _ _ h => h) inv (fun X hS => by have c1 := cell_of hS.2 7 (.slice XA xl xc) rfl; unfold bareO; go_simp) HS (fun inv => ?_)
                        try simp only [Act.put, List.setIfInBounds_toArray, List.set_cons_zero, List.set_cons_succ]
                        clear HS
                        refine FirstH.only (i := 7) (by kernel_rfl) (by decide) inv (fun inv => wpOp_vl (i := 7) (v := .slice (some ⟨w8.heap.size, 0, none⟩) 0 0) (w' := w8.alloc (.cells #[] 5)) rfl rfl 118 rfl _ rfl (by unfold bareO; go_simp) ?_)
                        obtain ⟨wa, hwa⟩ : ∃ Y, w8.alloc (.cells #[] 5) = Y := ⟨_, rfl⟩
                        have ba : Below w8.heap.size w8 wa := by rw [← hwa]; exact (Below.refl _ _).alloc (Nat.le_refl _) _
                        have Oa : Hid (wa.ownsRow w8.heap.size 5 1 (.slice (some ⟨w8.heap.size, 0, none⟩) 0 0) 0 []) := Lib.hid (by rw [← hwa]; exact ⟨rfl, .inr ⟨w8.heap.size, 0, #[], rfl, Nat.le_refl _, heap_alloc_new _ _, Nat.le_refl _, by unfold maxLen; omega, rfl, rfl⟩⟩)
                        have BA := Lib.hid ba
                        have XA8 := Lib.hid (JJ8.out.x.below ba JJ8.out.base (Nat.le_refl _))
                        have Sa := Lib.hid (⟨(ba.block _ (blt H8.out.1)).trans H8.out.1, (ba.block _ (blt H8.out.2)).trans H8.out.2⟩ : wa.heap[b]? = some (.cells #[.int .u8 mn, .int .u16 ml, .int .u8 pn, .int .u16 pl, .int .i64 ag, .int .u64 nx, .int .u64 wt, vq, .slice kA K.length kc, .bool true] 60 (0, 0)) ∧ wa.heap[W.heap.size]? = some (.cells #[.int .u8 fn, .int .u16 fl, .int .u8 tn, .int .u16 tl, .int .u64 sq, .int .u64 ak, .bool true, .slice XA xl xc] 37 (0, 0)))
                        rw [hwa]
                        refine ⟨Sa.out, ?_⟩
                        clear hwa ba
                        try simp only [Act.put, List.setIfInBounds_toArray, List.set_cons_zero, List.set_cons_succ]
                        refine FirstH.only (i := 10) (by kernel_rfl) (by decide) inv (fun inv => wpOp_appB (i := 10) rfl rfl 121 rfl (.tmp 118) (.tmp 120) rfl w8.heap.size _ 0 [] rfl Oa.out XA xB xl xc base rfl HXX.out.symm (fun e => by have := HA0.out e; simp only [HXX.out] at this; exact this) XA8.out (by have hxl3 : xB.length ≤ 1000000 := HXL.out; omega) BA.out.size ?_)
                        intro bv wb bo gb
                        have bb : Below w8.heap.size w8 wb := BA.out.grown gb BA.out.size fun k hk => (Oa.out.lt k hk).1
                        rw [Nat.zero_add, List.nil_append] at bo
                        obtain ⟨bd, rfl, hbB, bok⟩ := Bd.of_own bo HXL.out
                        have Sb := Lib.hid (⟨(bb.block _ (blt H8.out.1)).trans H8.out.1, (bb.block _ (blt H8.out.2)).trans H8.out.2⟩ : wb.heap[b]? = some (.cells #[.int .u8 mn, .int .u16 ml, .int .u8 pn, .int .u16 pl, .int .i64 ag, .int .u64 nx, .int .u64 wt, vq, .slice kA K.length kc, .bool true] 60 (0, 0)) ∧ wb.heap[W.heap.size]? = some (.cells #[.int .u8 fn, .int .u16 fl, .int .u8 tn, .int .u16 tl, .int .u64 sq, .int .u64 ak, .bool true, .slice XA xl xc] 37 (0, 0)))
                        refine ⟨Sb.out, ?_⟩
                        have OKB := Lib.hid bok
                        have HBB := Lib.hid hbB
                        have BB := Lib.hid bb
                        have hxl2 : bd.B.length = xl := by rw [hbB]; exact HXX.out
                        have HXX2 := Lib.hid hxl2
                        unfold Bd.v
                        rw [hxl2]
                        clear bo gb bb bok hbB hxl2 Oa XA8 BA Sa
                        try simp only [Act.put, List.setIfInBounds_toArray, List.set_cons_zero, List.set_cons_succ]
                        refine FirstH.only (i := 11) (by kernel_rfl) (by decide) inv (fun inv => wpOp_vl (i := 11) (v := .agg #[.int .u64 sq, .slice bd.A xl bd.c]) (w' := wb) rfl rfl 122 rfl _ rfl (by unfold bareO; go_simp) ?_)
                        refine ⟨Sb.out, ?_⟩
                        try simp only [Act.put, List.setIfInBounds_toArray, List.set_cons_zero, List.set_cons_succ]
                        refine FirstH.only (i := 12) (by kernel_rfl) (by decide) inv (fun inv => wpOp_vl (i := 12) (v := .slice (some ⟨wb.heap.size, 0, none⟩) 1 1) (w' := wb.alloc (.cells #[.int .u64 sq, .slice bd.A xl bd.c] 98)) rfl rfl 123 rfl _ rfl (by unfold bareO; go_simp) ?_)
                        obtain ⟨wc, hwc⟩ : ∃ Y, wb.alloc (.cells #[.int .u64 sq, .slice bd.A xl bd.c] 98) = Y := ⟨_, rfl⟩
                        have rc : wc.heap[wb.heap.size]? = some (.cells #[.int .u64 sq, .slice bd.A xl bd.c] 98 (0, 0)) := by rw [← hwc]; exact heap_alloc_new _ _
                        have bc : Below w8.heap.size w8 wc := by rw [← hwc]; exact BB.out.alloc BB.out.size _
                        have bc2 : Below wb.heap.size wb wc := by rw [← hwc]; exact (Below.refl _ _).alloc (Nat.le_refl _) _
                        have OKC := Lib.hid (OKB.out.below bc2)
                        have Jc := Lib.hid (JJ8.out.below bc JJ8.out.base)
                        have RC := Lib.hid rc
                        have Sc' := Lib.hid (⟨(bc.block _ (blt H8.out.1)).trans H8.out.1, (bc.block _ (blt H8.out.2)).trans H8.out.2⟩ : wc.heap[b]? = some (.cells #[.int .u8 mn, .int .u16 ml, .int .u8 pn, .int .u16 pl, .int .i64 ag, .int .u64 nx, .int .u64 wt, vq, .slice kA K.length kc, .bool true] 60 (0, 0)) ∧ wc.heap[W.heap.size]? = some (.cells #[.int .u8 fn, .int .u16 fl, .int .u8 tn, .int .u16 tl, .int .u64 sq, .int .u64 ak, .bool true, .slice XA xl xc] 37 (0, 0)))
                        rw [hwc]
                        refine ⟨Sc'.out, ?_⟩
                        clear hwc rc bc bc2 Sb
                        try simp only [Act.put, List.setIfInBounds_toArray, List.set_cons_zero, List.set_cons_succ]
                        obtain ⟨i0, hi0, hz0, hz1, hz2⟩ := info_parts rkI
                        have krow := Jc.out.dl.krow
                        simp only [hkv] at krow
                        have KROW := Lib.hid krow
                        clear krow
                        refine FirstH.only (i := 13) (by kernel_rfl) (by decide) inv (fun inv => wpOp_any rfl rfl (wp_appO 124 rfl (.tmp 115) (.tmp 123) 58 98 rfl i0 _ 2 32 Try.underlying58 hi0 hz0 hz1 hz2 rfl (by decide) (.slice kA K.length kc) K.length _ rfl KROW.out ⟨wb.heap.size, 0, none⟩ 1 1 [.int .u64 sq, .slice bd.A xl bd.c] rfl rfl (fun j u hu => by rw [addr_add, Nat.zero_add, cell_of_row _ _ j _ _ _ RC.out]; simpa using hu) (by simp [Value.oneCell']) (by decide) (by have := HKF.out; omega) (by decide) ?_))
                        intro v9 w9 O9 g9 f9
                        have k9 : KP (fun k => (Value.slice kA K.length kc).ownBlock = some k) wc w9 := KP.grown g9 fun k hk => hk
                        have hn9 : ∀ (k : Nat) (cu : Array Value) (t : TypeId), wc.heap[k]? = some (.cells cu t (0, 0)) → t ≠ 98 → ¬ ((Value.slice kA K.length kc).ownBlock = some k) := fun k cu t hk ht e => by
                          obtain ⟨c2, h2⟩ := KROW.out.block _ e
                          exact apart_of hk h2 ht rfl
                        refine ⟨⟨(k9.block _ (blt Sc'.out.1) (hn9 _ _ _ Sc'.out.1 (by decide))).trans Sc'.out.1, (k9.block _ (blt Sc'.out.2) (hn9 _ _ _ Sc'.out.2 (by decide))).trans Sc'.out.2⟩, ?_⟩
                        have l9 : w9.heap[b]? = some (.cells #[.int .u8 mn, .int .u16 ml, .int .u8 pn, .int .u16 pl, .int .i64 ag, .int .u64 nx, .int .u64 wt, vq, .slice kA K.length kc, .bool true] 60 (0, 0)) := (k9.block _ (blt Sc'.out.1) (hn9 _ _ _ Sc'.out.1 (by decide))).trans Sc'.out.1
                        obtain ⟨A9, c9, hv9, _, _, _⟩ := O9.slice
                        subst hv9
                        have c8' := cell_of l9 8 (.slice kA K.length kc) rfl
                        have z8' := frz_row 8 l9
                        have L9 := Lib.hid l9
                        have K9 := Lib.hid k9
                        have O9' := Lib.hid O9
                        have F9 := Lib.hid f9
                        clear O9 g9 k9 hn9 l9 f9 hi0 hz0 hz1 hz2
                        try simp only [Act.put, List.setIfInBounds_toArray, List.set_cons_zero, List.set_cons_succ]
                        refine ⟨by kernel_rfl, ?_⟩
                        simp only [List.drop_succ_cons, List.drop_zero]
                        go_wp2
                        go_ret
                        clear inv
                        have hnx : fK K sq = none := fK_out fun y hy => by
                          obtain ⟨j, hj⟩ := List.getElem?_of_mem hy
                          exact HB2.out j y (by have := (List.getElem?_eq_some_iff.1 hj).1; omega) hj
                        have hxp : Kr.p ⟨sq, bd⟩ = (sq, xB) := by unfold Kr.p; rw [HBB.out]
                        unfold HearDR
                        rw [hear_keep HM.out rfl HKW.out HLO.out HHI.out hnx ⟨sq, bd⟩ hxp]
                        have jc := Jc.out
                        have kF : KP (fun k => k = b ∨ (Value.slice kA K.length kc).ownBlock = some k) wc (w9.setCell ⟨b, 8, none⟩ (.slice A9 (K.length + 1) c9)) := (K9.out.mono fun k hk => Or.inr hk).trans (KP.set (S := fun k => k = b) w9 b 8 _ rfl) fun k _ hk => Or.inl hk
                        have hwk : w = .slice kA K.length kc := hkv
                        have uF : ∀ (g' : Nat) (cur : Array Value), wc.heap[g']? = some (.cells cur 5 (0, 0)) → ¬ (g' = b ∨ (Value.slice kA K.length kc).ownBlock = some g') := fun g' cur hg e => jc.dl.u8 g' cur hg (e.elim Or.inl fun e => Or.inr (Or.inr (by rw [hwk]; exact e)))
                        have eF : flat Kr.cs (K ++ [(⟨sq, bd⟩ : Kr)]) = flat Kr.cs K ++ [.int .u64 sq, .slice bd.A xl bd.c] := by
                          rw [flat_append]
                          simp [flat, Kr.cs, HXX2.out]
                        have lF : (K ++ [(⟨sq, bd⟩ : Kr)]).length = K.length + 1 := by simp
                        refine ⟨.slice none 0 0, vq, .slice A9 (K.length + 1) c9, K ++ [⟨sq, bd⟩], [], rfl, World.ownsRow_nil _ _ _ _, fun _ hx => (by cases hx), ⟨jc.dl.hb, jc.dl.hv, fun g' hg => ?_, (row_set L9.out _).trans rfl, jc.dl.row.keepK kF (fun g' hg e => e.elim (fun e => jc.dl.ne_bv g' hg e) fun e => jc.dl.ne_vw g' hg (by rw [hwk]; exact e)), ?_, fun y hy => (jc.dl.okL y hy).keepK kF uF, fun y hy => ?_, jc.dl.few, by rw [lF]; have := HKF.out; omega, jc.dl.nxt, jc.dl.wnt, jc.dl.agn, jc.dl.seqs, jc.dl.ats⟩, rfl, rfl, ?_⟩
                        · rcases F9.out with e | ⟨k, e, hk⟩
                          · exact jc.dl.hw g' (by rw [hwk, ← e]; exact hg)
                          · rw [hg] at e
                            cases e
                            have := jc.base
                            omega
                        · rw [lF, eF]
                          refine O9'.out.keepB fun g' hg => Below.heap_setCell _ _ _ _ ?_
                          obtain ⟨c2, h2⟩ := O9'.out.block g' hg
                          exact apart_of h2 L9.out (by decide)
                        · rcases List.mem_append.1 hy with hy | hy
                          · exact (jc.dl.okK y hy).keepK kF uF
                          · obtain rfl : y = ⟨sq, bd⟩ := by simpa using hy
                            exact OKC.out.keepK kF uF
                        · exact jc.kp.trans kF fun k _ hk => hk.elim Or.inl fun e => Or.inr (Or.inr (by rw [hwk]; exact e))

theorem hearDW (base : Nat) (W : World) (b : Nat) (v w : Value) (s : Sc) (L : List Ls) (K : List Kr) (h : DL base W b v w s L K) (p : Hp) (XA : Option Addr) (xc : Nat) (hx : BytesAt W base XA p.B) (hxl : p.B.length ≤ 1000000) (hA0 : XA = none → p.B.length = 0 ∧ xc = 0) (hq : p.seq ≤ 18446744073709551615) (hKW : KW s.want K) (hKf : K.length < 900) :
    Calls Try.prog 21 #[.pointer (some ⟨b, 0, none⟩), .agg (p.cs XA xc)] W fun e W' => HearDR base W b v w s L K p e W' := by
  by_cases h1 : p.fn = s.pn ∧ p.fl = s.pl
  · by_cases h2 : p.tn = s.mn ∧ p.tl = s.ml
    · exact hearD_mine base W b v w s L K h p XA xc hx hxl hA0 ⟨h1.1, h1.2, h2.1, h2.2⟩ hq hKW hKf
    · exact hearD_to base W b v w s L K h p XA xc hx hxl hA0 ⟨h1, h2⟩ hq hKW hKf
  · exact hearD_from base W b v w s L K h p XA xc hx hxl hA0 h1 hq hKW hKf

end Go.Proofs.Ytgnfclikdfllnaa
