/-
  The law PactProposes walked: it answers true. Condition: the view and the acts lie in memory; numbers fit their kinds.
-/
import Derived.Test.YtmhgopaekpnhoaaGdy
import Derived.Deep.MidRow
import Derived.LoopN
namespace Go.Proofs.Ytmhgopaekpnhoaa
set_option linter.unusedSimpArgs false
set_option linter.unusedVariables false
open Go.RowKit Go.Maps Go.Sort
open V (P2)

theorem rPromise (W : World) (B b : Nat) (d : Pd) (r : Rw) (h : DQ W B b d r) (x : P2) (TA : Option Addr) (T : List Le) (tc : Nat) (hT : RowsE W B TA T) (hTl : T.length ≤ tc) (hTm : tc ≤ maxLen) (hT1 : T.length ≤ 1000) (acc : Int) (y : Vl) (hy : y.At W B) (has : Bool) :
    Calls Try.prog 29 #[.pointer (some ⟨b, 0, none⟩), .agg #[.int .u8 x.n, .int .u16 x.l], .slice TA T.length tc, .int .u64 acc, .agg y.cs, .bool has] W fun e W' => EndQ W B b (d.promise x (T.map Le.v) acc y.d has) r (.returned (.tuple #[])) e W' := by
  cases hc : (decide (d.ph = 0) && d.cnt x) with
  | true => exact rPromiseYes W B b d r h x TA T tc hT hTl hTm hT1 acc y hy has hc
  | false => exact (rPromiseNo W B b d r h x _ acc y hy has hc).mono fun e W' g => ⟨g.1, r, by rw [Pd.prom_no hc]; exact g.2.1, g.2.2⟩
theorem rAccepted (W : World) (B b : Nat) (d : Pd) (r : Rw) (h : DQ W B b d r) (x : P2) :
    Calls Try.prog 34 #[.pointer (some ⟨b, 0, none⟩), .agg #[.int .u8 x.n, .int .u16 x.l]] W fun e W' => EndQ W B b (d.accepted x) r (.returned (.bool (decide ((d.accepted x).ph = 2)))) e W' := by
  cases hc : (decide (d.ph = 1) && d.cnt x) with
  | true =>
    obtain ⟨h1, h2⟩ : d.ph = 1 ∧ d.cnt x = true := by simpa using hc
    refine (rAcceptedYes W B b d r h x hc).mono fun e W' g => ⟨g.1.trans (ret_bool ?_), g.2⟩
    cases hn : (d.add x).enough with
    | true => rw [Pd.acc_yes h1 h2 hn]; rfl
    | false =>
      rw [Pd.acc_few h1 h2 hn]
      show false = decide (d.ph = 2)
      rw [h1]
      rfl
  | false => exact (rAcceptedNo W B b d r h x hc).mono fun e W' g => by rw [Pd.acc_none hc]; exact g
/-- at one world, the document's rows named. -/
structure JX (base : Nat) (W0 W : World) (bp m bd : Nat) (p q : Pd) (r : Rw) : Prop where
  a : PP base W bp m p
  r : DQ W base bd q r
  low : Below base W0 W
theorem JX.below {base : Nat} {W0 W W' : World} {bp m bd : Nat} {p q : Pd} {r : Rw} (h : JX base W0 W bp m bd p q r) (hb : Below W.heap.size W W') : JX base W0 W' bp m bd p q r :=
  ⟨h.a.below hb, h.r.below hb, h.low.trans (hb.mono (Nat.le_trans h.r.hb (Nat.le_of_lt h.r.lt)))⟩
theorem JH.other {base : Nat} {W0 W : World} {bp m bd kx : Nat} {p q : Pd} {r : Rw} {cs : Array Value} {t : TypeId} (hr : DQ W base bd q r) (hx : W.heap[kx]? = some (.cells cs t (0, 0))) (ht : t ≠ 80) (ht2 : t ≠ 38) : ¬ FR bd r kx := hr.free hx (apart_of hx hr.blk ht) ht2
theorem JP.freeP {base : Nat} {W0 W : World} {bp m bd kx : Nat} {p q : Pd} {cs : Array Value} {t : TypeId} (h : JP base W0 W bp m bd p q) (hx : W.heap[kx]? = some (.cells cs t (0, 0))) (ht : t ≠ 107) (ht2 : t ≠ 80) : ¬ FP bp m kx := by
  obtain ⟨h1, h2, _⟩ := h.other hx ht ht2
  rintro (e | e)
  · exact h1 e
  · exact h2 e

theorem KeepsO.of_FR {W W' : World} {B bd : Nat} {q : Pd} {r : Rw} (hq : DQ W B bd q r) (k : KP (FR bd r) W W') : KeepsO W W' := fun g cur t hg ht h38 =>
  (k.block g (heap_lt hg) (hq.free hg (apart_of hg hq.blk fun e => by rw [e] at ht; revert ht; simp [Ty]) h38)).trans hg
theorem PP.lower {base base' : Nat} {W : World} {b m : Nat} {d : Pd} (h : PP base W b m d) (hb : base' ≤ base) : PP base' W b m d := by
  obtain ⟨w, h⟩ := h
  exact ⟨w, Nat.le_trans hb h.hb, Nat.le_trans hb h.hm, h.blk, h.ct, h.mem, h.lg, h.lgd, h.lgl, h.hv, h.hvd, h.vl, h.vld, h.right, h.cin⟩
set_option maxRecDepth 100000 in
set_option maxHeartbeats 20000000 in
theorem walkPPro (vg vN bb : Int) (VA_ : Option Addr) (M : List P2) (vc : Nat) (A : Option Addr) (L : List Ax) (c : Nat) (W : World) (hvr : V.RowsV W W.heap.size VA_ M) (hM4 : M.length * 4 ≤ 140737488355328) (hvc : M.length ≤ vc) (hvm : vc ≤ maxLen) (hrg : ∀ x ∈ M, Rg2 x) (hr : RowsA W W.heap.size A L) (hc : L.length ≤ c) (hm : c ≤ maxLen) :
    Calls Try.prog 4 #[.agg #[.int .u8 vg, .int .u32 vN, .slice VA_ M.length vc], .int .u64 bb, .slice A L.length c] W fun e W' => e = .returned (.bool true) ∧ Below W.heap.size W W' := by
  obtain ⟨base, hbase⟩ : ∃ x, W.heap.size = x := ⟨_, rfl⟩
  obtain ⟨n, hn⟩ : ∃ n, L.length = n := ⟨_, rfl⟩
  obtain ⟨nM, hnM⟩ : ∃ n, M.length = n := ⟨_, rfl⟩
  obtain ⟨w0, hw0⟩ : ∃ z, W.alloc (.cells #[.int .u8 vg, .int .u32 vN, .slice VA_ nM vc] 58) = z := ⟨_, rfl⟩
  have b0 : Below base W w0 := by rw [← hw0, ← hbase]; exact (Below.refl _ _).alloc (Nat.le_refl _) _
  have rv0 : w0.heap[base]? = some (.cells #[.int .u8 vg, .int .u32 vN, .slice VA_ nM vc] 58 (0, 0)) := by rw [← hw0, ← hbase]; exact heap_alloc_new _ _
  have KL := Lib.hid (lightA A L c w0 (hr.below b0 (Nat.le_of_eq hbase) b0.size) hc hm)
  have KK := Lib.hid (fun w => knowsC w)
  have HR := Lib.hid hr
  have HVR := Lib.hid hvr
  have HRG := Lib.hid hrg
  have HVC : Hid (M.length ≤ vc ∧ vc ≤ maxLen ∧ M.length * 4 ≤ 140737488355328) := Lib.hid ⟨hvc, hvm, hM4⟩
  rw [hn] at KL ⊢
  rw [hnM]
  have HN := Lib.hid hn
  have HNM := Lib.hid hnM
  have HSZ : Hid (base = W.heap.size) := Lib.hid hbase.symm
  have HW0 := Lib.hid hw0
  have B0 := Lib.hid b0
  have RV0 := Lib.hid rv0
  have HS0 : Hid (base ≤ w0.heap.size) := Lib.hid (by rw [← hbase]; exact b0.size)
  have hn2 : n ≤ 9223372036854775807 := by unfold maxLen at hm; omega
  have hM2 : nM ≤ 9223372036854775807 := by unfold maxLen at hvm; omega
  have HBW := Lib.hid hbase
  clear hr hn hc hm hvr hrg hM4 hvc hvm hnM hw0 b0 rv0
  rw [hbase]
  clear hbase
  go_enter Try.func4, Try.ntmps4
  go_wp2_with (first
    | (rw [HW0.out, HBW.out])
    | fail)
  refine KL.out.mono ?_
  rintro e w1 ⟨⟨bo, rfl, hbo⟩, b1⟩
  have B1 := Lib.hid (B0.out.trans (b1.mono HS0.out))
  have HU1 : Hid (base ≤ w1.heap.size) := Lib.hid (Nat.le_trans HS0.out b1.size)
  have RV1 := Lib.hid ((b1.block base (heap_lt RV0.out)).trans RV0.out)
  have v2 := cell_of RV1.out 2 (.slice VA_ nM vc) rfl
  have HBO := Lib.hid hbo
  clear hbo b1
  cases bo with
  | false =>
    go_wp2_with fail
    refine (KK.out _).mono ?_
    rintro e w4 ⟨rfl, b4⟩
    have B4 := Lib.hid (B1.out.trans (b4.mono HU1.out))
    clear b4
    go_wp2_with fail
    go_ret
    exact ⟨rfl, B4.out⟩
  | true =>
    have HF := Lib.hid (HBO.out rfl).2
    clear HBO
    by_cases h20 : nM ≤ 20
    · have h20i : ¬ (20 : Int) < (nM : Int) := by omega
      have h20d : decide ((20 : Int) < (nM : Int)) = false := decide_eq_false h20i
      go_wp2_with fail
      refine (KK.out _).mono ?_
      rintro e w2 ⟨rfl, b2⟩
      have B2 := Lib.hid (B1.out.trans (b2.mono HU1.out))
      have HU2 : Hid (base ≤ w2.heap.size) := Lib.hid (Nat.le_trans HU1.out b2.size)
      have RV2 := Lib.hid ((b2.block base (heap_lt RV1.out)).trans RV1.out)
      have s0 := cell_of RV2.out 0 (.int .u8 vg) rfl
      have s1 := cell_of RV2.out 1 (.int .u32 vN) rfl
      have s2 := cell_of RV2.out 2 (.slice VA_ nM vc) rfl
      have KOV := Lib.hid (ownV vg vN VA_ M vc w2 (HVR.out.below (HSZ.out ▸ B2.out) (Nat.le_refl _) (HSZ.out ▸ HU2.out)) HVC.out.2.2 HVC.out.1 HVC.out.2.1)
      rw [HNM.out] at KOV
      clear b2 v2
      go_wp2_with fail
      refine KOV.out.mono ?_
      rintro e w3 ⟨A', c', rfl, ov3, b3⟩
      have B3 := Lib.hid (B2.out.trans (b3.mono HU2.out))
      have HU3 : Hid (base ≤ w3.heap.size) := Lib.hid (Nat.le_trans HU2.out b3.size)
      have RV3 := Lib.hid ((b3.block base (heap_lt RV2.out)).trans RV2.out)
      rw [← HNM.out] at ov3
      obtain ⟨A5, c5, e5, hr5, hl5, hm5⟩ := V.rowsV_of_own ov3
      cases e5
      obtain ⟨vr, hvr⟩ : ∃ z, (V.vR vg vN M && decide (bb ≠ 0)) = z := ⟨_, rfl⟩
      cases vr with
      | false =>
        have hno : V.vR vg vN M = false ∨ bb = 0 := by
          simp only [Bool.and_eq_false_iff, decide_eq_false_iff_not] at hvr
          rcases hvr with h | h
          · exact .inl h
          · exact .inr (Classical.byContradiction h)
        have KP1 := Lib.hid (pStartNo vg vN bb A' M c' w3 hr5 hl5 hm5 hno)
        have HNO := Lib.hid hno
        rw [HNM.out] at KP1
        clear b3 ov3 hr5 hl5 hm5 hno hvr s0 s1 s2
        go_wp2_with fail
        refine KP1.out.mono ?_
        rintro e w4 ⟨rfl, b4⟩
        have B4 := Lib.hid (B3.out.trans (b4.mono HU3.out))
        have HU4 : Hid (base ≤ w4.heap.size) := Lib.hid (Nat.le_trans HU3.out b4.size)
        have rv4 := (b4.block base (heap_lt RV3.out)).trans RV3.out
        have s0 := cell_of rv4 0 (.int .u8 vg) rfl
        have s1 := cell_of rv4 1 (.int .u32 vN) rfl
        have s2 := cell_of rv4 2 (.slice VA_ nM vc) rfl
        have KR1 := Lib.hid (rStartNo w4 base HU4.out vg vN VA_ M vc (HSZ.out ▸ HVR.out.below (HSZ.out ▸ B4.out) (Nat.le_refl _) (Nat.le_refl _)) HVC.out.1 HVC.out.2.1 bb HNO.out)
        rw [HNM.out] at KR1
        clear b4 rv4
        go_wp2_with fail
        refine KR1.out.mono ?_
        rintro e w5 ⟨rfl, b5⟩
        have B5 := Lib.hid (B4.out.trans (b5.mono HU4.out))
        clear b5 s0 s1 s2
        go_wp2_with fail
        go_loopw [9] (fun z wx => z = .int .i64 0 ∧ Hid (Below base W wx)) (fun z _ => 0)
        case atStart => exact ⟨rfl, B5⟩
        case round =>
          obtain ⟨rfl, BR⟩ := hrel
          by_cases h0n : n = 0
          · subst h0n
            go_wp2_with fail
            go_ret
            exact ⟨rfl, BR.out⟩
          · have h0i : (0 : Int) < (n : Int) := by omega
            go_wp2_with fail
            go_ret
            exact ⟨rfl, BR.out⟩
      | true =>
        obtain ⟨hv1, hv2⟩ : V.vR vg vN M = true ∧ bb ≠ 0 := by simpa using hvr
        have KP1 := Lib.hid (pStartYes vg vN bb A' M c' w3 hr5 hl5 hm5 hv1 hv2)
        have HV1 := Lib.hid hv1
        have HV2 := Lib.hid hv2
        rw [HNM.out] at KP1
        clear b3 ov3 hr5 hl5 hm5 hvr hv1 hv2 s0 s1 s2
        go_wp2_with fail
        refine KP1.out.mono ?_
        rintro e w4 ⟨bp, rfl, m, hpp, b4⟩
        have B4 := Lib.hid (B3.out.trans (b4.mono HU3.out))
        have HU4 : Hid (base ≤ w4.heap.size) := Lib.hid (Nat.le_trans HU3.out b4.size)
        have rv4 := (b4.block base (heap_lt RV3.out)).trans RV3.out
        have s0 := cell_of rv4 0 (.int .u8 vg) rfl
        have s1 := cell_of rv4 1 (.int .u32 vN) rfl
        have s2 := cell_of rv4 2 (.slice VA_ nM vc) rfl
        have KR1 := Lib.hid (rStartYes w4 base HU4.out vg vN VA_ M vc (HSZ.out ▸ HVR.out.below (HSZ.out ▸ B4.out) (Nat.le_refl _) (Nat.le_refl _)) HVC.out.1 HVC.out.2.1 bb HV1.out HV2.out)
        rw [HNM.out] at KR1
        have HPP : Hid (PP base w4 bp m (Pd.init vg vN M bb)) := Lib.hid (hpp.lower HU3.out)
        clear b4 rv4 hpp
        go_wp2_with fail
        refine KR1.out.mono ?_
        rintro e w5 ⟨bd, rfl, hbd, hdq, b5⟩
        have JJ : Hid (JP base W w5 bp m bd (Pd.init vg vN M bb) (Pd.init vg vN M bb)) := Lib.hid ⟨HPP.out.below b5, ⟨_, hdq⟩, Lk.refl _, HRG.out, B4.out.trans (b5.mono HU4.out)⟩
        clear b5 s0 s1 s2 hbd hdq
        go_wp2_with fail
        go_loopw [9] (fun z wx => ∃ k : Nat, k ≤ n ∧ z = .int .i64 k ∧ ∃ p q, Hid (JP base W wx bp m bd p q)) (fun z _ => n - (intOf z).toNat)
        case atStart => exact ⟨0, by omega, rfl, _, _, JJ⟩
        case round =>
          obtain ⟨k, hk, rfl, p, q, J0⟩ := hrel
          obtain ⟨u, hu⟩ : ∃ z : World, z = wr := ⟨_, rfl⟩
          subst hu
          clear JJ
          by_cases hkn : k < n
          · have HKN := Lib.hid hkn
            have hk1 : (k : Int) < (n : Int) := by omega
            have hk0 : (0 : Int) ≤ (k : Int) := by omega
            have hkL : k < L.length := by rw [HN.out]; exact hkn
            obtain ⟨g, o, rfl⟩ := HR.out.plc hkL
            obtain ⟨a, hx⟩ : ∃ e, L[k]? = some e := ⟨_, List.getElem?_eq_getElem hkL⟩
            have hfa := HF.out a (List.mem_of_getElem? hx)
            have bW : Below W.heap.size W u := by rw [← HSZ.out]; exact J0.out.low
            have hrr := (HR.out.below bW (Nat.le_refl _) bW.size).at_ hx
            have hrW := HR.out.at_ hx
            obtain ⟨kd, ab, ap, TA, T, tc, ⟨xm, X, xt, VL⟩, has⟩ := a
            obtain ⟨MA, mc, e1, mr, ml, mm⟩ := hrW.2.v.m
            obtain ⟨LA, lc, e2, lr, ll, lm⟩ := hrW.2.v.t
            dsimp only at e1 e2
            subst e1 e2
            have HX20 : Hid (X.length ≤ 20) := Lib.hid hfa.1
            have HT10 : Hid (T.length ≤ 10) := Lib.hid hfa.2.1
            have hL10 : VL.length ≤ 10 := hfa.2.2
            have RGA := Lib.hid hrW.2.rg
            have HTT : Hid (∀ v, Below base W v → RowsE v base TA T) := Lib.hid (fun v hv => by
              have := hrW.2.t.below (HSZ.out ▸ hv) (Nat.le_refl _) (Nat.le_refl _)
              rw [← HSZ.out] at this
              exact this)
            have HMM : Hid (∀ v, Below base W v → V.RowsV v base MA X) := Lib.hid (fun v hv => by
              have := mr.below (HSZ.out ▸ hv) (Nat.le_refl _) (Nat.le_refl _)
              rw [← HSZ.out] at this
              exact this)
            have KOT0 : Hid (∀ v, Below base W v → Calls Try.prog 28 #[.slice TA T.length tc] v fun e w' => ∃ tv TL, e = .returned tv ∧ TL.map Le.v = T.map Le.v ∧ EnO w' tv TL ∧ Below v.heap.size v w') := Lib.hid (fun v hv => by
              have hsz : base ≤ v.heap.size := HSZ.out ▸ hv.size
              refine (ownsE TA T tc v ((HTT.out v hv).below (Below.refl v.heap.size v) hsz hsz) (by have := HT10.out; omega) hrW.2.tl hrW.2.tm).mono ?_
              rintro e w' ⟨tv, TL, rfl, h1, h2, h3, h4⟩
              exact ⟨tv, TL, rfl, h1, EnO.of_owns (by rw [show TL.length = T.length by have := congrArg List.length h1; simpa using this]; exact h2) h3, h4⟩)
            have KPRs0 : Hid (∀ v, Below base W v → Calls Try.prog 31 #[.slice MA X.length mc] v fun e w' => ∃ wv, e = .returned wv ∧ w'.ownsRow v.heap.size 67 2 wv X.length (V.cellsV X) ∧ Below v.heap.size v w') := Lib.hid (fun v hv => by
              have hsz : base ≤ v.heap.size := HSZ.out ▸ hv.size
              exact V.procs MA X mc v ((HMM.out v hv).below (Below.refl v.heap.size v) hsz hsz) (by have := HX20.out; omega) ml mm)
            have HAX0 : Hid (∀ v, Below base W v → Vl.At ⟨.slice MA X.length mc, X, .slice LA VL.length lc, VL⟩ v base) := Lib.hid (fun v hv => by
              have := (hrW.2.v.at_ (show X.length ≤ 1000 by have := HX20.out; omega) (show VL.length ≤ 1000 by omega)).below (HSZ.out ▸ hv) (Nat.le_refl _) (Nat.le_refl _)
              rw [← HSZ.out] at this
              exact this)
            have KOW0 : Hid (∀ v, Below base W v → Calls Try.prog 14 #[.agg #[.slice MA X.length mc, .slice LA VL.length lc]] v fun r w' => ∃ x' : Vl, r = .returned (.agg x'.cs) ∧ x'.Ok w' ∧ x'.d = Vl.d ⟨.slice MA X.length mc, X, .slice LA VL.length lc, VL⟩ ∧ Below v.heap.size v w') := Lib.hid (fun v hv => ownVal ⟨.slice MA X.length mc, X, .slice LA VL.length lc, VL⟩ v ((HAX0.out v hv).below (Below.refl v.heap.size v) (HSZ.out ▸ hv.size) (HSZ.out ▸ hv.size)))
            obtain ⟨ax, hax⟩ : ∃ z, (⟨.slice MA X.length mc, X, .slice LA VL.length lc, VL⟩ : Vl) = z := ⟨_, rfl⟩
            have HAXC0 : ax.cs = #[.slice MA X.length mc, .slice LA VL.length lc] := by rw [← hax]; rfl
            rw [hax] at HAX0 KOW0
            have HTC0 : T.length ≤ tc ∧ tc ≤ maxLen := ⟨hrW.2.tl, hrW.2.tm⟩
            have HMC0 : X.length ≤ mc ∧ mc ≤ maxLen := ⟨ml, mm⟩
            obtain ⟨nT, hnT⟩ : ∃ z, T.length = z := ⟨_, rfl⟩
            obtain ⟨nX, hnX⟩ : ∃ z, X.length = z := ⟨_, rfl⟩
            obtain ⟨nL, hnL⟩ : ∃ z, VL.length = z := ⟨_, rfl⟩
            rw [hnX, hnL] at KOW0 HAXC0
            rw [hnX] at HMC0 KPRs0
            rw [hnT] at HTC0 KOT0
            have HAX := HAX0
            have KOW := KOW0
            have KOT := KOT0
            have KPRs := KPRs0
            have HAXC := Lib.hid HAXC0
            have HTC := Lib.hid HTC0
            have HMC := Lib.hid HMC0
            have HNT := Lib.hid hnT
            have HNX := Lib.hid hnX
            obtain ⟨cs, hcs⟩ : ∃ z, (#[.int .i64 kd, .int .u64 ab, .int .u8 ap.n, .int .u16 ap.l, .slice TA nT tc, .slice MA nX mc, .slice LA nL lc, .bool has] : Array Value) = z := ⟨_, rfl⟩
            have HC : Hid (u.rangeAt g (o + k * 8) cs.toList) := Lib.hid (by
              rw [← hcs, ← hnT, ← hnX, ← hnL]
              intro j v hj
              exact hrr.1 j v (by rw [← Array.getElem?_toList]; exact hj))
            have hlen : cs.toList.length = 8 := by rw [← hcs]; rfl
            have hsz : cs.size = 8 := by rw [← hcs]; rfl
            have HSZ2 : Hid ((Try.prog.info? 40).map (·.size) = some cs.toList.length) := Lib.hid (by rw [hlen]; kernel_rfl)
            have HSZ3 : Hid ((Try.prog.info? 40).map (·.size) = some cs.size) := Lib.hid (by rw [hsz]; kernel_rfl)
            have HOLD : Hid ((#[.int .i64 0, .int .u64 0, .int .u8 0, .int .u16 0, .slice none 0 0, .slice none 0 0, .slice none 0 0, .bool false] : Array Value).size = cs.size) := Lib.hid (by rw [hsz]; rfl)
            have HOB : Hid (cs.all (·.oneCell') = true) := Lib.hid (by rw [← hcs]; simp [Value.oneCell'])
            obtain ⟨kx, hkx⟩ : ∃ z, u.heap.size = z := ⟨_, rfl⟩
            obtain ⟨ua, hua⟩ : ∃ z, u.alloc (.cells #[.int .i64 0, .int .u64 0, .int .u8 0, .int .u16 0, .slice none 0 0, .slice none 0 0, .slice none 0 0, .bool false] 40) = z := ⟨_, rfl⟩
            have ra : ua.heap[kx]? = some (.cells #[.int .i64 0, .int .u64 0, .int .u8 0, .int .u16 0, .slice none 0 0, .slice none 0 0, .slice none 0 0, .bool false] 40 (0, 0)) := by rw [← hua, ← hkx]; exact heap_alloc_new _ _
            obtain ⟨ub, hub⟩ : ∃ z, ua.setRow kx cs = z := ⟨_, rfl⟩
            have rb : ub.heap[kx]? = some (.cells cs 40 (0, 0)) := by rw [← hub]; exact setRow_heapG _ _ _ _ _ _ ra
            have bub : Below u.heap.size u ub := by
              rw [← hub, ← hua, ← hkx]
              exact ((Below.refl _ _).alloc (Nat.le_refl _) _).trans ⟨rfl, rfl, rfl, by simp [World.setRow], fun k hk => setRow_other _ u.heap.size k _ (by omega)⟩
            have JB0 := Lib.hid (J0.out.below bub)
            have RX : Hid (ub.heap[kx]? = some (.cells #[.int .i64 kd, .int .u64 ab, .int .u8 ap.n, .int .u16 ap.l, .slice TA nT tc, .slice MA nX mc, .slice LA nL lc, .bool has] 40 (0, 0))) := Lib.hid (by rw [hcs]; exact rb)
            have c0 := cell_of (hcs ▸ rb : ub.heap[kx]? = some (.cells #[.int .i64 kd, .int .u64 ab, .int .u8 ap.n, .int .u16 ap.l, .slice TA nT tc, .slice MA nX mc, .slice LA nL lc, .bool has] 40 (0, 0))) 0 (.int .i64 kd) rfl
            have HUA := Lib.hid hua
            have HUB := Lib.hid hub
            have HKX := Lib.hid hkx
            have RA := Lib.hid ra
            have b02 : kd = 2 ∨ kd ≠ 2 := Classical.em _
            have b03 : kd = 3 ∨ kd ≠ 3 := Classical.em _
            have b04 : kd = 4 ∨ kd ≠ 4 := Classical.em _
            clear hx hkn hkL bW hrr hrW mr ml mm lr ll lm hL10 hfa hax HAXC0 HTC0 HMC0 hnT hnX hnL hcs hlen hsz hkx hua ra hub rb bub HAX0 KOW0 KOT0 KPRs0 h20i h20d
            rcases b02 with e2 | e2
            · have k2 : (kd == 2) = true := by simpa using e2
              clear b03 b04 e2
              as_aux_lemma =>
              skip
              go_wp2_with (first
                | (refine wpList_load_mid rfl 40 (.tmp 54) rfl g (o + k * 8) (by rfl) cs.toList _ HC.out Try.underlying40 rfl HSZ2.out ?_)
                | (rw [HUA.out, HKX.out])
                | (refine wpList_store_row rfl 40 (.tmp 10) (.tmp 55) rfl kx cs (by rfl) (by rfl) 40 #[.int .i64 0, .int .u64 0, .int .u8 0, .int .u16 0, .slice none 0 0, .slice none 0 0, .slice none 0 0, .bool false] RA.out HSZ3.out HOLD.out HOB.out ?_; rw [HUB.out])
                | fail)
              go_wp2_with fail
              refine region_heldT (S := fun v => v.heap[kx]? = some (.cells #[.int .i64 kd, .int .u64 ab, .int .u8 ap.n, .int .u16 ap.l, .slice TA nT tc, .slice MA nX mc, .slice LA nL lc, .bool has] 40 (0, 0))) 14 (by kernel_rfl) (by decide) (fun inv => ?_)
              have HS : ub.drew.heap[kx]? = some (.cells #[.int .i64 kd, .int .u64 ab, .int .u8 ap.n, .int .u16 ap.l, .slice TA nT tc, .slice MA nX mc, .slice LA nL lc, .bool has] 40 (0, 0)) := RX.out
              have JB := Lib.hid (JB0.out.below (Below.refl _ _).drew)
              change FirstH _ _ _ _ _ _ _ _ _ _ ub.drew
              generalize ub.drew = uc at *
              refine FirstH.go (i := 0) (v := .pointer (some ⟨bp, 0, none⟩)) rfl rfl 60 rfl (Op.move (.tmp 7)) rfl (by kernel_rfl) (fun _ _ _ h => h) inv (fun W hS => by unfold bareO; go_simp) HS (fun inv => ?_)
              try simp only [Act.put, List.setIfInBounds_toArray, List.set_cons_zero, List.set_cons_succ]
              refine FirstH.go (i := 1) (v := .pointer (some ⟨kx, 2, none⟩)) rfl rfl 61 rfl (Op.fieldAddr 40 (.tmp 10) 2) rfl (by kernel_rfl) (fun _ _ _ h => h) inv (fun W hS => by unfold bareO; go_simp) HS (fun inv => ?_)
              try simp only [Act.put, List.setIfInBounds_toArray, List.set_cons_zero, List.set_cons_succ]
              refine FirstH.go (i := 2) (v := .agg #[.int .u8 ap.n, .int .u16 ap.l]) rfl rfl 62 rfl (Op.load 38 (.tmp 61)) rfl (by kernel_rfl) (fun _ _ _ h => h) inv (fun W hS => by have q0 := cell_of hS 0 (.int .i64 kd) rfl; have q1 := cell_of hS 1 (.int .u64 ab) rfl; have q2 := cell_of hS 2 (.int .u8 ap.n) rfl; have q3 := cell_of hS 3 (.int .u16 ap.l) rfl; have q4 := cell_of hS 4 (.slice TA nT tc) rfl; have q5 := cell_of hS 5 (.slice MA nX mc) rfl; have q6 := cell_of hS 6 (.slice LA nL lc) rfl; have q7 := cell_of hS 7 (.bool has) rfl; unfold bareO; go_simp) HS (fun inv => ?_)
              try simp only [Act.put, List.setIfInBounds_toArray, List.set_cons_zero, List.set_cons_succ]
              refine FirstH.go (i := 4) (v := .pointer (some ⟨kx, 4, none⟩)) rfl rfl 64 rfl (Op.fieldAddr 40 (.tmp 10) 3) rfl (by kernel_rfl) (fun _ _ _ h => h) inv (fun W hS => by unfold bareO; go_simp) HS (fun inv => ?_)
              try simp only [Act.put, List.setIfInBounds_toArray, List.set_cons_zero, List.set_cons_succ]
              refine FirstH.go (i := 5) (v := .slice TA nT tc) rfl rfl 65 rfl (Op.load 31 (.tmp 64)) rfl (by kernel_rfl) (fun _ _ _ h => h) inv (fun W hS => by have q0 := cell_of hS 0 (.int .i64 kd) rfl; have q1 := cell_of hS 1 (.int .u64 ab) rfl; have q2 := cell_of hS 2 (.int .u8 ap.n) rfl; have q3 := cell_of hS 3 (.int .u16 ap.l) rfl; have q4 := cell_of hS 4 (.slice TA nT tc) rfl; have q5 := cell_of hS 5 (.slice MA nX mc) rfl; have q6 := cell_of hS 6 (.slice LA nL lc) rfl; have q7 := cell_of hS 7 (.bool has) rfl; unfold bareO; go_simp) HS (fun inv => ?_)
              try simp only [Act.put, List.setIfInBounds_toArray, List.set_cons_zero, List.set_cons_succ]
              refine FirstH.go (i := 7) (v := .pointer (some ⟨kx, 1, none⟩)) rfl rfl 67 rfl (Op.fieldAddr 40 (.tmp 10) 1) rfl (by kernel_rfl) (fun _ _ _ h => h) inv (fun W hS => by unfold bareO; go_simp) HS (fun inv => ?_)
              try simp only [Act.put, List.setIfInBounds_toArray, List.set_cons_zero, List.set_cons_succ]
              refine FirstH.go (i := 8) (v := .int .u64 ab) rfl rfl 68 rfl (Op.load 29 (.tmp 67)) rfl (by kernel_rfl) (fun _ _ _ h => h) inv (fun W hS => by have q0 := cell_of hS 0 (.int .i64 kd) rfl; have q1 := cell_of hS 1 (.int .u64 ab) rfl; have q2 := cell_of hS 2 (.int .u8 ap.n) rfl; have q3 := cell_of hS 3 (.int .u16 ap.l) rfl; have q4 := cell_of hS 4 (.slice TA nT tc) rfl; have q5 := cell_of hS 5 (.slice MA nX mc) rfl; have q6 := cell_of hS 6 (.slice LA nL lc) rfl; have q7 := cell_of hS 7 (.bool has) rfl; unfold bareO; go_simp) HS (fun inv => ?_)
              try simp only [Act.put, List.setIfInBounds_toArray, List.set_cons_zero, List.set_cons_succ]
              refine FirstH.go (i := 9) (v := .pointer (some ⟨kx, 5, none⟩)) rfl rfl 69 rfl (Op.fieldAddr 40 (.tmp 10) 4) rfl (by kernel_rfl) (fun _ _ _ h => h) inv (fun W hS => by unfold bareO; go_simp) HS (fun inv => ?_)
              try simp only [Act.put, List.setIfInBounds_toArray, List.set_cons_zero, List.set_cons_succ]
              refine FirstH.go (i := 10) (v := .agg #[.slice MA nX mc, .slice LA nL lc]) rfl rfl 70 rfl (Op.load 33 (.tmp 69)) rfl (by kernel_rfl) (fun _ _ _ h => h) inv (fun W hS => by have q0 := cell_of hS 0 (.int .i64 kd) rfl; have q1 := cell_of hS 1 (.int .u64 ab) rfl; have q2 := cell_of hS 2 (.int .u8 ap.n) rfl; have q3 := cell_of hS 3 (.int .u16 ap.l) rfl; have q4 := cell_of hS 4 (.slice TA nT tc) rfl; have q5 := cell_of hS 5 (.slice MA nX mc) rfl; have q6 := cell_of hS 6 (.slice LA nL lc) rfl; have q7 := cell_of hS 7 (.bool has) rfl; unfold bareO; go_simp) HS (fun inv => ?_)
              try simp only [Act.put, List.setIfInBounds_toArray, List.set_cons_zero, List.set_cons_succ]
              refine FirstH.go (i := 12) (v := .pointer (some ⟨kx, 7, none⟩)) rfl rfl 72 rfl (Op.fieldAddr 40 (.tmp 10) 5) rfl (by kernel_rfl) (fun _ _ _ h => h) inv (fun W hS => by unfold bareO; go_simp) HS (fun inv => ?_)
              try simp only [Act.put, List.setIfInBounds_toArray, List.set_cons_zero, List.set_cons_succ]
              refine FirstH.go (i := 13) (v := .bool has) rfl rfl 73 rfl (Op.load 4 (.tmp 72)) rfl (by kernel_rfl) (fun _ _ _ h => h) inv (fun W hS => by have q0 := cell_of hS 0 (.int .i64 kd) rfl; have q1 := cell_of hS 1 (.int .u64 ab) rfl; have q2 := cell_of hS 2 (.int .u8 ap.n) rfl; have q3 := cell_of hS 3 (.int .u16 ap.l) rfl; have q4 := cell_of hS 4 (.slice TA nT tc) rfl; have q5 := cell_of hS 5 (.slice MA nX mc) rfl; have q6 := cell_of hS 6 (.slice LA nL lc) rfl; have q7 := cell_of hS 7 (.bool has) rfl; unfold bareO; go_simp) HS (fun inv => ?_)
              try simp only [Act.put, List.setIfInBounds_toArray, List.set_cons_zero, List.set_cons_succ]
              refine FirstH.only (i := 3) (by kernel_rfl) (by decide) inv (fun inv => wpOp_call (i := 3) rfl rfl 63 rfl (Op.call { callee := .value (.func 27), args := #[.tmp 62], argTypes := #[38] }) rfl 27 #[.agg #[.int .u8 ap.n, .int .u16 ap.l]] (by unfold bareO; go_simp) (proc3 ap uc) ?_)
              rintro e ud ⟨rfl, bd1⟩
              have JD := Lib.hid (JB.out.below bd1)
              have HSd : ud.heap[kx]? = some (.cells #[.int .i64 kd, .int .u64 ab, .int .u8 ap.n, .int .u16 ap.l, .slice TA nT tc, .slice MA nX mc, .slice LA nL lc, .bool has] 40 (0, 0)) := (bd1.block kx (heap_lt HS)).trans HS
              refine ⟨_, rfl, HSd, ?_⟩
              try simp only [Act.put, List.setIfInBounds_toArray, List.set_cons_zero, List.set_cons_succ]
              refine FirstH.only (i := 6) (by kernel_rfl) (by decide) inv (fun inv => wpOp_call (i := 6) rfl rfl 66 rfl (Op.call { callee := .value (.func 28), args := #[.tmp 65], argTypes := #[31] }) rfl 28 #[.slice TA nT tc] (by unfold bareO; go_simp) (KOT.out ud JD.out.low) ?_)
              rintro e ue ⟨tv, TL, rfl, hTL, hEn, be1⟩
              have JE := Lib.hid (JD.out.below be1)
              have HSe : ue.heap[kx]? = some (.cells #[.int .i64 kd, .int .u64 ab, .int .u8 ap.n, .int .u16 ap.l, .slice TA nT tc, .slice MA nX mc, .slice LA nL lc, .bool has] 40 (0, 0)) := (be1.block kx (heap_lt HSd)).trans HSd
              refine ⟨_, rfl, HSe, ?_⟩
              try simp only [Act.put, List.setIfInBounds_toArray, List.set_cons_zero, List.set_cons_succ]
              refine FirstH.only (i := 11) (by kernel_rfl) (by decide) inv (fun inv => wpOp_call (i := 11) rfl rfl 71 rfl (Op.call { callee := .value (.func 14), args := #[.tmp 70], argTypes := #[33] }) rfl 14 #[.agg #[.slice MA nX mc, .slice LA nL lc]] (by unfold bareO; go_simp) (KOW.out ue JE.out.low) ?_)
              rintro e uf ⟨y, rfl, oky, dy, bf1⟩
              have JF := Lib.hid (JE.out.below bf1)
              have HSf : uf.heap[kx]? = some (.cells #[.int .i64 kd, .int .u64 ab, .int .u8 ap.n, .int .u16 ap.l, .slice TA nT tc, .slice MA nX mc, .slice LA nL lc, .bool has] 40 (0, 0)) := (bf1.block kx (heap_lt HSe)).trans HSe
              have hEn2 := hEn.keep (Keeps.of_below bf1)
              have hTl : TL.length ≤ 1000 := by
                have := congrArg List.length hTL
                simp at this
                have := HT10.out
                omega
              have KPM := Lib.hid (pPromise base uf bp m p JF.out.a ap RGA.out tv TL hEn2 hTl ab y oky has)
              have RXf := Lib.hid HSf
              have HDY := Lib.hid dy
              have HTLe := Lib.hid hTL
              refine ⟨_, rfl, HSf, ?_⟩
              try simp only [Act.put, List.setIfInBounds_toArray, List.set_cons_zero, List.set_cons_succ]
              clear HS HSd HSe HSf bd1 be1 bf1 hEn hEn2 hTl hTL oky dy
              refine ⟨by kernel_rfl, ?_⟩
              simp only [List.drop_succ_cons, List.drop_zero]
              go_wp2_with fail
              refine KPM.out.mono ?_
              rintro e ug ⟨rfl, hpp, kp⟩
              have JG := Lib.hid (JF.out.half hpp kp)
              have RXX : Hid (ug.heap[kx]? = some (.cells #[.int .i64 kd, .int .u64 ab, .int .u8 ap.n, .int .u16 ap.l, .slice TA nT tc, .slice MA nX mc, .slice LA nL lc, .bool has] 40 (0, 0))) := Lib.hid ((kp.block kx (heap_lt RXf.out) (JF.out.freeP RXf.out (by decide) (by decide))).trans RXf.out)
              have LKP := Lib.hid (JF.out.lk.promise ap (T.map Le.v) ab ax.d has)
              obtain ⟨r, hr⟩ := JG.out.r
              have KRP := Lib.hid (rPromise ug base bd q r hr ap TA T tc (HTT.out ug JG.out.low) (by rw [HNT.out]; exact HTC.out.1) HTC.out.2 (by have := HT10.out; omega) ab ax (HAX.out ug JG.out.low) has)
              rw [HAXC.out, HNT.out] at KRP
              have HR := Lib.hid hr
              have q1 := cell_of RXX.out 1 (.int .u64 ab) rfl
              have q2c := cell_of RXX.out 2 (.int .u8 ap.n) rfl
              have q3 := cell_of RXX.out 3 (.int .u16 ap.l) rfl
              have q4 := cell_of RXX.out 4 (.slice TA nT tc) rfl
              have q5 := cell_of RXX.out 5 (.slice MA nX mc) rfl
              have q6 := cell_of RXX.out 6 (.slice LA nL lc) rfl
              have q7 := cell_of RXX.out 7 (.bool has) rfl
              clear hpp kp hr
              go_wp2_with fail
              refine KRP.out.mono ?_
              rintro e u ⟨rfl, r', hr', kq⟩
              have J : Hid (JP base W u bp m bd (p.promise ap (TL.map Le.v) ab y.d has) (q.promise ap (T.map Le.v) ab ax.d has)) := Lib.hid (JG.out.full HR.out hr' kq (by rw [HTLe.out, HDY.out]; exact LKP.out) (by rw [promise_M]; exact JF.out.rg))
              obtain ⟨p2, hp2⟩ : ∃ z, p.promise ap (TL.map Le.v) ab y.d has = z := ⟨_, rfl⟩
              obtain ⟨q2, hq2⟩ : ∃ z, q.promise ap (T.map Le.v) ab ax.d has = z := ⟨_, rfl⟩
              rw [hp2, hq2] at J
              clear hr' kq hp2 hq2 q1 q3 q4 q5 q6 q7
              go_wp2_with fail
              obtain ⟨r, hr0⟩ := J.out.r
              have JXd := Lib.hid ((⟨J.out.a, hr0, J.out.low⟩ : JX base W u bp m bd p2 q2 r).below (Below.refl _ _).drew)
              have LKx := Lib.hid J.out.lk
              have RGx := Lib.hid J.out.rg
              obtain ⟨A3, c3, e3, -, -, -⟩ := JXd.out.r.vx.m
              obtain ⟨A4, c4, e4, -, -, -⟩ := JXd.out.r.vx.t
              obtain ⟨n3, hn3⟩ : ∃ z, r.vx.X.length = z := ⟨_, rfl⟩
              obtain ⟨n4, hn4⟩ : ∃ z, r.vx.L.length = z := ⟨_, rfl⟩
              rw [hn3] at e3
              rw [hn4] at e4
              obtain ⟨ph, hph⟩ : ∃ z, q2.ph = z := ⟨_, rfl⟩
              obtain ⟨bal, hbal⟩ : ∃ z, q2.bal = z := ⟨_, rfl⟩
              obtain ⟨rd, hrd⟩ : ∃ z, q2.ready = z := ⟨_, rfl⟩
              have Q3 : Hid ((q2.rs r)[3]? = some (.int .u64 bal)) := Lib.hid (by rw [← hbal]; rfl)
              have Q4 : Hid ((q2.rs r)[4]? = some (.int .i64 ph)) := Lib.hid (by rw [← hph]; rfl)
              have Q11 : Hid ((q2.rs r)[11]? = some (.slice A3 n3 c3)) := Lib.hid (by rw [← e3]; rfl)
              have Q12 : Hid ((q2.rs r)[12]? = some (.slice A4 n4 c4)) := Lib.hid (by rw [← e4]; rfl)
              have HCH : Hid (r.vx.cs = #[.slice A3 n3 c3, .slice A4 n4 c4]) := Lib.hid (by simp only [Vl.cs]; rw [e3, e4])
              have hphp : p2.ph = ph := LKx.out.ph.trans hph
              have hbalp : p2.bal = bal := LKx.out.bal.trans hbal
              have hrdp : p2.ready = rd := LKx.out.ready.trans hrd
              have K35 : Hid (∀ v, JX base W v bp m bd p2 q2 r → Calls Try.prog 35 #[.pointer (some ⟨bp, 0, none⟩)] v fun e W' => e = .returned (.int .i64 ph) ∧ v = W') := Lib.hid (by
                intro v h
                have := pPhase base v bp m p2 h.a
                rw [hphp] at this
                exact this)
              have K36 : Hid (∀ v, JX base W v bp m bd p2 q2 r → Calls Try.prog 36 #[.pointer (some ⟨bp, 0, none⟩)] v fun e W' => e = .returned (.bool rd) ∧ Below v.heap.size v W') := Lib.hid (by
                intro v h
                have := pReady base v bp m p2 h.a
                rw [hrdp] at this
                exact this)
              have K37 : Hid (∀ v, JX base W v bp m bd p2 q2 r → Calls Try.prog 37 #[.pointer (some ⟨bd, 0, none⟩)] v fun e W' => e = .returned (.bool rd) ∧ Below v.heap.size v W') := Lib.hid (by
                intro v h
                have := rReady v base bd q2 r h.r
                rw [hrd] at this
                exact this)
              have K38 : Hid (∀ v, JX base W v bp m bd p2 q2 r → Calls Try.prog 38 #[.pointer (some ⟨bp, 0, none⟩)] v fun e W' => e = .returned (.int .u64 bal) ∧ v = W') := Lib.hid (by
                intro v h
                have := pBallot base v bp m p2 h.a
                rw [hbalp] at this
                exact this)
              clear hphp hbalp hrdp
              clear hr0 e3 e4 hn3 hn4 hph hbal hrd
              refine region_heldT (S := fun v => v.heap[bd]? = some (.cells (q2.rs r) 80 (0, 0))) 46 (by kernel_rfl) (by decide) (fun inv => ?_)
              have HS : u.drew.heap[bd]? = some (.cells (q2.rs r) 80 (0, 0)) := JXd.out.r.blk
              change FirstH _ _ _ _ _ _ _ _ _ _ u.drew
              generalize u.drew = u4 at *
              refine FirstH.go (i := 0) (v := .bool true) rfl rfl 127 rfl (Op.move (.tmp 11)) rfl (by kernel_rfl) (fun _ _ _ h => h) inv (fun W hS => by unfold bareO; go_simp) HS (fun inv => ?_)
              try simp only [Act.put, List.setIfInBounds_toArray, List.set_cons_zero, List.set_cons_succ]
              refine FirstH.go (i := 1) (v := .bool false) rfl rfl 128 rfl (Op.unOp .not 4 (.tmp 127)) rfl (by kernel_rfl) (fun _ _ _ h => h) inv (fun W hS => by unfold bareO; go_simp) HS (fun inv => ?_)
              try simp only [Act.put, List.setIfInBounds_toArray, List.set_cons_zero, List.set_cons_succ]
              refine FirstH.go (i := 2) (v := .bool false) rfl rfl 129 rfl (Op.move (.tmp 128)) rfl (by kernel_rfl) (fun _ _ _ h => h) inv (fun W hS => by unfold bareO; go_simp) HS (fun inv => ?_)
              try simp only [Act.put, List.setIfInBounds_toArray, List.set_cons_zero, List.set_cons_succ]
              refine FirstH.goG (i := 3) (v := .pointer (some ⟨bp, 0, none⟩)) rfl (by rfl) 130 rfl (Op.move (.tmp 7)) rfl (by kernel_rfl) (fun _ _ _ h => h) inv (fun W hS => by unfold bareO; go_simp) HS (fun inv => ?_)
              try simp only [Act.put, List.setIfInBounds_toArray, List.set_cons_zero, List.set_cons_succ]
              refine FirstH.goG (i := 5) (v := .pointer (some ⟨bd, 0, none⟩)) rfl (by rfl) 132 rfl (Op.move (.tmp 8)) rfl (by kernel_rfl) (fun _ _ _ h => h) inv (fun W hS => by unfold bareO; go_simp) HS (fun inv => ?_)
              try simp only [Act.put, List.setIfInBounds_toArray, List.set_cons_zero, List.set_cons_succ]
              refine FirstH.goG (i := 6) (v := .pointer (some ⟨bd, 0, none⟩)) rfl (by rfl) 133 rfl (Op.nilCheck (.tmp 132)) rfl (by kernel_rfl) (fun _ _ _ h => h) inv (fun W hS => by unfold bareO; go_simp) HS (fun inv => ?_)
              try simp only [Act.put, List.setIfInBounds_toArray, List.set_cons_zero, List.set_cons_succ]
              refine FirstH.goG (i := 7) (v := .pointer (some ⟨bd, 4, none⟩)) rfl (by rfl) 134 rfl (Op.fieldAddr 80 (.tmp 133) 2) rfl (by kernel_rfl) (fun _ _ _ h => h) inv (fun W hS => by unfold bareO; go_simp) HS (fun inv => ?_)
              try simp only [Act.put, List.setIfInBounds_toArray, List.set_cons_zero, List.set_cons_succ]
              refine FirstH.goG (i := 8) (v := .int .i64 ph) rfl (by rfl) 135 rfl (Op.load 3 (.tmp 134)) rfl (by kernel_rfl) (fun _ _ _ h => h) inv (fun W hS => by have q3 := cell_of hS 3 _ Q3.out; have q4 := cell_of hS 4 _ Q4.out; have q11 := cell_of hS 11 _ Q11.out; have q12 := cell_of hS 12 _ Q12.out; unfold bareO; go_simp) HS (fun inv => ?_)
              try simp only [Act.put, List.setIfInBounds_toArray, List.set_cons_zero, List.set_cons_succ]
              refine FirstH.only (i := 4) (by kernel_rfl) (by decide) inv (fun inv => wpOp_callG (i := 4) rfl (by rfl) 131 rfl (Op.call { callee := .value (.func 35), args := #[.tmp 130], argTypes := #[59] }) rfl 35 #[.pointer (some ⟨bp, 0, none⟩)] (by unfold bareO; go_simp) (K35.out u4 JXd.out) ?_)
              rintro e ux ⟨rfl, rfl⟩
              refine ⟨_, rfl, HS, ?_⟩
              try simp only [Act.put, List.setIfInBounds_toArray, List.set_cons_zero, List.set_cons_succ]
              refine FirstH.goG (i := 9) (v := .bool false) rfl (by rfl) 136 rfl (Op.binOp .neq 3 (.tmp 131) (.tmp 135) 3) rfl (by kernel_rfl) (fun _ _ _ h => h) inv (fun W hS => by unfold bareO; go_simp) HS (fun inv => ?_)
              try simp only [Act.put, List.setIfInBounds_toArray, List.set_cons_zero, List.set_cons_succ]
              refine FirstH.go (i := 10) (v := .bool false) rfl rfl 137 rfl (Op.pick (.tmp 129) (.const (.bool true)) (.tmp 136)) rfl (by kernel_rfl) (fun _ _ _ h => h) inv (fun W hS => by unfold bareO; go_simp) HS (fun inv => ?_)
              try simp only [Act.put, List.setIfInBounds_toArray, List.set_cons_zero, List.set_cons_succ]
              refine FirstH.go (i := 11) (v := .bool false) rfl rfl 138 rfl (Op.move (.tmp 137)) rfl (by kernel_rfl) (fun _ _ _ h => h) inv (fun W hS => by unfold bareO; go_simp) HS (fun inv => ?_)
              try simp only [Act.put, List.setIfInBounds_toArray, List.set_cons_zero, List.set_cons_succ]
              refine FirstH.goG (i := 12) (v := .pointer (some ⟨bp, 0, none⟩)) rfl (by rfl) 139 rfl (Op.move (.tmp 7)) rfl (by kernel_rfl) (fun _ _ _ h => h) inv (fun W hS => by unfold bareO; go_simp) HS (fun inv => ?_)
              try simp only [Act.put, List.setIfInBounds_toArray, List.set_cons_zero, List.set_cons_succ]
              refine FirstH.goG (i := 14) (v := .pointer (some ⟨bd, 0, none⟩)) rfl (by rfl) 141 rfl (Op.move (.tmp 8)) rfl (by kernel_rfl) (fun _ _ _ h => h) inv (fun W hS => by unfold bareO; go_simp) HS (fun inv => ?_)
              try simp only [Act.put, List.setIfInBounds_toArray, List.set_cons_zero, List.set_cons_succ]
              refine FirstH.only (i := 13) (by kernel_rfl) (by decide) inv (fun inv => wpOp_callG (i := 13) rfl (by rfl) 140 rfl (Op.call { callee := .value (.func 36), args := #[.tmp 139], argTypes := #[59] }) rfl 36 #[.pointer (some ⟨bp, 0, none⟩)] (by unfold bareO; go_simp) (K36.out u4 JXd.out) ?_)
              rintro e u5 ⟨rfl, b5⟩
              have JXn := Lib.hid (JXd.out.below b5)
              have HSn : u5.heap[bd]? = some (.cells (q2.rs r) 80 (0, 0)) := JXn.out.r.blk
              clear HS JXd
              have HS := HSn
              have JXd := JXn
              clear HSn JXn b5
              refine ⟨_, rfl, HS, ?_⟩
              try simp only [Act.put, List.setIfInBounds_toArray, List.set_cons_zero, List.set_cons_succ]
              refine FirstH.only (i := 15) (by kernel_rfl) (by decide) inv (fun inv => wpOp_callG (i := 15) rfl (by rfl) 142 rfl (Op.call { callee := .value (.func 37), args := #[.tmp 141], argTypes := #[64] }) rfl 37 #[.pointer (some ⟨bd, 0, none⟩)] (by unfold bareO; go_simp) (K37.out u5 JXd.out) ?_)
              rintro e u6 ⟨rfl, b5⟩
              have JXn := Lib.hid (JXd.out.below b5)
              have HSn : u6.heap[bd]? = some (.cells (q2.rs r) 80 (0, 0)) := JXn.out.r.blk
              clear HS JXd
              have HS := HSn
              have JXd := JXn
              clear HSn JXn b5
              refine ⟨_, rfl, HS, ?_⟩
              try simp only [Act.put, List.setIfInBounds_toArray, List.set_cons_zero, List.set_cons_succ]
              refine FirstH.goG (i := 16) (v := .bool false) rfl (by rfl) 143 rfl (Op.binOp .neq 4 (.tmp 140) (.tmp 142) 4) rfl (by kernel_rfl) (fun _ _ _ h => h) inv (fun W hS => by unfold bareO; go_simp) HS (fun inv => ?_)
              try simp only [Act.put, List.setIfInBounds_toArray, List.set_cons_zero, List.set_cons_succ]
              refine FirstH.go (i := 17) (v := .bool false) rfl rfl 144 rfl (Op.pick (.tmp 138) (.const (.bool true)) (.tmp 143)) rfl (by kernel_rfl) (fun _ _ _ h => h) inv (fun W hS => by unfold bareO; go_simp) HS (fun inv => ?_)
              try simp only [Act.put, List.setIfInBounds_toArray, List.set_cons_zero, List.set_cons_succ]
              refine FirstH.go (i := 18) (v := .bool false) rfl rfl 145 rfl (Op.move (.tmp 144)) rfl (by kernel_rfl) (fun _ _ _ h => h) inv (fun W hS => by unfold bareO; go_simp) HS (fun inv => ?_)
              try simp only [Act.put, List.setIfInBounds_toArray, List.set_cons_zero, List.set_cons_succ]
              refine FirstH.goG (i := 19) (v := .pointer (some ⟨bp, 0, none⟩)) rfl (by rfl) 146 rfl (Op.move (.tmp 7)) rfl (by kernel_rfl) (fun _ _ _ h => h) inv (fun W hS => by unfold bareO; go_simp) HS (fun inv => ?_)
              try simp only [Act.put, List.setIfInBounds_toArray, List.set_cons_zero, List.set_cons_succ]
              refine FirstH.goG (i := 21) (v := .pointer (some ⟨bd, 0, none⟩)) rfl (by rfl) 148 rfl (Op.move (.tmp 8)) rfl (by kernel_rfl) (fun _ _ _ h => h) inv (fun W hS => by unfold bareO; go_simp) HS (fun inv => ?_)
              try simp only [Act.put, List.setIfInBounds_toArray, List.set_cons_zero, List.set_cons_succ]
              refine FirstH.goG (i := 22) (v := .pointer (some ⟨bd, 0, none⟩)) rfl (by rfl) 149 rfl (Op.nilCheck (.tmp 148)) rfl (by kernel_rfl) (fun _ _ _ h => h) inv (fun W hS => by unfold bareO; go_simp) HS (fun inv => ?_)
              try simp only [Act.put, List.setIfInBounds_toArray, List.set_cons_zero, List.set_cons_succ]
              refine FirstH.goG (i := 23) (v := .pointer (some ⟨bd, 3, none⟩)) rfl (by rfl) 150 rfl (Op.fieldAddr 80 (.tmp 149) 1) rfl (by kernel_rfl) (fun _ _ _ h => h) inv (fun W hS => by unfold bareO; go_simp) HS (fun inv => ?_)
              try simp only [Act.put, List.setIfInBounds_toArray, List.set_cons_zero, List.set_cons_succ]
              refine FirstH.goG (i := 24) (v := .int .u64 bal) rfl (by rfl) 151 rfl (Op.load 29 (.tmp 150)) rfl (by kernel_rfl) (fun _ _ _ h => h) inv (fun W hS => by have q3 := cell_of hS 3 _ Q3.out; have q4 := cell_of hS 4 _ Q4.out; have q11 := cell_of hS 11 _ Q11.out; have q12 := cell_of hS 12 _ Q12.out; unfold bareO; go_simp) HS (fun inv => ?_)
              try simp only [Act.put, List.setIfInBounds_toArray, List.set_cons_zero, List.set_cons_succ]
              refine FirstH.only (i := 20) (by kernel_rfl) (by decide) inv (fun inv => wpOp_callG (i := 20) rfl (by rfl) 147 rfl (Op.call { callee := .value (.func 38), args := #[.tmp 146], argTypes := #[59] }) rfl 38 #[.pointer (some ⟨bp, 0, none⟩)] (by unfold bareO; go_simp) (K38.out u6 JXd.out) ?_)
              rintro e ux ⟨rfl, rfl⟩
              refine ⟨_, rfl, HS, ?_⟩
              try simp only [Act.put, List.setIfInBounds_toArray, List.set_cons_zero, List.set_cons_succ]
              refine FirstH.goG (i := 25) (v := .bool false) rfl (by rfl) 152 rfl (Op.binOp .neq 29 (.tmp 147) (.tmp 151) 29) rfl (by kernel_rfl) (fun _ _ _ h => h) inv (fun W hS => by unfold bareO; go_simp) HS (fun inv => ?_)
              try simp only [Act.put, List.setIfInBounds_toArray, List.set_cons_zero, List.set_cons_succ]
              refine FirstH.go (i := 26) (v := .bool false) rfl rfl 153 rfl (Op.pick (.tmp 145) (.const (.bool true)) (.tmp 152)) rfl (by kernel_rfl) (fun _ _ _ h => h) inv (fun W hS => by unfold bareO; go_simp) HS (fun inv => ?_)
              try simp only [Act.put, List.setIfInBounds_toArray, List.set_cons_zero, List.set_cons_succ]
              refine FirstH.go (i := 27) (v := .bool false) rfl rfl 154 rfl (Op.move (.tmp 153)) rfl (by kernel_rfl) (fun _ _ _ h => h) inv (fun W hS => by unfold bareO; go_simp) HS (fun inv => ?_)
              try simp only [Act.put, List.setIfInBounds_toArray, List.set_cons_zero, List.set_cons_succ]
              refine FirstH.goG (i := 28) (v := .pointer (some ⟨bp, 0, none⟩)) rfl (by rfl) 155 rfl (Op.move (.tmp 7)) rfl (by kernel_rfl) (fun _ _ _ h => h) inv (fun W hS => by unfold bareO; go_simp) HS (fun inv => ?_)
              try simp only [Act.put, List.setIfInBounds_toArray, List.set_cons_zero, List.set_cons_succ]
              refine FirstH.goG (i := 31) (v := .pointer (some ⟨bd, 0, none⟩)) rfl (by rfl) 158 rfl (Op.move (.tmp 8)) rfl (by kernel_rfl) (fun _ _ _ h => h) inv (fun W hS => by unfold bareO; go_simp) HS (fun inv => ?_)
              try simp only [Act.put, List.setIfInBounds_toArray, List.set_cons_zero, List.set_cons_succ]
              refine FirstH.goG (i := 32) (v := .pointer (some ⟨bd, 0, none⟩)) rfl (by rfl) 159 rfl (Op.nilCheck (.tmp 158)) rfl (by kernel_rfl) (fun _ _ _ h => h) inv (fun W hS => by unfold bareO; go_simp) HS (fun inv => ?_)
              try simp only [Act.put, List.setIfInBounds_toArray, List.set_cons_zero, List.set_cons_succ]
              refine FirstH.goG (i := 33) (v := .pointer (some ⟨bd, 11, none⟩)) rfl (by rfl) 160 rfl (Op.fieldAddr 80 (.tmp 159) 8) rfl (by kernel_rfl) (fun _ _ _ h => h) inv (fun W hS => by unfold bareO; go_simp) HS (fun inv => ?_)
              try simp only [Act.put, List.setIfInBounds_toArray, List.set_cons_zero, List.set_cons_succ]
              refine FirstH.goG (i := 34) (v := .agg #[.slice A3 n3 c3, .slice A4 n4 c4]) rfl (by rfl) 161 rfl (Op.load 33 (.tmp 160)) rfl (by kernel_rfl) (fun _ _ _ h => h) inv (fun W hS => by have q3 := cell_of hS 3 _ Q3.out; have q4 := cell_of hS 4 _ Q4.out; have q11 := cell_of hS 11 _ Q11.out; have q12 := cell_of hS 12 _ Q12.out; unfold bareO; go_simp) HS (fun inv => ?_)
              try simp only [Act.put, List.setIfInBounds_toArray, List.set_cons_zero, List.set_cons_succ]
              refine FirstH.only (i := 29) (by kernel_rfl) (by decide) inv (fun inv => wpOp_callG (i := 29) rfl (by rfl) 156 rfl (Op.call { callee := .value (.func 39), args := #[.tmp 155], argTypes := #[59] }) rfl 39 #[.pointer (some ⟨bp, 0, none⟩)] (by unfold bareO; go_simp) (pValue base u6 bp m p2 JXd.out.a) ?_)
              rintro e u7 ⟨xv, rfl, okv, dv, b5⟩
              have KRF := Lib.hid (refVal xv u7 okv)
              have HDV := Lib.hid dv
              have JXn := Lib.hid (JXd.out.below b5)
              have HSn : u7.heap[bd]? = some (.cells (q2.rs r) 80 (0, 0)) := JXn.out.r.blk
              clear HS JXd
              have HS := HSn
              have JXd := JXn
              clear HSn JXn b5 okv dv
              refine ⟨_, rfl, HS, ?_⟩
              try simp only [Act.put, List.setIfInBounds_toArray, List.set_cons_zero, List.set_cons_succ]
              refine FirstH.only (i := 30) (by kernel_rfl) (by decide) inv (fun inv => wpOp_callG (i := 30) rfl (by rfl) 157 rfl (Op.call { callee := .value (.func 19), args := #[.tmp 156], argTypes := #[46] }) rfl 19 #[.agg xv.cs] (by unfold bareO; go_simp) (KRF.out) ?_)
              rintro e u8 ⟨xr, rfl, okr, dr, b5⟩
              have KSM : Hid (Calls Try.prog 18 #[.agg xr.cs, .agg #[.slice A3 n3 c3, .slice A4 n4 c4]] u8 fun r w' => r = .returned (.bool true) ∧ Below u8.heap.size u8 w') := Lib.hid (by
                have JX8 := JXd.out.below b5
                have hsz : base ≤ u8.heap.size := Nat.le_trans JX8.r.hb (Nat.le_of_lt JX8.r.lt)
                have := refSameV xr r.vx u8 okr.at_ (JX8.r.vx.below (Below.refl u8.heap.size u8) hsz hsz) (by rw [dr, HDV.out, LKx.out.vd]; exact JX8.r.vd)
                rw [HCH.out] at this
                exact this)
              have JXn := Lib.hid (JXd.out.below b5)
              have HSn : u8.heap[bd]? = some (.cells (q2.rs r) 80 (0, 0)) := JXn.out.r.blk
              clear HS JXd
              have HS := HSn
              have JXd := JXn
              clear HSn JXn b5 okr dr KRF
              refine ⟨_, rfl, HS, ?_⟩
              try simp only [Act.put, List.setIfInBounds_toArray, List.set_cons_zero, List.set_cons_succ]
              refine FirstH.only (i := 35) (by kernel_rfl) (by decide) inv (fun inv => wpOp_callG (i := 35) rfl (by rfl) 162 rfl (Op.call { callee := .value (.func 18), args := #[.tmp 157, .tmp 161], argTypes := #[33, 33] }) rfl 18 #[.agg xr.cs, .agg #[.slice A3 n3 c3, .slice A4 n4 c4]] (by unfold bareO; go_simp) (KSM.out) ?_)
              rintro e u9 ⟨rfl, b5⟩
              have JXn := Lib.hid (JXd.out.below b5)
              have HSn : u9.heap[bd]? = some (.cells (q2.rs r) 80 (0, 0)) := JXn.out.r.blk
              clear HS JXd
              have HS := HSn
              have JXd := JXn
              clear HSn JXn b5 KSM
              refine ⟨_, rfl, HS, ?_⟩
              try simp only [Act.put, List.setIfInBounds_toArray, List.set_cons_zero, List.set_cons_succ]
              refine FirstH.goG (i := 36) (v := .bool false) rfl (by rfl) 163 rfl (Op.unOp .not 4 (.tmp 162)) rfl (by kernel_rfl) (fun _ _ _ h => h) inv (fun W hS => by unfold bareO; go_simp) HS (fun inv => ?_)
              try simp only [Act.put, List.setIfInBounds_toArray, List.set_cons_zero, List.set_cons_succ]
              refine FirstH.go (i := 37) (v := .bool false) rfl rfl 164 rfl (Op.pick (.tmp 154) (.const (.bool true)) (.tmp 163)) rfl (by kernel_rfl) (fun _ _ _ h => h) inv (fun W hS => by unfold bareO; go_simp) HS (fun inv => ?_)
              try simp only [Act.put, List.setIfInBounds_toArray, List.set_cons_zero, List.set_cons_succ]
              refine FirstH.go (i := 38) (v := .bool false) rfl rfl 165 rfl (Op.move (.tmp 164)) rfl (by kernel_rfl) (fun _ _ _ h => h) inv (fun W hS => by unfold bareO; go_simp) HS (fun inv => ?_)
              try simp only [Act.put, List.setIfInBounds_toArray, List.set_cons_zero, List.set_cons_succ]
              refine FirstH.goG (i := 39) (v := .pointer (some ⟨bp, 0, none⟩)) rfl (by rfl) 166 rfl (Op.move (.tmp 7)) rfl (by kernel_rfl) (fun _ _ _ h => h) inv (fun W hS => by unfold bareO; go_simp) HS (fun inv => ?_)
              try simp only [Act.put, List.setIfInBounds_toArray, List.set_cons_zero, List.set_cons_succ]
              refine FirstH.goG (i := 42) (v := .pointer (some ⟨bd, 0, none⟩)) rfl (by rfl) 169 rfl (Op.move (.tmp 8)) rfl (by kernel_rfl) (fun _ _ _ h => h) inv (fun W hS => by unfold bareO; go_simp) HS (fun inv => ?_)
              try simp only [Act.put, List.setIfInBounds_toArray, List.set_cons_zero, List.set_cons_succ]
              refine FirstH.only (i := 40) (by kernel_rfl) (by decide) inv (fun inv => wpOp_callG (i := 40) rfl (by rfl) 167 rfl (Op.call { callee := .value (.func 42), args := #[.tmp 166], argTypes := #[59] }) rfl 42 #[.pointer (some ⟨bp, 0, none⟩)] (by unfold bareO; go_simp) (pMissing base u9 bp m p2 JXd.out.a RGx.out) ?_)
              rintro e u10 ⟨mv, rfl, om, b5⟩
              rw [LKx.out.missing] at om
              have hml : q2.missing.length ≤ 8 := by
                have := JXd.out.r.few
                unfold Pd.missing
                split
                · simp
                · exact Nat.le_trans (List.length_filter_le _ _) this.1
              obtain ⟨Am, cm, em, hrm, hlm, hmm⟩ := V.rowsV_of_own om
              obtain ⟨nm, hnm⟩ : ∃ z, q2.missing.length = z := ⟨_, rfl⟩
              have KRP := Lib.hid (V.refProcs Am q2.missing cm u10 hrm (by omega) hlm hmm)
              rw [hnm] at em KRP
              subst em
              have JXn := Lib.hid (JXd.out.below b5)
              have HSn : u10.heap[bd]? = some (.cells (q2.rs r) 80 (0, 0)) := JXn.out.r.blk
              clear HS JXd
              have HS := HSn
              have JXd := JXn
              clear HSn JXn b5 om hrm hlm hmm
              refine ⟨_, rfl, HS, ?_⟩
              try simp only [Act.put, List.setIfInBounds_toArray, List.set_cons_zero, List.set_cons_succ]
              refine FirstH.only (i := 41) (by kernel_rfl) (by decide) inv (fun inv => wpOp_callG (i := 41) rfl (by rfl) 168 rfl (Op.call { callee := .value (.func 41), args := #[.tmp 167], argTypes := #[43] }) rfl 41 #[.slice Am nm cm] (by unfold bareO; go_simp) (KRP.out) ?_)
              rintro e u11 ⟨rv, rfl, orv, b5⟩
              have ORV := Lib.hid orv
              have JXn := Lib.hid (JXd.out.below b5)
              have HSn : u11.heap[bd]? = some (.cells (q2.rs r) 80 (0, 0)) := JXn.out.r.blk
              clear HS JXd
              have HS := HSn
              have JXd := JXn
              clear HSn JXn b5 orv KRP
              refine ⟨_, rfl, HS, ?_⟩
              try simp only [Act.put, List.setIfInBounds_toArray, List.set_cons_zero, List.set_cons_succ]
              refine FirstH.only (i := 43) (by kernel_rfl) (by decide) inv (fun inv => wpOp_callG (i := 43) rfl (by rfl) 170 rfl (Op.call { callee := .value (.func 43), args := #[.tmp 169], argTypes := #[64] }) rfl 43 #[.pointer (some ⟨bd, 0, none⟩)] (by unfold bareO; go_simp) (rMissing u11 base bd q2 r JXd.out.r) ?_)
              rintro e u12 ⟨dv, rfl, odv, b5⟩
              have orv2 := V.own_kept ORV.out b5
              rw [← hnm] at orv2
              obtain ⟨Ar, cr, er, hrr, hlr, hmr⟩ := V.rowsV_of_own orv2
              obtain ⟨Ad, cd, ed, hrd', hld, hmd⟩ := V.rowsV_of_own odv
              have KSP : Hid (Calls Try.prog 40 #[rv, dv] u12 fun e w' => e = .returned (.bool true) ∧ Below u12.heap.size u12 w') := Lib.hid (by
                rw [er, ed]
                exact (V.sameProcs Ar Ad q2.missing q2.missing cr cd u12 hrr hrd' hlr hmr hld hmd).mono fun _ _ h => ⟨by rw [h.1]; simp, h.2⟩)
              clear orv2 er hrr hlr hmr ed hrd' hld hmd odv ORV
              have JXn := Lib.hid (JXd.out.below b5)
              have HSn : u12.heap[bd]? = some (.cells (q2.rs r) 80 (0, 0)) := JXn.out.r.blk
              clear HS JXd
              have HS := HSn
              have JXd := JXn
              clear HSn JXn b5
              refine ⟨_, rfl, HS, ?_⟩
              try simp only [Act.put, List.setIfInBounds_toArray, List.set_cons_zero, List.set_cons_succ]
              refine FirstH.only (i := 44) (by kernel_rfl) (by decide) inv (fun inv => wpOp_callG (i := 44) rfl (by rfl) 171 rfl (Op.call { callee := .value (.func 40), args := #[.tmp 168, .tmp 170], argTypes := #[30, 30] }) rfl 40 #[rv, dv] (by unfold bareO; go_simp) (KSP.out) ?_)
              rintro e u13 ⟨rfl, b5⟩
              have JXn := Lib.hid (JXd.out.below b5)
              have HSn : u13.heap[bd]? = some (.cells (q2.rs r) 80 (0, 0)) := JXn.out.r.blk
              clear HS JXd
              have HS := HSn
              have JXd := JXn
              clear HSn JXn b5 KSP
              refine ⟨_, rfl, HS, ?_⟩
              try simp only [Act.put, List.setIfInBounds_toArray, List.set_cons_zero, List.set_cons_succ]
              refine FirstH.goG (i := 45) (v := .bool false) rfl (by rfl) 172 rfl (Op.unOp .not 4 (.tmp 171)) rfl (by kernel_rfl) (fun _ _ _ h => h) inv (fun W hS => by unfold bareO; go_simp) HS (fun inv => ?_)
              try simp only [Act.put, List.setIfInBounds_toArray, List.set_cons_zero, List.set_cons_succ]
              refine ⟨by kernel_rfl, ?_⟩
              simp only [List.drop_succ_cons, List.drop_zero]
              have JN : Hid (JP base W u13 bp m bd p2 q2) := Lib.hid ⟨JXd.out.a, ⟨r, JXd.out.r⟩, LKx.out, RGx.out, JXd.out.low⟩
              clear HS
              go_wp2_with fail
              go_roundw
              case rel => exact ⟨k + 1, by have := HKN.out; omega, by go_num, _, _, JN⟩
              case measure => have := HKN.out; simp [intOf]; omega
            · have k2 : (kd == 2) = false := by simpa using e2
              clear e2
              rcases b03 with e3 | e3
              · have k3 : (kd == 3) = true := by simpa using e3
                have c5x := cell_of RX.out 5 (.slice MA nX mc) rfl
                clear b04 e3
                as_aux_lemma =>
                skip
                go_wp2_with (first
                  | (refine wpList_load_mid rfl 40 (.tmp 54) rfl g (o + k * 8) (by rfl) cs.toList _ HC.out Try.underlying40 rfl HSZ2.out ?_)
                  | (rw [HUA.out, HKX.out])
                  | (refine wpList_store_row rfl 40 (.tmp 10) (.tmp 55) rfl kx cs (by rfl) (by rfl) 40 #[.int .i64 0, .int .u64 0, .int .u8 0, .int .u16 0, .slice none 0 0, .slice none 0 0, .slice none 0 0, .bool false] RA.out HSZ3.out HOLD.out HOB.out ?_; rw [HUB.out])
                  | fail)
                go_wp2_with fail
                refine (KPRs.out _ JB0.out.low).mono ?_
                rintro e ud ⟨wv, rfl, ow, bd1⟩
                have JD := Lib.hid (JB0.out.below bd1)
                have RXd : Hid (ud.heap[kx]? = some (.cells #[.int .i64 kd, .int .u64 ab, .int .u8 ap.n, .int .u16 ap.l, .slice TA nT tc, .slice MA nX mc, .slice LA nL lc, .bool has] 40 (0, 0))) := Lib.hid ((bd1.block kx (heap_lt RX.out)).trans RX.out)
                rw [← HNX.out] at ow
                have KPP := Lib.hid (pPropose base ud bp m p JD.out.a wv X (PrO.of_owns ow) (by have := HX20.out; omega))
                obtain ⟨rd, hrd⟩ : ∃ z, q.ready = z := ⟨_, rfl⟩
                have HRD := Lib.hid hrd
                have HRP : Hid (p.ready = rd) := Lib.hid (by rw [JD.out.lk.ready]; exact hrd)
                unfold ProR at KPP
                rw [HRP.out] at KPP
                clear ow bd1 hrd
                go_wp2_with fail
                refine KPP.out.mono ?_
                rintro e ue ⟨⟨ym, Y, yt, YL⟩, rfl, oky, dy, hpp, kp⟩
                have JG := Lib.hid (JD.out.half hpp kp)
                have RXe := (kp.block kx (heap_lt RXd.out) (JD.out.freeP RXd.out (by decide) (by decide))).trans RXd.out
                obtain ⟨A1, c1, e1, -, -, -, -⟩ := oky.m.rows
                obtain ⟨A2, c2, e2, -, -, -, -⟩ := oky.t.rows
                dsimp only at e1 e2
                subst e1 e2
                dsimp only [Vl.cs]
                obtain ⟨kv, hkv⟩ : ∃ z, ue.heap.size = z := ⟨_, rfl⟩
                obtain ⟨u2, hu2⟩ : ∃ z, ue.alloc (.cells #[.slice none 0 0, .slice none 0 0] 46) = z := ⟨_, rfl⟩
                have r2 : u2.heap[kv]? = some (.cells #[.slice none 0 0, .slice none 0 0] 46 (0, 0)) := by rw [← hu2, ← hkv]; exact heap_alloc_new _ _
                obtain ⟨n1, hn1⟩ : ∃ z, Y.length = z := ⟨_, rfl⟩
                obtain ⟨n2, hn2⟩ : ∃ z, YL.length = z := ⟨_, rfl⟩
                have HN1 := Lib.hid hn1
                have HN2 := Lib.hid hn2
                rw [hn1, hn2]
                obtain ⟨u3, hu3⟩ : ∃ z, u2.setRow kv #[.slice A1 n1 c1, .slice A2 n2 c2] = z := ⟨_, rfl⟩
                have b3 : Below ue.heap.size ue u3 := by
                  rw [← hu3, ← hu2, ← hkv]
                  exact ((Below.refl _ _).alloc (Nat.le_refl _) _).trans ⟨rfl, rfl, rfl, by simp [World.setRow], fun k hk => setRow_other _ ue.heap.size k _ (by omega)⟩
                have r3 : u3.heap[kv]? = some (.cells #[.slice A1 n1 c1, .slice A2 n2 c2] 46 (0, 0)) := by rw [← hu3]; exact setRow_heapG _ _ _ _ _ _ r2
                have JG3 := Lib.hid (JG.out.below b3)
                have OK3 := Lib.hid (oky.keep (Keeps.of_below b3))
                have RXX : Hid (u3.heap[kx]? = some (.cells #[.int .i64 kd, .int .u64 ab, .int .u8 ap.n, .int .u16 ap.l, .slice TA nT tc, .slice MA nX mc, .slice LA nL lc, .bool has] 40 (0, 0))) := Lib.hid ((b3.block kx (heap_lt RXe)).trans RXe)
                have RV3 := Lib.hid r3
                have RV2 := Lib.hid r2
                have HU2 := Lib.hid hu2
                have HU3 := Lib.hid hu3
                have HKV := Lib.hid hkv
                have HDY := Lib.hid dy
                obtain ⟨r, hr⟩ := JG3.out.r
                have HR := Lib.hid hr
                have KRO := Lib.hid (rPropose u3 base bd q r hr MA X mc (HMM.out u3 JG3.out.low) (by rw [HNX.out]; exact HMC.out.1) HMC.out.2 (by have := HX20.out; omega))
                unfold ProQ at KRO
                rw [HNX.out, HRD.out] at KRO
                have s1 := cell_of RXX.out 1 (.int .u64 ab) rfl
                have s2 := cell_of RXX.out 2 (.int .u8 ap.n) rfl
                have s3 := cell_of RXX.out 3 (.int .u16 ap.l) rfl
                have s4 := cell_of RXX.out 4 (.slice TA nT tc) rfl
                have s5 := cell_of RXX.out 5 (.slice MA nX mc) rfl
                have s6 := cell_of RXX.out 6 (.slice LA nL lc) rfl
                have s7 := cell_of RXX.out 7 (.bool has) rfl
                clear hpp kp RXe oky hkv hu2 r2 hn1 hn2 hu3 b3 r3 dy hr KPP
                go_wp2_with (first
                  | (rw [HU2.out, HKV.out])
                  | (refine wpList_store_row rfl 46 (.tmp 12) (.tmp 96) rfl kv #[.slice A1 n1 c1, .slice A2 n2 c2] (by rfl) (by rfl) 46 _ RV2.out (by kernel_rfl) rfl (by simp [Value.oneCell']) ?_; rw [HU3.out])
                  | fail)
                refine KRO.out.mono ?_
                rintro e u5 ⟨⟨zm, Z, zt, ZL⟩, rfl, atz, dz, r', hr', kq⟩
                have rv5 := (kq.block kv (heap_lt RV3.out) (HR.out.free RV3.out (apart_of RV3.out HR.out.blk (by decide)) (by decide))).trans RV3.out
                have ok5 := OK3.out.keepO (KeepsO.of_FR HR.out kq)
                have J5 : Hid (JP base W u5 bp m bd (if rd then p.propose X else p) (if rd then q.proposeR X else q)) := Lib.hid (JG3.out.full HR.out hr' kq (by
                  cases rd with
                  | false => exact JD.out.lk
                  | true => exact (JD.out.lk.propose HRP.out X).2) (by
                  cases rd with
                  | false => exact JD.out.rg
                  | true => exact JD.out.rg))
                have hdd : Vl.d ⟨zm, Z, zt, ZL⟩ = Vl.d ⟨.slice A1 Y.length c1, Y, .slice A2 YL.length c2, YL⟩ := by
                  rw [HDY.out, dz]
                  cases rd with
                  | false => rfl
                  | true => simp only [if_true]; rw [(JD.out.lk.propose HRP.out X).1]
                obtain ⟨B1, d1, e1, -, -, -⟩ := atz.m
                obtain ⟨B2, d2, e2, -, -, -⟩ := atz.t
                dsimp only at e1 e2
                subst e1 e2
                dsimp only [Vl.cs]
                obtain ⟨kz, hkz⟩ : ∃ z, u5.heap.size = z := ⟨_, rfl⟩
                obtain ⟨u6, hu6⟩ : ∃ z, u5.alloc (.cells #[.slice none 0 0, .slice none 0 0] 33) = z := ⟨_, rfl⟩
                have r6 : u6.heap[kz]? = some (.cells #[.slice none 0 0, .slice none 0 0] 33 (0, 0)) := by rw [← hu6, ← hkz]; exact heap_alloc_new _ _
                obtain ⟨m1, hm1⟩ : ∃ z, Z.length = z := ⟨_, rfl⟩
                obtain ⟨m2, hm2⟩ : ∃ z, ZL.length = z := ⟨_, rfl⟩
                have HM1 := Lib.hid hm1
                have HM2 := Lib.hid hm2
                rw [hm1, hm2]
                obtain ⟨u7, hu7⟩ : ∃ z, u6.setRow kz #[.slice B1 m1 d1, .slice B2 m2 d2] = z := ⟨_, rfl⟩
                have b7 : Below u5.heap.size u5 u7 := by
                  rw [← hu7, ← hu6, ← hkz]
                  exact ((Below.refl _ _).alloc (Nat.le_refl _) _).trans ⟨rfl, rfl, rfl, by simp [World.setRow], fun k hk => setRow_other _ u5.heap.size k _ (by omega)⟩
                have r7 : u7.heap[kz]? = some (.cells #[.slice B1 m1 d1, .slice B2 m2 d2] 33 (0, 0)) := by rw [← hu7]; exact setRow_heapG _ _ _ _ _ _ r6
                have J7 := Lib.hid ((J5.out.below b7).below (Below.refl _ _).drew)
                have ok7 := (ok5.keep (Keeps.of_below b7)).keep (Keeps.of_below (Below.refl _ u7).drew)
                have KRF := Lib.hid (refVal _ u7.drew ok7)
                have hsz5 : base ≤ u5.heap.size := J5.out.lt.2.2
                have HZ7 := Lib.hid ((atz.below (b7.mono hsz5) (Nat.le_refl _) (Nat.le_refl _)).below (Below.refl base u7).drew (Nat.le_refl _) (Nat.le_refl _))
                have RVZ : Hid (u7.drew.heap[kv]? = some (.cells #[.slice A1 n1 c1, .slice A2 n2 c2] 46 (0, 0)) ∧ u7.drew.heap[kz]? = some (.cells #[.slice B1 m1 d1, .slice B2 m2 d2] 33 (0, 0))) := Lib.hid ⟨(b7.block kv (heap_lt rv5)).trans rv5, r7⟩
                have HDD := Lib.hid hdd
                dsimp only [Vl.cs] at KRF
                rw [HN1.out, HN2.out] at KRF
                have R6 := Lib.hid r6
                have HU6 := Lib.hid hu6
                have HU7 := Lib.hid hu7
                have HKZ := Lib.hid hkz
                clear rv5 ok5 hr' kq hkz hu6 r6 hm1 hm2 hu7 b7 r7 ok7 hsz5 atz dz hdd s1 s2 s3 s4 s5 s6 s7
                go_wp2_with (first
                  | (rw [HU6.out, HKZ.out])
                  | (refine wpList_store_row rfl 33 (.tmp 14) (.tmp 104) rfl kz #[.slice B1 m1 d1, .slice B2 m2 d2] (by rfl) (by rfl) 33 _ R6.out (by kernel_rfl) rfl (by simp [Value.oneCell']) ?_; rw [HU7.out])
                  | fail)
                refine region_heldT (S := fun v => v.heap[kv]? = some (.cells #[.slice A1 n1 c1, .slice A2 n2 c2] 46 (0, 0)) ∧ v.heap[kz]? = some (.cells #[.slice B1 m1 d1, .slice B2 m2 d2] 33 (0, 0))) 9 (by kernel_rfl) (by decide) (fun inv => ?_)
                have HS := RVZ.out
                change FirstH _ _ _ _ _ _ _ _ _ _ u7.drew
                generalize u7.drew = u8 at *
                refine FirstH.go (i := 0) (v := .agg #[.slice A1 n1 c1, .slice A2 n2 c2]) rfl rfl 106 rfl (Op.load 46 (.tmp 12)) rfl (by kernel_rfl) (fun _ _ _ h => h) inv (fun W hS => by have v0 := cell_of hS.1 0 (.slice A1 n1 c1) rfl; have v1 := cell_of hS.1 1 (.slice A2 n2 c2) rfl; have v2 := cell_of hS.2 0 (.slice B1 m1 d1) rfl; have v3 := cell_of hS.2 1 (.slice B2 m2 d2) rfl; unfold bareO; go_simp) HS (fun inv => ?_)
                try simp only [Act.put, List.setIfInBounds_toArray, List.set_cons_zero, List.set_cons_succ]
                refine FirstH.go (i := 2) (v := .agg #[.slice B1 m1 d1, .slice B2 m2 d2]) rfl rfl 108 rfl (Op.load 33 (.tmp 14)) rfl (by kernel_rfl) (fun _ _ _ h => h) inv (fun W hS => by have v0 := cell_of hS.1 0 (.slice A1 n1 c1) rfl; have v1 := cell_of hS.1 1 (.slice A2 n2 c2) rfl; have v2 := cell_of hS.2 0 (.slice B1 m1 d1) rfl; have v3 := cell_of hS.2 1 (.slice B2 m2 d2) rfl; unfold bareO; go_simp) HS (fun inv => ?_)
                try simp only [Act.put, List.setIfInBounds_toArray, List.set_cons_zero, List.set_cons_succ]
                refine FirstH.only (i := 1) (by kernel_rfl) (by decide) inv (fun inv => wpOp_call (i := 1) rfl rfl 107 rfl (Op.call { callee := .value (.func 19), args := #[.tmp 106], argTypes := #[46] }) rfl 19 #[.agg #[.slice A1 n1 c1, .slice A2 n2 c2]] (by unfold bareO; go_simp) (KRF.out) ?_)
                rintro e u9 ⟨xr, rfl, okr, dr, b9⟩
                have J9 := Lib.hid (J7.out.below b9)
                have HS9 : u9.heap[kv]? = some (.cells #[.slice A1 n1 c1, .slice A2 n2 c2] 46 (0, 0)) ∧ u9.heap[kz]? = some (.cells #[.slice B1 m1 d1, .slice B2 m2 d2] 33 (0, 0)) := ⟨(b9.block kv (heap_lt HS.1)).trans HS.1, (b9.block kz (heap_lt HS.2)).trans HS.2⟩
                have KSM : Hid (Calls Try.prog 18 #[.agg #[xr.m, xr.t], .agg #[.slice B1 m1 d1, .slice B2 m2 d2]] u9 fun r w' => r = .returned (.bool true) ∧ Below u9.heap.size u9 w') := Lib.hid (by
                  have hs9 := J9.out.lt.2.2
                  have hs7 := J7.out.lt.2.2
                  have := refSameV xr ⟨.slice B1 Z.length d1, Z, .slice B2 ZL.length d2, ZL⟩ u9 okr.at_ (HZ7.out.below (b9.mono hs7) (Nat.le_refl _) hs9) (by rw [dr]; exact HDD.out)
                  simp only [Vl.cs, HM1.out, HM2.out] at this
                  exact this)
                clear HS okr dr b9
                have HS := HS9
                clear HS9
                refine ⟨_, rfl, HS, ?_⟩
                try simp only [Act.put, List.setIfInBounds_toArray, List.set_cons_zero, List.set_cons_succ]
                refine FirstH.only (i := 3) (by kernel_rfl) (by decide) inv (fun inv => wpOp_call (i := 3) rfl rfl 109 rfl (Op.call { callee := .value (.func 18), args := #[.tmp 107, .tmp 108], argTypes := #[33, 33] }) rfl 18 #[.agg #[xr.m, xr.t], .agg #[.slice B1 m1 d1, .slice B2 m2 d2]] (by unfold bareO; go_simp) (KSM.out) ?_)
                rintro e u ⟨rfl, b9⟩
                have J2 := J9.out.below b9
                have HS9 : u.heap[kv]? = some (.cells #[.slice A1 n1 c1, .slice A2 n2 c2] 46 (0, 0)) ∧ u.heap[kz]? = some (.cells #[.slice B1 m1 d1, .slice B2 m2 d2] 33 (0, 0)) := ⟨(b9.block kv (heap_lt HS.1)).trans HS.1, (b9.block kz (heap_lt HS.2)).trans HS.2⟩
                obtain ⟨p2, hp2⟩ : ∃ z, (if rd then p.propose X else p) = z := ⟨_, rfl⟩
                obtain ⟨q2, hq2⟩ : ∃ z, (if rd then q.proposeR X else q) = z := ⟨_, rfl⟩
                rw [hp2, hq2] at J2
                have J := Lib.hid J2
                clear HS b9 J2 hp2 hq2
                have HS := HS9
                clear HS9
                refine ⟨_, rfl, HS, ?_⟩
                try simp only [Act.put, List.setIfInBounds_toArray, List.set_cons_zero, List.set_cons_succ]
                refine FirstH.go (i := 4) (v := .bool true) rfl rfl 110 rfl (Op.move (.tmp 109)) rfl (by kernel_rfl) (fun _ _ _ h => h) inv (fun W hS => by unfold bareO; go_simp) HS (fun inv => ?_)
                try simp only [Act.put, List.setIfInBounds_toArray, List.set_cons_zero, List.set_cons_succ]
                refine FirstH.goG (i := 5) (v := .bool rd) rfl (by rfl) 111 rfl (Op.move (.tmp 13)) rfl (by kernel_rfl) (fun _ _ _ h => h) inv (fun W hS => by unfold bareO; go_simp) HS (fun inv => ?_)
                try simp only [Act.put, List.setIfInBounds_toArray, List.set_cons_zero, List.set_cons_succ]
                refine FirstH.goG (i := 6) (v := .bool rd) rfl (by rfl) 112 rfl (Op.move (.tmp 15)) rfl (by kernel_rfl) (fun _ _ _ h => h) inv (fun W hS => by unfold bareO; go_simp) HS (fun inv => ?_)
                try simp only [Act.put, List.setIfInBounds_toArray, List.set_cons_zero, List.set_cons_succ]
                refine FirstH.goG (i := 7) (v := .bool true) rfl (by rfl) 113 rfl (Op.binOp .eql 4 (.tmp 111) (.tmp 112) 4) rfl (by kernel_rfl) (fun _ _ _ h => h) inv (fun W hS => by unfold bareO; go_simp) HS (fun inv => ?_)
                try simp only [Act.put, List.setIfInBounds_toArray, List.set_cons_zero, List.set_cons_succ]
                refine FirstH.go (i := 8) (v := .bool true) rfl rfl 114 rfl (Op.pick (.tmp 110) (.tmp 113) (.const (.bool false))) rfl (by kernel_rfl) (fun _ _ _ h => h) inv (fun W hS => by unfold bareO; go_simp) HS (fun inv => ?_)
                try simp only [Act.put, List.setIfInBounds_toArray, List.set_cons_zero, List.set_cons_succ]
                refine ⟨by kernel_rfl, ?_⟩
                simp only [List.drop_succ_cons, List.drop_zero]
                clear HS
                go_wp2_with fail
                obtain ⟨r, hr0⟩ := J.out.r
                have JXd := Lib.hid ((⟨J.out.a, hr0, J.out.low⟩ : JX base W u bp m bd p2 q2 r).below (Below.refl _ _).drew)
                have LKx := Lib.hid J.out.lk
                have RGx := Lib.hid J.out.rg
                obtain ⟨A3, c3, e3, -, -, -⟩ := JXd.out.r.vx.m
                obtain ⟨A4, c4, e4, -, -, -⟩ := JXd.out.r.vx.t
                obtain ⟨n3, hn3⟩ : ∃ z, r.vx.X.length = z := ⟨_, rfl⟩
                obtain ⟨n4, hn4⟩ : ∃ z, r.vx.L.length = z := ⟨_, rfl⟩
                rw [hn3] at e3
                rw [hn4] at e4
                obtain ⟨ph, hph⟩ : ∃ z, q2.ph = z := ⟨_, rfl⟩
                obtain ⟨bal, hbal⟩ : ∃ z, q2.bal = z := ⟨_, rfl⟩
                obtain ⟨rd, hrd⟩ : ∃ z, q2.ready = z := ⟨_, rfl⟩
                have Q3 : Hid ((q2.rs r)[3]? = some (.int .u64 bal)) := Lib.hid (by rw [← hbal]; rfl)
                have Q4 : Hid ((q2.rs r)[4]? = some (.int .i64 ph)) := Lib.hid (by rw [← hph]; rfl)
                have Q11 : Hid ((q2.rs r)[11]? = some (.slice A3 n3 c3)) := Lib.hid (by rw [← e3]; rfl)
                have Q12 : Hid ((q2.rs r)[12]? = some (.slice A4 n4 c4)) := Lib.hid (by rw [← e4]; rfl)
                have HCH : Hid (r.vx.cs = #[.slice A3 n3 c3, .slice A4 n4 c4]) := Lib.hid (by simp only [Vl.cs]; rw [e3, e4])
                have hphp : p2.ph = ph := LKx.out.ph.trans hph
                have hbalp : p2.bal = bal := LKx.out.bal.trans hbal
                have hrdp : p2.ready = rd := LKx.out.ready.trans hrd
                have K35 : Hid (∀ v, JX base W v bp m bd p2 q2 r → Calls Try.prog 35 #[.pointer (some ⟨bp, 0, none⟩)] v fun e W' => e = .returned (.int .i64 ph) ∧ v = W') := Lib.hid (by
                  intro v h
                  have := pPhase base v bp m p2 h.a
                  rw [hphp] at this
                  exact this)
                have K36 : Hid (∀ v, JX base W v bp m bd p2 q2 r → Calls Try.prog 36 #[.pointer (some ⟨bp, 0, none⟩)] v fun e W' => e = .returned (.bool rd) ∧ Below v.heap.size v W') := Lib.hid (by
                  intro v h
                  have := pReady base v bp m p2 h.a
                  rw [hrdp] at this
                  exact this)
                have K37 : Hid (∀ v, JX base W v bp m bd p2 q2 r → Calls Try.prog 37 #[.pointer (some ⟨bd, 0, none⟩)] v fun e W' => e = .returned (.bool rd) ∧ Below v.heap.size v W') := Lib.hid (by
                  intro v h
                  have := rReady v base bd q2 r h.r
                  rw [hrd] at this
                  exact this)
                have K38 : Hid (∀ v, JX base W v bp m bd p2 q2 r → Calls Try.prog 38 #[.pointer (some ⟨bp, 0, none⟩)] v fun e W' => e = .returned (.int .u64 bal) ∧ v = W') := Lib.hid (by
                  intro v h
                  have := pBallot base v bp m p2 h.a
                  rw [hbalp] at this
                  exact this)
                clear hphp hbalp hrdp
                clear hr0 e3 e4 hn3 hn4 hph hbal hrd
                refine region_heldT (S := fun v => v.heap[bd]? = some (.cells (q2.rs r) 80 (0, 0))) 46 (by kernel_rfl) (by decide) (fun inv => ?_)
                have HS : u.drew.heap[bd]? = some (.cells (q2.rs r) 80 (0, 0)) := JXd.out.r.blk
                change FirstH _ _ _ _ _ _ _ _ _ _ u.drew
                generalize u.drew = u4 at *
                refine FirstH.go (i := 0) (v := .bool true) rfl rfl 127 rfl (Op.move (.tmp 11)) rfl (by kernel_rfl) (fun _ _ _ h => h) inv (fun W hS => by unfold bareO; go_simp) HS (fun inv => ?_)
                try simp only [Act.put, List.setIfInBounds_toArray, List.set_cons_zero, List.set_cons_succ]
                refine FirstH.go (i := 1) (v := .bool false) rfl rfl 128 rfl (Op.unOp .not 4 (.tmp 127)) rfl (by kernel_rfl) (fun _ _ _ h => h) inv (fun W hS => by unfold bareO; go_simp) HS (fun inv => ?_)
                try simp only [Act.put, List.setIfInBounds_toArray, List.set_cons_zero, List.set_cons_succ]
                refine FirstH.go (i := 2) (v := .bool false) rfl rfl 129 rfl (Op.move (.tmp 128)) rfl (by kernel_rfl) (fun _ _ _ h => h) inv (fun W hS => by unfold bareO; go_simp) HS (fun inv => ?_)
                try simp only [Act.put, List.setIfInBounds_toArray, List.set_cons_zero, List.set_cons_succ]
                refine FirstH.goG (i := 3) (v := .pointer (some ⟨bp, 0, none⟩)) rfl (by rfl) 130 rfl (Op.move (.tmp 7)) rfl (by kernel_rfl) (fun _ _ _ h => h) inv (fun W hS => by unfold bareO; go_simp) HS (fun inv => ?_)
                try simp only [Act.put, List.setIfInBounds_toArray, List.set_cons_zero, List.set_cons_succ]
                refine FirstH.goG (i := 5) (v := .pointer (some ⟨bd, 0, none⟩)) rfl (by rfl) 132 rfl (Op.move (.tmp 8)) rfl (by kernel_rfl) (fun _ _ _ h => h) inv (fun W hS => by unfold bareO; go_simp) HS (fun inv => ?_)
                try simp only [Act.put, List.setIfInBounds_toArray, List.set_cons_zero, List.set_cons_succ]
                refine FirstH.goG (i := 6) (v := .pointer (some ⟨bd, 0, none⟩)) rfl (by rfl) 133 rfl (Op.nilCheck (.tmp 132)) rfl (by kernel_rfl) (fun _ _ _ h => h) inv (fun W hS => by unfold bareO; go_simp) HS (fun inv => ?_)
                try simp only [Act.put, List.setIfInBounds_toArray, List.set_cons_zero, List.set_cons_succ]
                refine FirstH.goG (i := 7) (v := .pointer (some ⟨bd, 4, none⟩)) rfl (by rfl) 134 rfl (Op.fieldAddr 80 (.tmp 133) 2) rfl (by kernel_rfl) (fun _ _ _ h => h) inv (fun W hS => by unfold bareO; go_simp) HS (fun inv => ?_)
                try simp only [Act.put, List.setIfInBounds_toArray, List.set_cons_zero, List.set_cons_succ]
                refine FirstH.goG (i := 8) (v := .int .i64 ph) rfl (by rfl) 135 rfl (Op.load 3 (.tmp 134)) rfl (by kernel_rfl) (fun _ _ _ h => h) inv (fun W hS => by have q3 := cell_of hS 3 _ Q3.out; have q4 := cell_of hS 4 _ Q4.out; have q11 := cell_of hS 11 _ Q11.out; have q12 := cell_of hS 12 _ Q12.out; unfold bareO; go_simp) HS (fun inv => ?_)
                try simp only [Act.put, List.setIfInBounds_toArray, List.set_cons_zero, List.set_cons_succ]
                refine FirstH.only (i := 4) (by kernel_rfl) (by decide) inv (fun inv => wpOp_callG (i := 4) rfl (by rfl) 131 rfl (Op.call { callee := .value (.func 35), args := #[.tmp 130], argTypes := #[59] }) rfl 35 #[.pointer (some ⟨bp, 0, none⟩)] (by unfold bareO; go_simp) (K35.out u4 JXd.out) ?_)
                rintro e ux ⟨rfl, rfl⟩
                refine ⟨_, rfl, HS, ?_⟩
                try simp only [Act.put, List.setIfInBounds_toArray, List.set_cons_zero, List.set_cons_succ]
                refine FirstH.goG (i := 9) (v := .bool false) rfl (by rfl) 136 rfl (Op.binOp .neq 3 (.tmp 131) (.tmp 135) 3) rfl (by kernel_rfl) (fun _ _ _ h => h) inv (fun W hS => by unfold bareO; go_simp) HS (fun inv => ?_)
                try simp only [Act.put, List.setIfInBounds_toArray, List.set_cons_zero, List.set_cons_succ]
                refine FirstH.go (i := 10) (v := .bool false) rfl rfl 137 rfl (Op.pick (.tmp 129) (.const (.bool true)) (.tmp 136)) rfl (by kernel_rfl) (fun _ _ _ h => h) inv (fun W hS => by unfold bareO; go_simp) HS (fun inv => ?_)
                try simp only [Act.put, List.setIfInBounds_toArray, List.set_cons_zero, List.set_cons_succ]
                refine FirstH.go (i := 11) (v := .bool false) rfl rfl 138 rfl (Op.move (.tmp 137)) rfl (by kernel_rfl) (fun _ _ _ h => h) inv (fun W hS => by unfold bareO; go_simp) HS (fun inv => ?_)
                try simp only [Act.put, List.setIfInBounds_toArray, List.set_cons_zero, List.set_cons_succ]
                refine FirstH.goG (i := 12) (v := .pointer (some ⟨bp, 0, none⟩)) rfl (by rfl) 139 rfl (Op.move (.tmp 7)) rfl (by kernel_rfl) (fun _ _ _ h => h) inv (fun W hS => by unfold bareO; go_simp) HS (fun inv => ?_)
                try simp only [Act.put, List.setIfInBounds_toArray, List.set_cons_zero, List.set_cons_succ]
                refine FirstH.goG (i := 14) (v := .pointer (some ⟨bd, 0, none⟩)) rfl (by rfl) 141 rfl (Op.move (.tmp 8)) rfl (by kernel_rfl) (fun _ _ _ h => h) inv (fun W hS => by unfold bareO; go_simp) HS (fun inv => ?_)
                try simp only [Act.put, List.setIfInBounds_toArray, List.set_cons_zero, List.set_cons_succ]
                refine FirstH.only (i := 13) (by kernel_rfl) (by decide) inv (fun inv => wpOp_callG (i := 13) rfl (by rfl) 140 rfl (Op.call { callee := .value (.func 36), args := #[.tmp 139], argTypes := #[59] }) rfl 36 #[.pointer (some ⟨bp, 0, none⟩)] (by unfold bareO; go_simp) (K36.out u4 JXd.out) ?_)
                rintro e u5 ⟨rfl, b5⟩
                have JXn := Lib.hid (JXd.out.below b5)
                have HSn : u5.heap[bd]? = some (.cells (q2.rs r) 80 (0, 0)) := JXn.out.r.blk
                clear HS JXd
                have HS := HSn
                have JXd := JXn
                clear HSn JXn b5
                refine ⟨_, rfl, HS, ?_⟩
                try simp only [Act.put, List.setIfInBounds_toArray, List.set_cons_zero, List.set_cons_succ]
                refine FirstH.only (i := 15) (by kernel_rfl) (by decide) inv (fun inv => wpOp_callG (i := 15) rfl (by rfl) 142 rfl (Op.call { callee := .value (.func 37), args := #[.tmp 141], argTypes := #[64] }) rfl 37 #[.pointer (some ⟨bd, 0, none⟩)] (by unfold bareO; go_simp) (K37.out u5 JXd.out) ?_)
                rintro e u6 ⟨rfl, b5⟩
                have JXn := Lib.hid (JXd.out.below b5)
                have HSn : u6.heap[bd]? = some (.cells (q2.rs r) 80 (0, 0)) := JXn.out.r.blk
                clear HS JXd
                have HS := HSn
                have JXd := JXn
                clear HSn JXn b5
                refine ⟨_, rfl, HS, ?_⟩
                try simp only [Act.put, List.setIfInBounds_toArray, List.set_cons_zero, List.set_cons_succ]
                refine FirstH.goG (i := 16) (v := .bool false) rfl (by rfl) 143 rfl (Op.binOp .neq 4 (.tmp 140) (.tmp 142) 4) rfl (by kernel_rfl) (fun _ _ _ h => h) inv (fun W hS => by unfold bareO; go_simp) HS (fun inv => ?_)
                try simp only [Act.put, List.setIfInBounds_toArray, List.set_cons_zero, List.set_cons_succ]
                refine FirstH.go (i := 17) (v := .bool false) rfl rfl 144 rfl (Op.pick (.tmp 138) (.const (.bool true)) (.tmp 143)) rfl (by kernel_rfl) (fun _ _ _ h => h) inv (fun W hS => by unfold bareO; go_simp) HS (fun inv => ?_)
                try simp only [Act.put, List.setIfInBounds_toArray, List.set_cons_zero, List.set_cons_succ]
                refine FirstH.go (i := 18) (v := .bool false) rfl rfl 145 rfl (Op.move (.tmp 144)) rfl (by kernel_rfl) (fun _ _ _ h => h) inv (fun W hS => by unfold bareO; go_simp) HS (fun inv => ?_)
                try simp only [Act.put, List.setIfInBounds_toArray, List.set_cons_zero, List.set_cons_succ]
                refine FirstH.goG (i := 19) (v := .pointer (some ⟨bp, 0, none⟩)) rfl (by rfl) 146 rfl (Op.move (.tmp 7)) rfl (by kernel_rfl) (fun _ _ _ h => h) inv (fun W hS => by unfold bareO; go_simp) HS (fun inv => ?_)
                try simp only [Act.put, List.setIfInBounds_toArray, List.set_cons_zero, List.set_cons_succ]
                refine FirstH.goG (i := 21) (v := .pointer (some ⟨bd, 0, none⟩)) rfl (by rfl) 148 rfl (Op.move (.tmp 8)) rfl (by kernel_rfl) (fun _ _ _ h => h) inv (fun W hS => by unfold bareO; go_simp) HS (fun inv => ?_)
                try simp only [Act.put, List.setIfInBounds_toArray, List.set_cons_zero, List.set_cons_succ]
                refine FirstH.goG (i := 22) (v := .pointer (some ⟨bd, 0, none⟩)) rfl (by rfl) 149 rfl (Op.nilCheck (.tmp 148)) rfl (by kernel_rfl) (fun _ _ _ h => h) inv (fun W hS => by unfold bareO; go_simp) HS (fun inv => ?_)
                try simp only [Act.put, List.setIfInBounds_toArray, List.set_cons_zero, List.set_cons_succ]
                refine FirstH.goG (i := 23) (v := .pointer (some ⟨bd, 3, none⟩)) rfl (by rfl) 150 rfl (Op.fieldAddr 80 (.tmp 149) 1) rfl (by kernel_rfl) (fun _ _ _ h => h) inv (fun W hS => by unfold bareO; go_simp) HS (fun inv => ?_)
                try simp only [Act.put, List.setIfInBounds_toArray, List.set_cons_zero, List.set_cons_succ]
                refine FirstH.goG (i := 24) (v := .int .u64 bal) rfl (by rfl) 151 rfl (Op.load 29 (.tmp 150)) rfl (by kernel_rfl) (fun _ _ _ h => h) inv (fun W hS => by have q3 := cell_of hS 3 _ Q3.out; have q4 := cell_of hS 4 _ Q4.out; have q11 := cell_of hS 11 _ Q11.out; have q12 := cell_of hS 12 _ Q12.out; unfold bareO; go_simp) HS (fun inv => ?_)
                try simp only [Act.put, List.setIfInBounds_toArray, List.set_cons_zero, List.set_cons_succ]
                refine FirstH.only (i := 20) (by kernel_rfl) (by decide) inv (fun inv => wpOp_callG (i := 20) rfl (by rfl) 147 rfl (Op.call { callee := .value (.func 38), args := #[.tmp 146], argTypes := #[59] }) rfl 38 #[.pointer (some ⟨bp, 0, none⟩)] (by unfold bareO; go_simp) (K38.out u6 JXd.out) ?_)
                rintro e ux ⟨rfl, rfl⟩
                refine ⟨_, rfl, HS, ?_⟩
                try simp only [Act.put, List.setIfInBounds_toArray, List.set_cons_zero, List.set_cons_succ]
                refine FirstH.goG (i := 25) (v := .bool false) rfl (by rfl) 152 rfl (Op.binOp .neq 29 (.tmp 147) (.tmp 151) 29) rfl (by kernel_rfl) (fun _ _ _ h => h) inv (fun W hS => by unfold bareO; go_simp) HS (fun inv => ?_)
                try simp only [Act.put, List.setIfInBounds_toArray, List.set_cons_zero, List.set_cons_succ]
                refine FirstH.go (i := 26) (v := .bool false) rfl rfl 153 rfl (Op.pick (.tmp 145) (.const (.bool true)) (.tmp 152)) rfl (by kernel_rfl) (fun _ _ _ h => h) inv (fun W hS => by unfold bareO; go_simp) HS (fun inv => ?_)
                try simp only [Act.put, List.setIfInBounds_toArray, List.set_cons_zero, List.set_cons_succ]
                refine FirstH.go (i := 27) (v := .bool false) rfl rfl 154 rfl (Op.move (.tmp 153)) rfl (by kernel_rfl) (fun _ _ _ h => h) inv (fun W hS => by unfold bareO; go_simp) HS (fun inv => ?_)
                try simp only [Act.put, List.setIfInBounds_toArray, List.set_cons_zero, List.set_cons_succ]
                refine FirstH.goG (i := 28) (v := .pointer (some ⟨bp, 0, none⟩)) rfl (by rfl) 155 rfl (Op.move (.tmp 7)) rfl (by kernel_rfl) (fun _ _ _ h => h) inv (fun W hS => by unfold bareO; go_simp) HS (fun inv => ?_)
                try simp only [Act.put, List.setIfInBounds_toArray, List.set_cons_zero, List.set_cons_succ]
                refine FirstH.goG (i := 31) (v := .pointer (some ⟨bd, 0, none⟩)) rfl (by rfl) 158 rfl (Op.move (.tmp 8)) rfl (by kernel_rfl) (fun _ _ _ h => h) inv (fun W hS => by unfold bareO; go_simp) HS (fun inv => ?_)
                try simp only [Act.put, List.setIfInBounds_toArray, List.set_cons_zero, List.set_cons_succ]
                refine FirstH.goG (i := 32) (v := .pointer (some ⟨bd, 0, none⟩)) rfl (by rfl) 159 rfl (Op.nilCheck (.tmp 158)) rfl (by kernel_rfl) (fun _ _ _ h => h) inv (fun W hS => by unfold bareO; go_simp) HS (fun inv => ?_)
                try simp only [Act.put, List.setIfInBounds_toArray, List.set_cons_zero, List.set_cons_succ]
                refine FirstH.goG (i := 33) (v := .pointer (some ⟨bd, 11, none⟩)) rfl (by rfl) 160 rfl (Op.fieldAddr 80 (.tmp 159) 8) rfl (by kernel_rfl) (fun _ _ _ h => h) inv (fun W hS => by unfold bareO; go_simp) HS (fun inv => ?_)
                try simp only [Act.put, List.setIfInBounds_toArray, List.set_cons_zero, List.set_cons_succ]
                refine FirstH.goG (i := 34) (v := .agg #[.slice A3 n3 c3, .slice A4 n4 c4]) rfl (by rfl) 161 rfl (Op.load 33 (.tmp 160)) rfl (by kernel_rfl) (fun _ _ _ h => h) inv (fun W hS => by have q3 := cell_of hS 3 _ Q3.out; have q4 := cell_of hS 4 _ Q4.out; have q11 := cell_of hS 11 _ Q11.out; have q12 := cell_of hS 12 _ Q12.out; unfold bareO; go_simp) HS (fun inv => ?_)
                try simp only [Act.put, List.setIfInBounds_toArray, List.set_cons_zero, List.set_cons_succ]
                refine FirstH.only (i := 29) (by kernel_rfl) (by decide) inv (fun inv => wpOp_callG (i := 29) rfl (by rfl) 156 rfl (Op.call { callee := .value (.func 39), args := #[.tmp 155], argTypes := #[59] }) rfl 39 #[.pointer (some ⟨bp, 0, none⟩)] (by unfold bareO; go_simp) (pValue base u6 bp m p2 JXd.out.a) ?_)
                rintro e u7 ⟨xv, rfl, okv, dv, b5⟩
                have KRF := Lib.hid (refVal xv u7 okv)
                have HDV := Lib.hid dv
                have JXn := Lib.hid (JXd.out.below b5)
                have HSn : u7.heap[bd]? = some (.cells (q2.rs r) 80 (0, 0)) := JXn.out.r.blk
                clear HS JXd
                have HS := HSn
                have JXd := JXn
                clear HSn JXn b5 okv dv
                refine ⟨_, rfl, HS, ?_⟩
                try simp only [Act.put, List.setIfInBounds_toArray, List.set_cons_zero, List.set_cons_succ]
                refine FirstH.only (i := 30) (by kernel_rfl) (by decide) inv (fun inv => wpOp_callG (i := 30) rfl (by rfl) 157 rfl (Op.call { callee := .value (.func 19), args := #[.tmp 156], argTypes := #[46] }) rfl 19 #[.agg xv.cs] (by unfold bareO; go_simp) (KRF.out) ?_)
                rintro e u8 ⟨xr, rfl, okr, dr, b5⟩
                have KSM : Hid (Calls Try.prog 18 #[.agg xr.cs, .agg #[.slice A3 n3 c3, .slice A4 n4 c4]] u8 fun r w' => r = .returned (.bool true) ∧ Below u8.heap.size u8 w') := Lib.hid (by
                  have JX8 := JXd.out.below b5
                  have hsz : base ≤ u8.heap.size := Nat.le_trans JX8.r.hb (Nat.le_of_lt JX8.r.lt)
                  have := refSameV xr r.vx u8 okr.at_ (JX8.r.vx.below (Below.refl u8.heap.size u8) hsz hsz) (by rw [dr, HDV.out, LKx.out.vd]; exact JX8.r.vd)
                  rw [HCH.out] at this
                  exact this)
                have JXn := Lib.hid (JXd.out.below b5)
                have HSn : u8.heap[bd]? = some (.cells (q2.rs r) 80 (0, 0)) := JXn.out.r.blk
                clear HS JXd
                have HS := HSn
                have JXd := JXn
                clear HSn JXn b5 okr dr KRF
                refine ⟨_, rfl, HS, ?_⟩
                try simp only [Act.put, List.setIfInBounds_toArray, List.set_cons_zero, List.set_cons_succ]
                refine FirstH.only (i := 35) (by kernel_rfl) (by decide) inv (fun inv => wpOp_callG (i := 35) rfl (by rfl) 162 rfl (Op.call { callee := .value (.func 18), args := #[.tmp 157, .tmp 161], argTypes := #[33, 33] }) rfl 18 #[.agg xr.cs, .agg #[.slice A3 n3 c3, .slice A4 n4 c4]] (by unfold bareO; go_simp) (KSM.out) ?_)
                rintro e u9 ⟨rfl, b5⟩
                have JXn := Lib.hid (JXd.out.below b5)
                have HSn : u9.heap[bd]? = some (.cells (q2.rs r) 80 (0, 0)) := JXn.out.r.blk
                clear HS JXd
                have HS := HSn
                have JXd := JXn
                clear HSn JXn b5 KSM
                refine ⟨_, rfl, HS, ?_⟩
                try simp only [Act.put, List.setIfInBounds_toArray, List.set_cons_zero, List.set_cons_succ]
                refine FirstH.goG (i := 36) (v := .bool false) rfl (by rfl) 163 rfl (Op.unOp .not 4 (.tmp 162)) rfl (by kernel_rfl) (fun _ _ _ h => h) inv (fun W hS => by unfold bareO; go_simp) HS (fun inv => ?_)
                try simp only [Act.put, List.setIfInBounds_toArray, List.set_cons_zero, List.set_cons_succ]
                refine FirstH.go (i := 37) (v := .bool false) rfl rfl 164 rfl (Op.pick (.tmp 154) (.const (.bool true)) (.tmp 163)) rfl (by kernel_rfl) (fun _ _ _ h => h) inv (fun W hS => by unfold bareO; go_simp) HS (fun inv => ?_)
                try simp only [Act.put, List.setIfInBounds_toArray, List.set_cons_zero, List.set_cons_succ]
                refine FirstH.go (i := 38) (v := .bool false) rfl rfl 165 rfl (Op.move (.tmp 164)) rfl (by kernel_rfl) (fun _ _ _ h => h) inv (fun W hS => by unfold bareO; go_simp) HS (fun inv => ?_)
                try simp only [Act.put, List.setIfInBounds_toArray, List.set_cons_zero, List.set_cons_succ]
                refine FirstH.goG (i := 39) (v := .pointer (some ⟨bp, 0, none⟩)) rfl (by rfl) 166 rfl (Op.move (.tmp 7)) rfl (by kernel_rfl) (fun _ _ _ h => h) inv (fun W hS => by unfold bareO; go_simp) HS (fun inv => ?_)
                try simp only [Act.put, List.setIfInBounds_toArray, List.set_cons_zero, List.set_cons_succ]
                refine FirstH.goG (i := 42) (v := .pointer (some ⟨bd, 0, none⟩)) rfl (by rfl) 169 rfl (Op.move (.tmp 8)) rfl (by kernel_rfl) (fun _ _ _ h => h) inv (fun W hS => by unfold bareO; go_simp) HS (fun inv => ?_)
                try simp only [Act.put, List.setIfInBounds_toArray, List.set_cons_zero, List.set_cons_succ]
                refine FirstH.only (i := 40) (by kernel_rfl) (by decide) inv (fun inv => wpOp_callG (i := 40) rfl (by rfl) 167 rfl (Op.call { callee := .value (.func 42), args := #[.tmp 166], argTypes := #[59] }) rfl 42 #[.pointer (some ⟨bp, 0, none⟩)] (by unfold bareO; go_simp) (pMissing base u9 bp m p2 JXd.out.a RGx.out) ?_)
                rintro e u10 ⟨mv, rfl, om, b5⟩
                rw [LKx.out.missing] at om
                have hml : q2.missing.length ≤ 8 := by
                  have := JXd.out.r.few
                  unfold Pd.missing
                  split
                  · simp
                  · exact Nat.le_trans (List.length_filter_le _ _) this.1
                obtain ⟨Am, cm, em, hrm, hlm, hmm⟩ := V.rowsV_of_own om
                obtain ⟨nm, hnm⟩ : ∃ z, q2.missing.length = z := ⟨_, rfl⟩
                have KRP := Lib.hid (V.refProcs Am q2.missing cm u10 hrm (by omega) hlm hmm)
                rw [hnm] at em KRP
                subst em
                have JXn := Lib.hid (JXd.out.below b5)
                have HSn : u10.heap[bd]? = some (.cells (q2.rs r) 80 (0, 0)) := JXn.out.r.blk
                clear HS JXd
                have HS := HSn
                have JXd := JXn
                clear HSn JXn b5 om hrm hlm hmm
                refine ⟨_, rfl, HS, ?_⟩
                try simp only [Act.put, List.setIfInBounds_toArray, List.set_cons_zero, List.set_cons_succ]
                refine FirstH.only (i := 41) (by kernel_rfl) (by decide) inv (fun inv => wpOp_callG (i := 41) rfl (by rfl) 168 rfl (Op.call { callee := .value (.func 41), args := #[.tmp 167], argTypes := #[43] }) rfl 41 #[.slice Am nm cm] (by unfold bareO; go_simp) (KRP.out) ?_)
                rintro e u11 ⟨rv, rfl, orv, b5⟩
                have ORV := Lib.hid orv
                have JXn := Lib.hid (JXd.out.below b5)
                have HSn : u11.heap[bd]? = some (.cells (q2.rs r) 80 (0, 0)) := JXn.out.r.blk
                clear HS JXd
                have HS := HSn
                have JXd := JXn
                clear HSn JXn b5 orv KRP
                refine ⟨_, rfl, HS, ?_⟩
                try simp only [Act.put, List.setIfInBounds_toArray, List.set_cons_zero, List.set_cons_succ]
                refine FirstH.only (i := 43) (by kernel_rfl) (by decide) inv (fun inv => wpOp_callG (i := 43) rfl (by rfl) 170 rfl (Op.call { callee := .value (.func 43), args := #[.tmp 169], argTypes := #[64] }) rfl 43 #[.pointer (some ⟨bd, 0, none⟩)] (by unfold bareO; go_simp) (rMissing u11 base bd q2 r JXd.out.r) ?_)
                rintro e u12 ⟨dv, rfl, odv, b5⟩
                have orv2 := V.own_kept ORV.out b5
                rw [← hnm] at orv2
                obtain ⟨Ar, cr, er, hrr, hlr, hmr⟩ := V.rowsV_of_own orv2
                obtain ⟨Ad, cd, ed, hrd', hld, hmd⟩ := V.rowsV_of_own odv
                have KSP : Hid (Calls Try.prog 40 #[rv, dv] u12 fun e w' => e = .returned (.bool true) ∧ Below u12.heap.size u12 w') := Lib.hid (by
                  rw [er, ed]
                  exact (V.sameProcs Ar Ad q2.missing q2.missing cr cd u12 hrr hrd' hlr hmr hld hmd).mono fun _ _ h => ⟨by rw [h.1]; simp, h.2⟩)
                clear orv2 er hrr hlr hmr ed hrd' hld hmd odv ORV
                have JXn := Lib.hid (JXd.out.below b5)
                have HSn : u12.heap[bd]? = some (.cells (q2.rs r) 80 (0, 0)) := JXn.out.r.blk
                clear HS JXd
                have HS := HSn
                have JXd := JXn
                clear HSn JXn b5
                refine ⟨_, rfl, HS, ?_⟩
                try simp only [Act.put, List.setIfInBounds_toArray, List.set_cons_zero, List.set_cons_succ]
                refine FirstH.only (i := 44) (by kernel_rfl) (by decide) inv (fun inv => wpOp_callG (i := 44) rfl (by rfl) 171 rfl (Op.call { callee := .value (.func 40), args := #[.tmp 168, .tmp 170], argTypes := #[30, 30] }) rfl 40 #[rv, dv] (by unfold bareO; go_simp) (KSP.out) ?_)
                rintro e u13 ⟨rfl, b5⟩
                have JXn := Lib.hid (JXd.out.below b5)
                have HSn : u13.heap[bd]? = some (.cells (q2.rs r) 80 (0, 0)) := JXn.out.r.blk
                clear HS JXd
                have HS := HSn
                have JXd := JXn
                clear HSn JXn b5 KSP
                refine ⟨_, rfl, HS, ?_⟩
                try simp only [Act.put, List.setIfInBounds_toArray, List.set_cons_zero, List.set_cons_succ]
                refine FirstH.goG (i := 45) (v := .bool false) rfl (by rfl) 172 rfl (Op.unOp .not 4 (.tmp 171)) rfl (by kernel_rfl) (fun _ _ _ h => h) inv (fun W hS => by unfold bareO; go_simp) HS (fun inv => ?_)
                try simp only [Act.put, List.setIfInBounds_toArray, List.set_cons_zero, List.set_cons_succ]
                refine ⟨by kernel_rfl, ?_⟩
                simp only [List.drop_succ_cons, List.drop_zero]
                have JN : Hid (JP base W u13 bp m bd p2 q2) := Lib.hid ⟨JXd.out.a, ⟨r, JXd.out.r⟩, LKx.out, RGx.out, JXd.out.low⟩
                clear HS
                go_wp2_with fail
                go_roundw
                case rel => exact ⟨k + 1, by have := HKN.out; omega, by go_num, _, _, JN⟩
                case measure => have := HKN.out; simp [intOf]; omega
              · have k3 : (kd == 3) = false := by simpa using e3
                clear e3
                rcases b04 with e4 | e4
                · have k4 : (kd == 4) = true := by simpa using e4
                  clear e4
                  as_aux_lemma =>
                  skip
                  go_wp2_with (first
                    | (refine wpList_load_mid rfl 40 (.tmp 54) rfl g (o + k * 8) (by rfl) cs.toList _ HC.out Try.underlying40 rfl HSZ2.out ?_)
                    | (rw [HUA.out, HKX.out])
                    | (refine wpList_store_row rfl 40 (.tmp 10) (.tmp 55) rfl kx cs (by rfl) (by rfl) 40 #[.int .i64 0, .int .u64 0, .int .u8 0, .int .u16 0, .slice none 0 0, .slice none 0 0, .slice none 0 0, .bool false] RA.out HSZ3.out HOLD.out HOB.out ?_; rw [HUB.out])
                    | fail)
                  go_wp2_with fail
                  refine region_heldT (S := fun v => v.heap[kx]? = some (.cells #[.int .i64 kd, .int .u64 ab, .int .u8 ap.n, .int .u16 ap.l, .slice TA nT tc, .slice MA nX mc, .slice LA nL lc, .bool has] 40 (0, 0))) 10 (by kernel_rfl) (by decide) (fun inv => ?_)
                  have HS : ub.drew.heap[kx]? = some (.cells #[.int .i64 kd, .int .u64 ab, .int .u8 ap.n, .int .u16 ap.l, .slice TA nT tc, .slice MA nX mc, .slice LA nL lc, .bool has] 40 (0, 0)) := RX.out
                  have JB := Lib.hid (JB0.out.below (Below.refl _ _).drew)
                  change FirstH _ _ _ _ _ _ _ _ _ _ ub.drew
                  generalize ub.drew = uc at *
                  refine FirstH.go (i := 0) (v := .pointer (some ⟨bp, 0, none⟩)) rfl rfl 117 rfl (Op.move (.tmp 7)) rfl (by kernel_rfl) (fun _ _ _ h => h) inv (fun W hS => by unfold bareO; go_simp) HS (fun inv => ?_)
                  try simp only [Act.put, List.setIfInBounds_toArray, List.set_cons_zero, List.set_cons_succ]
                  refine FirstH.go (i := 1) (v := .pointer (some ⟨kx, 2, none⟩)) rfl rfl 118 rfl (Op.fieldAddr 40 (.tmp 10) 2) rfl (by kernel_rfl) (fun _ _ _ h => h) inv (fun W hS => by unfold bareO; go_simp) HS (fun inv => ?_)
                  try simp only [Act.put, List.setIfInBounds_toArray, List.set_cons_zero, List.set_cons_succ]
                  refine FirstH.go (i := 2) (v := .agg #[.int .u8 ap.n, .int .u16 ap.l]) rfl rfl 119 rfl (Op.load 38 (.tmp 118)) rfl (by kernel_rfl) (fun _ _ _ h => h) inv (fun W hS => by have q0 := cell_of hS 0 (.int .i64 kd) rfl; have q1 := cell_of hS 1 (.int .u64 ab) rfl; have q2 := cell_of hS 2 (.int .u8 ap.n) rfl; have q3 := cell_of hS 3 (.int .u16 ap.l) rfl; have q4 := cell_of hS 4 (.slice TA nT tc) rfl; have q5 := cell_of hS 5 (.slice MA nX mc) rfl; have q6 := cell_of hS 6 (.slice LA nL lc) rfl; have q7 := cell_of hS 7 (.bool has) rfl; unfold bareO; go_simp) HS (fun inv => ?_)
                  try simp only [Act.put, List.setIfInBounds_toArray, List.set_cons_zero, List.set_cons_succ]
                  refine FirstH.go (i := 5) (v := .pointer (some ⟨bd, 0, none⟩)) rfl rfl 122 rfl (Op.move (.tmp 8)) rfl (by kernel_rfl) (fun _ _ _ h => h) inv (fun W hS => by unfold bareO; go_simp) HS (fun inv => ?_)
                  try simp only [Act.put, List.setIfInBounds_toArray, List.set_cons_zero, List.set_cons_succ]
                  refine FirstH.go (i := 6) (v := .pointer (some ⟨kx, 2, none⟩)) rfl rfl 123 rfl (Op.fieldAddr 40 (.tmp 10) 2) rfl (by kernel_rfl) (fun _ _ _ h => h) inv (fun W hS => by unfold bareO; go_simp) HS (fun inv => ?_)
                  try simp only [Act.put, List.setIfInBounds_toArray, List.set_cons_zero, List.set_cons_succ]
                  refine FirstH.go (i := 7) (v := .agg #[.int .u8 ap.n, .int .u16 ap.l]) rfl rfl 124 rfl (Op.load 38 (.tmp 123)) rfl (by kernel_rfl) (fun _ _ _ h => h) inv (fun W hS => by have q0 := cell_of hS 0 (.int .i64 kd) rfl; have q1 := cell_of hS 1 (.int .u64 ab) rfl; have q2 := cell_of hS 2 (.int .u8 ap.n) rfl; have q3 := cell_of hS 3 (.int .u16 ap.l) rfl; have q4 := cell_of hS 4 (.slice TA nT tc) rfl; have q5 := cell_of hS 5 (.slice MA nX mc) rfl; have q6 := cell_of hS 6 (.slice LA nL lc) rfl; have q7 := cell_of hS 7 (.bool has) rfl; unfold bareO; go_simp) HS (fun inv => ?_)
                  try simp only [Act.put, List.setIfInBounds_toArray, List.set_cons_zero, List.set_cons_succ]
                  refine FirstH.only (i := 3) (by kernel_rfl) (by decide) inv (fun inv => wpOp_call (i := 3) rfl rfl 120 rfl (Op.call { callee := .value (.func 27), args := #[.tmp 119], argTypes := #[38] }) rfl 27 #[.agg #[.int .u8 ap.n, .int .u16 ap.l]] (by unfold bareO; go_simp) (proc3 ap uc) ?_)
                  rintro e ud ⟨rfl, bd1⟩
                  have JD := Lib.hid (JB.out.below bd1)
                  have HSd : ud.heap[kx]? = some (.cells #[.int .i64 kd, .int .u64 ab, .int .u8 ap.n, .int .u16 ap.l, .slice TA nT tc, .slice MA nX mc, .slice LA nL lc, .bool has] 40 (0, 0)) := (bd1.block kx (heap_lt HS)).trans HS
                  refine ⟨_, rfl, HSd, ?_⟩
                  try simp only [Act.put, List.setIfInBounds_toArray, List.set_cons_zero, List.set_cons_succ]
                  refine FirstH.only (i := 4) (by kernel_rfl) (by decide) inv (fun inv => wpOp_call (i := 4) rfl rfl 121 rfl (Op.call { callee := .value (.func 33), args := #[.tmp 117, .tmp 120], argTypes := #[59, 67] }) rfl 33 #[.pointer (some ⟨bp, 0, none⟩), .agg #[.int .u8 ap.n, .int .u16 ap.l]] (by unfold bareO; go_simp) (pAccepted base ud bp m p JD.out.a ap RGA.out) ?_)
                  rintro e ue ⟨rfl, hpp, kp⟩
                  have JG := Lib.hid (JD.out.half hpp kp)
                  have HSe : ue.heap[kx]? = some (.cells #[.int .i64 kd, .int .u64 ab, .int .u8 ap.n, .int .u16 ap.l, .slice TA nT tc, .slice MA nX mc, .slice LA nL lc, .bool has] 40 (0, 0)) := (kp.block kx (heap_lt HSd) (JD.out.freeP HSd (by decide) (by decide))).trans HSd
                  have LKP := Lib.hid (JD.out.lk.accepted ap)
                  obtain ⟨r, hr⟩ := JG.out.r
                  have HR := Lib.hid hr
                  have KRA := Lib.hid (rAccepted ue base bd q r hr ap)
                  have hph := LKP.out.ph
                  obtain ⟨dn, hdn⟩ : ∃ z, decide ((q.accepted ap).ph = 2) = z := ⟨_, rfl⟩
                  rw [hdn] at KRA
                  have hdp : decide ((p.accepted ap).ph = 2) = dn := by rw [hph]; exact hdn
                  rw [hdp]
                  clear hph hdn hdp hpp kp hr
                  refine ⟨_, rfl, HSe, ?_⟩
                  try simp only [Act.put, List.setIfInBounds_toArray, List.set_cons_zero, List.set_cons_succ]
                  refine FirstH.only (i := 8) (by kernel_rfl) (by decide) inv (fun inv => wpOp_call (i := 8) rfl rfl 125 rfl (Op.call { callee := .value (.func 34), args := #[.tmp 122, .tmp 124], argTypes := #[64, 38] }) rfl 34 #[.pointer (some ⟨bd, 0, none⟩), .agg #[.int .u8 ap.n, .int .u16 ap.l]] (by unfold bareO; go_simp) (KRA.out) ?_)
                  rintro e u ⟨rfl, r', hr', kq⟩
                  have HSf : u.heap[kx]? = some (.cells #[.int .i64 kd, .int .u64 ab, .int .u8 ap.n, .int .u16 ap.l, .slice TA nT tc, .slice MA nX mc, .slice LA nL lc, .bool has] 40 (0, 0)) := (kq.block kx (heap_lt HSe) (HR.out.free HSe (apart_of HSe HR.out.blk (by decide)) (by decide))).trans HSe
                  have J : Hid (JP base W u bp m bd (p.accepted ap) (q.accepted ap)) := Lib.hid (JG.out.full HR.out hr' kq LKP.out (by rw [accepted_M]; exact JD.out.rg))
                  obtain ⟨p2, hp2⟩ : ∃ z, p.accepted ap = z := ⟨_, rfl⟩
                  obtain ⟨q2, hq2⟩ : ∃ z, q.accepted ap = z := ⟨_, rfl⟩
                  rw [hp2, hq2] at J
                  clear HS hr' kq hp2 hq2 HSd HSe
                  refine ⟨_, rfl, HSf, ?_⟩
                  try simp only [Act.put, List.setIfInBounds_toArray, List.set_cons_zero, List.set_cons_succ]
                  refine FirstH.go (i := 9) (v := .bool true) rfl rfl 126 rfl (Op.binOp .eql 4 (.tmp 121) (.tmp 125) 4) rfl (by kernel_rfl) (fun _ _ _ h => h) inv (fun W hS => by unfold bareO; go_simp) HSf (fun inv => ?_)
                  try simp only [Act.put, List.setIfInBounds_toArray, List.set_cons_zero, List.set_cons_succ]
                  refine ⟨by kernel_rfl, ?_⟩
                  simp only [List.drop_succ_cons, List.drop_zero]
                  clear HSf
                  go_wp2_with fail
                  obtain ⟨r, hr0⟩ := J.out.r
                  have JXd := Lib.hid ((⟨J.out.a, hr0, J.out.low⟩ : JX base W u bp m bd p2 q2 r).below (Below.refl _ _).drew)
                  have LKx := Lib.hid J.out.lk
                  have RGx := Lib.hid J.out.rg
                  obtain ⟨A3, c3, e3, -, -, -⟩ := JXd.out.r.vx.m
                  obtain ⟨A4, c4, e4, -, -, -⟩ := JXd.out.r.vx.t
                  obtain ⟨n3, hn3⟩ : ∃ z, r.vx.X.length = z := ⟨_, rfl⟩
                  obtain ⟨n4, hn4⟩ : ∃ z, r.vx.L.length = z := ⟨_, rfl⟩
                  rw [hn3] at e3
                  rw [hn4] at e4
                  obtain ⟨ph, hph⟩ : ∃ z, q2.ph = z := ⟨_, rfl⟩
                  obtain ⟨bal, hbal⟩ : ∃ z, q2.bal = z := ⟨_, rfl⟩
                  obtain ⟨rd, hrd⟩ : ∃ z, q2.ready = z := ⟨_, rfl⟩
                  have Q3 : Hid ((q2.rs r)[3]? = some (.int .u64 bal)) := Lib.hid (by rw [← hbal]; rfl)
                  have Q4 : Hid ((q2.rs r)[4]? = some (.int .i64 ph)) := Lib.hid (by rw [← hph]; rfl)
                  have Q11 : Hid ((q2.rs r)[11]? = some (.slice A3 n3 c3)) := Lib.hid (by rw [← e3]; rfl)
                  have Q12 : Hid ((q2.rs r)[12]? = some (.slice A4 n4 c4)) := Lib.hid (by rw [← e4]; rfl)
                  have HCH : Hid (r.vx.cs = #[.slice A3 n3 c3, .slice A4 n4 c4]) := Lib.hid (by simp only [Vl.cs]; rw [e3, e4])
                  have hphp : p2.ph = ph := LKx.out.ph.trans hph
                  have hbalp : p2.bal = bal := LKx.out.bal.trans hbal
                  have hrdp : p2.ready = rd := LKx.out.ready.trans hrd
                  have K35 : Hid (∀ v, JX base W v bp m bd p2 q2 r → Calls Try.prog 35 #[.pointer (some ⟨bp, 0, none⟩)] v fun e W' => e = .returned (.int .i64 ph) ∧ v = W') := Lib.hid (by
                    intro v h
                    have := pPhase base v bp m p2 h.a
                    rw [hphp] at this
                    exact this)
                  have K36 : Hid (∀ v, JX base W v bp m bd p2 q2 r → Calls Try.prog 36 #[.pointer (some ⟨bp, 0, none⟩)] v fun e W' => e = .returned (.bool rd) ∧ Below v.heap.size v W') := Lib.hid (by
                    intro v h
                    have := pReady base v bp m p2 h.a
                    rw [hrdp] at this
                    exact this)
                  have K37 : Hid (∀ v, JX base W v bp m bd p2 q2 r → Calls Try.prog 37 #[.pointer (some ⟨bd, 0, none⟩)] v fun e W' => e = .returned (.bool rd) ∧ Below v.heap.size v W') := Lib.hid (by
                    intro v h
                    have := rReady v base bd q2 r h.r
                    rw [hrd] at this
                    exact this)
                  have K38 : Hid (∀ v, JX base W v bp m bd p2 q2 r → Calls Try.prog 38 #[.pointer (some ⟨bp, 0, none⟩)] v fun e W' => e = .returned (.int .u64 bal) ∧ v = W') := Lib.hid (by
                    intro v h
                    have := pBallot base v bp m p2 h.a
                    rw [hbalp] at this
                    exact this)
                  clear hphp hbalp hrdp
                  clear hr0 e3 e4 hn3 hn4 hph hbal hrd
                  refine region_heldT (S := fun v => v.heap[bd]? = some (.cells (q2.rs r) 80 (0, 0))) 46 (by kernel_rfl) (by decide) (fun inv => ?_)
                  have HS : u.drew.heap[bd]? = some (.cells (q2.rs r) 80 (0, 0)) := JXd.out.r.blk
                  change FirstH _ _ _ _ _ _ _ _ _ _ u.drew
                  generalize u.drew = u4 at *
                  refine FirstH.go (i := 0) (v := .bool true) rfl rfl 127 rfl (Op.move (.tmp 11)) rfl (by kernel_rfl) (fun _ _ _ h => h) inv (fun W hS => by unfold bareO; go_simp) HS (fun inv => ?_)
                  try simp only [Act.put, List.setIfInBounds_toArray, List.set_cons_zero, List.set_cons_succ]
                  refine FirstH.go (i := 1) (v := .bool false) rfl rfl 128 rfl (Op.unOp .not 4 (.tmp 127)) rfl (by kernel_rfl) (fun _ _ _ h => h) inv (fun W hS => by unfold bareO; go_simp) HS (fun inv => ?_)
                  try simp only [Act.put, List.setIfInBounds_toArray, List.set_cons_zero, List.set_cons_succ]
                  refine FirstH.go (i := 2) (v := .bool false) rfl rfl 129 rfl (Op.move (.tmp 128)) rfl (by kernel_rfl) (fun _ _ _ h => h) inv (fun W hS => by unfold bareO; go_simp) HS (fun inv => ?_)
                  try simp only [Act.put, List.setIfInBounds_toArray, List.set_cons_zero, List.set_cons_succ]
                  refine FirstH.goG (i := 3) (v := .pointer (some ⟨bp, 0, none⟩)) rfl (by rfl) 130 rfl (Op.move (.tmp 7)) rfl (by kernel_rfl) (fun _ _ _ h => h) inv (fun W hS => by unfold bareO; go_simp) HS (fun inv => ?_)
                  try simp only [Act.put, List.setIfInBounds_toArray, List.set_cons_zero, List.set_cons_succ]
                  refine FirstH.goG (i := 5) (v := .pointer (some ⟨bd, 0, none⟩)) rfl (by rfl) 132 rfl (Op.move (.tmp 8)) rfl (by kernel_rfl) (fun _ _ _ h => h) inv (fun W hS => by unfold bareO; go_simp) HS (fun inv => ?_)
                  try simp only [Act.put, List.setIfInBounds_toArray, List.set_cons_zero, List.set_cons_succ]
                  refine FirstH.goG (i := 6) (v := .pointer (some ⟨bd, 0, none⟩)) rfl (by rfl) 133 rfl (Op.nilCheck (.tmp 132)) rfl (by kernel_rfl) (fun _ _ _ h => h) inv (fun W hS => by unfold bareO; go_simp) HS (fun inv => ?_)
                  try simp only [Act.put, List.setIfInBounds_toArray, List.set_cons_zero, List.set_cons_succ]
                  refine FirstH.goG (i := 7) (v := .pointer (some ⟨bd, 4, none⟩)) rfl (by rfl) 134 rfl (Op.fieldAddr 80 (.tmp 133) 2) rfl (by kernel_rfl) (fun _ _ _ h => h) inv (fun W hS => by unfold bareO; go_simp) HS (fun inv => ?_)
                  try simp only [Act.put, List.setIfInBounds_toArray, List.set_cons_zero, List.set_cons_succ]
                  refine FirstH.goG (i := 8) (v := .int .i64 ph) rfl (by rfl) 135 rfl (Op.load 3 (.tmp 134)) rfl (by kernel_rfl) (fun _ _ _ h => h) inv (fun W hS => by have q3 := cell_of hS 3 _ Q3.out; have q4 := cell_of hS 4 _ Q4.out; have q11 := cell_of hS 11 _ Q11.out; have q12 := cell_of hS 12 _ Q12.out; unfold bareO; go_simp) HS (fun inv => ?_)
                  try simp only [Act.put, List.setIfInBounds_toArray, List.set_cons_zero, List.set_cons_succ]
                  refine FirstH.only (i := 4) (by kernel_rfl) (by decide) inv (fun inv => wpOp_callG (i := 4) rfl (by rfl) 131 rfl (Op.call { callee := .value (.func 35), args := #[.tmp 130], argTypes := #[59] }) rfl 35 #[.pointer (some ⟨bp, 0, none⟩)] (by unfold bareO; go_simp) (K35.out u4 JXd.out) ?_)
                  rintro e ux ⟨rfl, rfl⟩
                  refine ⟨_, rfl, HS, ?_⟩
                  try simp only [Act.put, List.setIfInBounds_toArray, List.set_cons_zero, List.set_cons_succ]
                  refine FirstH.goG (i := 9) (v := .bool false) rfl (by rfl) 136 rfl (Op.binOp .neq 3 (.tmp 131) (.tmp 135) 3) rfl (by kernel_rfl) (fun _ _ _ h => h) inv (fun W hS => by unfold bareO; go_simp) HS (fun inv => ?_)
                  try simp only [Act.put, List.setIfInBounds_toArray, List.set_cons_zero, List.set_cons_succ]
                  refine FirstH.go (i := 10) (v := .bool false) rfl rfl 137 rfl (Op.pick (.tmp 129) (.const (.bool true)) (.tmp 136)) rfl (by kernel_rfl) (fun _ _ _ h => h) inv (fun W hS => by unfold bareO; go_simp) HS (fun inv => ?_)
                  try simp only [Act.put, List.setIfInBounds_toArray, List.set_cons_zero, List.set_cons_succ]
                  refine FirstH.go (i := 11) (v := .bool false) rfl rfl 138 rfl (Op.move (.tmp 137)) rfl (by kernel_rfl) (fun _ _ _ h => h) inv (fun W hS => by unfold bareO; go_simp) HS (fun inv => ?_)
                  try simp only [Act.put, List.setIfInBounds_toArray, List.set_cons_zero, List.set_cons_succ]
                  refine FirstH.goG (i := 12) (v := .pointer (some ⟨bp, 0, none⟩)) rfl (by rfl) 139 rfl (Op.move (.tmp 7)) rfl (by kernel_rfl) (fun _ _ _ h => h) inv (fun W hS => by unfold bareO; go_simp) HS (fun inv => ?_)
                  try simp only [Act.put, List.setIfInBounds_toArray, List.set_cons_zero, List.set_cons_succ]
                  refine FirstH.goG (i := 14) (v := .pointer (some ⟨bd, 0, none⟩)) rfl (by rfl) 141 rfl (Op.move (.tmp 8)) rfl (by kernel_rfl) (fun _ _ _ h => h) inv (fun W hS => by unfold bareO; go_simp) HS (fun inv => ?_)
                  try simp only [Act.put, List.setIfInBounds_toArray, List.set_cons_zero, List.set_cons_succ]
                  refine FirstH.only (i := 13) (by kernel_rfl) (by decide) inv (fun inv => wpOp_callG (i := 13) rfl (by rfl) 140 rfl (Op.call { callee := .value (.func 36), args := #[.tmp 139], argTypes := #[59] }) rfl 36 #[.pointer (some ⟨bp, 0, none⟩)] (by unfold bareO; go_simp) (K36.out u4 JXd.out) ?_)
                  rintro e u5 ⟨rfl, b5⟩
                  have JXn := Lib.hid (JXd.out.below b5)
                  have HSn : u5.heap[bd]? = some (.cells (q2.rs r) 80 (0, 0)) := JXn.out.r.blk
                  clear HS JXd
                  have HS := HSn
                  have JXd := JXn
                  clear HSn JXn b5
                  refine ⟨_, rfl, HS, ?_⟩
                  try simp only [Act.put, List.setIfInBounds_toArray, List.set_cons_zero, List.set_cons_succ]
                  refine FirstH.only (i := 15) (by kernel_rfl) (by decide) inv (fun inv => wpOp_callG (i := 15) rfl (by rfl) 142 rfl (Op.call { callee := .value (.func 37), args := #[.tmp 141], argTypes := #[64] }) rfl 37 #[.pointer (some ⟨bd, 0, none⟩)] (by unfold bareO; go_simp) (K37.out u5 JXd.out) ?_)
                  rintro e u6 ⟨rfl, b5⟩
                  have JXn := Lib.hid (JXd.out.below b5)
                  have HSn : u6.heap[bd]? = some (.cells (q2.rs r) 80 (0, 0)) := JXn.out.r.blk
                  clear HS JXd
                  have HS := HSn
                  have JXd := JXn
                  clear HSn JXn b5
                  refine ⟨_, rfl, HS, ?_⟩
                  try simp only [Act.put, List.setIfInBounds_toArray, List.set_cons_zero, List.set_cons_succ]
                  refine FirstH.goG (i := 16) (v := .bool false) rfl (by rfl) 143 rfl (Op.binOp .neq 4 (.tmp 140) (.tmp 142) 4) rfl (by kernel_rfl) (fun _ _ _ h => h) inv (fun W hS => by unfold bareO; go_simp) HS (fun inv => ?_)
                  try simp only [Act.put, List.setIfInBounds_toArray, List.set_cons_zero, List.set_cons_succ]
                  refine FirstH.go (i := 17) (v := .bool false) rfl rfl 144 rfl (Op.pick (.tmp 138) (.const (.bool true)) (.tmp 143)) rfl (by kernel_rfl) (fun _ _ _ h => h) inv (fun W hS => by unfold bareO; go_simp) HS (fun inv => ?_)
                  try simp only [Act.put, List.setIfInBounds_toArray, List.set_cons_zero, List.set_cons_succ]
                  refine FirstH.go (i := 18) (v := .bool false) rfl rfl 145 rfl (Op.move (.tmp 144)) rfl (by kernel_rfl) (fun _ _ _ h => h) inv (fun W hS => by unfold bareO; go_simp) HS (fun inv => ?_)
                  try simp only [Act.put, List.setIfInBounds_toArray, List.set_cons_zero, List.set_cons_succ]
                  refine FirstH.goG (i := 19) (v := .pointer (some ⟨bp, 0, none⟩)) rfl (by rfl) 146 rfl (Op.move (.tmp 7)) rfl (by kernel_rfl) (fun _ _ _ h => h) inv (fun W hS => by unfold bareO; go_simp) HS (fun inv => ?_)
                  try simp only [Act.put, List.setIfInBounds_toArray, List.set_cons_zero, List.set_cons_succ]
                  refine FirstH.goG (i := 21) (v := .pointer (some ⟨bd, 0, none⟩)) rfl (by rfl) 148 rfl (Op.move (.tmp 8)) rfl (by kernel_rfl) (fun _ _ _ h => h) inv (fun W hS => by unfold bareO; go_simp) HS (fun inv => ?_)
                  try simp only [Act.put, List.setIfInBounds_toArray, List.set_cons_zero, List.set_cons_succ]
                  refine FirstH.goG (i := 22) (v := .pointer (some ⟨bd, 0, none⟩)) rfl (by rfl) 149 rfl (Op.nilCheck (.tmp 148)) rfl (by kernel_rfl) (fun _ _ _ h => h) inv (fun W hS => by unfold bareO; go_simp) HS (fun inv => ?_)
                  try simp only [Act.put, List.setIfInBounds_toArray, List.set_cons_zero, List.set_cons_succ]
                  refine FirstH.goG (i := 23) (v := .pointer (some ⟨bd, 3, none⟩)) rfl (by rfl) 150 rfl (Op.fieldAddr 80 (.tmp 149) 1) rfl (by kernel_rfl) (fun _ _ _ h => h) inv (fun W hS => by unfold bareO; go_simp) HS (fun inv => ?_)
                  try simp only [Act.put, List.setIfInBounds_toArray, List.set_cons_zero, List.set_cons_succ]
                  refine FirstH.goG (i := 24) (v := .int .u64 bal) rfl (by rfl) 151 rfl (Op.load 29 (.tmp 150)) rfl (by kernel_rfl) (fun _ _ _ h => h) inv (fun W hS => by have q3 := cell_of hS 3 _ Q3.out; have q4 := cell_of hS 4 _ Q4.out; have q11 := cell_of hS 11 _ Q11.out; have q12 := cell_of hS 12 _ Q12.out; unfold bareO; go_simp) HS (fun inv => ?_)
                  try simp only [Act.put, List.setIfInBounds_toArray, List.set_cons_zero, List.set_cons_succ]
                  refine FirstH.only (i := 20) (by kernel_rfl) (by decide) inv (fun inv => wpOp_callG (i := 20) rfl (by rfl) 147 rfl (Op.call { callee := .value (.func 38), args := #[.tmp 146], argTypes := #[59] }) rfl 38 #[.pointer (some ⟨bp, 0, none⟩)] (by unfold bareO; go_simp) (K38.out u6 JXd.out) ?_)
                  rintro e ux ⟨rfl, rfl⟩
                  refine ⟨_, rfl, HS, ?_⟩
                  try simp only [Act.put, List.setIfInBounds_toArray, List.set_cons_zero, List.set_cons_succ]
                  refine FirstH.goG (i := 25) (v := .bool false) rfl (by rfl) 152 rfl (Op.binOp .neq 29 (.tmp 147) (.tmp 151) 29) rfl (by kernel_rfl) (fun _ _ _ h => h) inv (fun W hS => by unfold bareO; go_simp) HS (fun inv => ?_)
                  try simp only [Act.put, List.setIfInBounds_toArray, List.set_cons_zero, List.set_cons_succ]
                  refine FirstH.go (i := 26) (v := .bool false) rfl rfl 153 rfl (Op.pick (.tmp 145) (.const (.bool true)) (.tmp 152)) rfl (by kernel_rfl) (fun _ _ _ h => h) inv (fun W hS => by unfold bareO; go_simp) HS (fun inv => ?_)
                  try simp only [Act.put, List.setIfInBounds_toArray, List.set_cons_zero, List.set_cons_succ]
                  refine FirstH.go (i := 27) (v := .bool false) rfl rfl 154 rfl (Op.move (.tmp 153)) rfl (by kernel_rfl) (fun _ _ _ h => h) inv (fun W hS => by unfold bareO; go_simp) HS (fun inv => ?_)
                  try simp only [Act.put, List.setIfInBounds_toArray, List.set_cons_zero, List.set_cons_succ]
                  refine FirstH.goG (i := 28) (v := .pointer (some ⟨bp, 0, none⟩)) rfl (by rfl) 155 rfl (Op.move (.tmp 7)) rfl (by kernel_rfl) (fun _ _ _ h => h) inv (fun W hS => by unfold bareO; go_simp) HS (fun inv => ?_)
                  try simp only [Act.put, List.setIfInBounds_toArray, List.set_cons_zero, List.set_cons_succ]
                  refine FirstH.goG (i := 31) (v := .pointer (some ⟨bd, 0, none⟩)) rfl (by rfl) 158 rfl (Op.move (.tmp 8)) rfl (by kernel_rfl) (fun _ _ _ h => h) inv (fun W hS => by unfold bareO; go_simp) HS (fun inv => ?_)
                  try simp only [Act.put, List.setIfInBounds_toArray, List.set_cons_zero, List.set_cons_succ]
                  refine FirstH.goG (i := 32) (v := .pointer (some ⟨bd, 0, none⟩)) rfl (by rfl) 159 rfl (Op.nilCheck (.tmp 158)) rfl (by kernel_rfl) (fun _ _ _ h => h) inv (fun W hS => by unfold bareO; go_simp) HS (fun inv => ?_)
                  try simp only [Act.put, List.setIfInBounds_toArray, List.set_cons_zero, List.set_cons_succ]
                  refine FirstH.goG (i := 33) (v := .pointer (some ⟨bd, 11, none⟩)) rfl (by rfl) 160 rfl (Op.fieldAddr 80 (.tmp 159) 8) rfl (by kernel_rfl) (fun _ _ _ h => h) inv (fun W hS => by unfold bareO; go_simp) HS (fun inv => ?_)
                  try simp only [Act.put, List.setIfInBounds_toArray, List.set_cons_zero, List.set_cons_succ]
                  refine FirstH.goG (i := 34) (v := .agg #[.slice A3 n3 c3, .slice A4 n4 c4]) rfl (by rfl) 161 rfl (Op.load 33 (.tmp 160)) rfl (by kernel_rfl) (fun _ _ _ h => h) inv (fun W hS => by have q3 := cell_of hS 3 _ Q3.out; have q4 := cell_of hS 4 _ Q4.out; have q11 := cell_of hS 11 _ Q11.out; have q12 := cell_of hS 12 _ Q12.out; unfold bareO; go_simp) HS (fun inv => ?_)
                  try simp only [Act.put, List.setIfInBounds_toArray, List.set_cons_zero, List.set_cons_succ]
                  refine FirstH.only (i := 29) (by kernel_rfl) (by decide) inv (fun inv => wpOp_callG (i := 29) rfl (by rfl) 156 rfl (Op.call { callee := .value (.func 39), args := #[.tmp 155], argTypes := #[59] }) rfl 39 #[.pointer (some ⟨bp, 0, none⟩)] (by unfold bareO; go_simp) (pValue base u6 bp m p2 JXd.out.a) ?_)
                  rintro e u7 ⟨xv, rfl, okv, dv, b5⟩
                  have KRF := Lib.hid (refVal xv u7 okv)
                  have HDV := Lib.hid dv
                  have JXn := Lib.hid (JXd.out.below b5)
                  have HSn : u7.heap[bd]? = some (.cells (q2.rs r) 80 (0, 0)) := JXn.out.r.blk
                  clear HS JXd
                  have HS := HSn
                  have JXd := JXn
                  clear HSn JXn b5 okv dv
                  refine ⟨_, rfl, HS, ?_⟩
                  try simp only [Act.put, List.setIfInBounds_toArray, List.set_cons_zero, List.set_cons_succ]
                  refine FirstH.only (i := 30) (by kernel_rfl) (by decide) inv (fun inv => wpOp_callG (i := 30) rfl (by rfl) 157 rfl (Op.call { callee := .value (.func 19), args := #[.tmp 156], argTypes := #[46] }) rfl 19 #[.agg xv.cs] (by unfold bareO; go_simp) (KRF.out) ?_)
                  rintro e u8 ⟨xr, rfl, okr, dr, b5⟩
                  have KSM : Hid (Calls Try.prog 18 #[.agg xr.cs, .agg #[.slice A3 n3 c3, .slice A4 n4 c4]] u8 fun r w' => r = .returned (.bool true) ∧ Below u8.heap.size u8 w') := Lib.hid (by
                    have JX8 := JXd.out.below b5
                    have hsz : base ≤ u8.heap.size := Nat.le_trans JX8.r.hb (Nat.le_of_lt JX8.r.lt)
                    have := refSameV xr r.vx u8 okr.at_ (JX8.r.vx.below (Below.refl u8.heap.size u8) hsz hsz) (by rw [dr, HDV.out, LKx.out.vd]; exact JX8.r.vd)
                    rw [HCH.out] at this
                    exact this)
                  have JXn := Lib.hid (JXd.out.below b5)
                  have HSn : u8.heap[bd]? = some (.cells (q2.rs r) 80 (0, 0)) := JXn.out.r.blk
                  clear HS JXd
                  have HS := HSn
                  have JXd := JXn
                  clear HSn JXn b5 okr dr KRF
                  refine ⟨_, rfl, HS, ?_⟩
                  try simp only [Act.put, List.setIfInBounds_toArray, List.set_cons_zero, List.set_cons_succ]
                  refine FirstH.only (i := 35) (by kernel_rfl) (by decide) inv (fun inv => wpOp_callG (i := 35) rfl (by rfl) 162 rfl (Op.call { callee := .value (.func 18), args := #[.tmp 157, .tmp 161], argTypes := #[33, 33] }) rfl 18 #[.agg xr.cs, .agg #[.slice A3 n3 c3, .slice A4 n4 c4]] (by unfold bareO; go_simp) (KSM.out) ?_)
                  rintro e u9 ⟨rfl, b5⟩
                  have JXn := Lib.hid (JXd.out.below b5)
                  have HSn : u9.heap[bd]? = some (.cells (q2.rs r) 80 (0, 0)) := JXn.out.r.blk
                  clear HS JXd
                  have HS := HSn
                  have JXd := JXn
                  clear HSn JXn b5 KSM
                  refine ⟨_, rfl, HS, ?_⟩
                  try simp only [Act.put, List.setIfInBounds_toArray, List.set_cons_zero, List.set_cons_succ]
                  refine FirstH.goG (i := 36) (v := .bool false) rfl (by rfl) 163 rfl (Op.unOp .not 4 (.tmp 162)) rfl (by kernel_rfl) (fun _ _ _ h => h) inv (fun W hS => by unfold bareO; go_simp) HS (fun inv => ?_)
                  try simp only [Act.put, List.setIfInBounds_toArray, List.set_cons_zero, List.set_cons_succ]
                  refine FirstH.go (i := 37) (v := .bool false) rfl rfl 164 rfl (Op.pick (.tmp 154) (.const (.bool true)) (.tmp 163)) rfl (by kernel_rfl) (fun _ _ _ h => h) inv (fun W hS => by unfold bareO; go_simp) HS (fun inv => ?_)
                  try simp only [Act.put, List.setIfInBounds_toArray, List.set_cons_zero, List.set_cons_succ]
                  refine FirstH.go (i := 38) (v := .bool false) rfl rfl 165 rfl (Op.move (.tmp 164)) rfl (by kernel_rfl) (fun _ _ _ h => h) inv (fun W hS => by unfold bareO; go_simp) HS (fun inv => ?_)
                  try simp only [Act.put, List.setIfInBounds_toArray, List.set_cons_zero, List.set_cons_succ]
                  refine FirstH.goG (i := 39) (v := .pointer (some ⟨bp, 0, none⟩)) rfl (by rfl) 166 rfl (Op.move (.tmp 7)) rfl (by kernel_rfl) (fun _ _ _ h => h) inv (fun W hS => by unfold bareO; go_simp) HS (fun inv => ?_)
                  try simp only [Act.put, List.setIfInBounds_toArray, List.set_cons_zero, List.set_cons_succ]
                  refine FirstH.goG (i := 42) (v := .pointer (some ⟨bd, 0, none⟩)) rfl (by rfl) 169 rfl (Op.move (.tmp 8)) rfl (by kernel_rfl) (fun _ _ _ h => h) inv (fun W hS => by unfold bareO; go_simp) HS (fun inv => ?_)
                  try simp only [Act.put, List.setIfInBounds_toArray, List.set_cons_zero, List.set_cons_succ]
                  refine FirstH.only (i := 40) (by kernel_rfl) (by decide) inv (fun inv => wpOp_callG (i := 40) rfl (by rfl) 167 rfl (Op.call { callee := .value (.func 42), args := #[.tmp 166], argTypes := #[59] }) rfl 42 #[.pointer (some ⟨bp, 0, none⟩)] (by unfold bareO; go_simp) (pMissing base u9 bp m p2 JXd.out.a RGx.out) ?_)
                  rintro e u10 ⟨mv, rfl, om, b5⟩
                  rw [LKx.out.missing] at om
                  have hml : q2.missing.length ≤ 8 := by
                    have := JXd.out.r.few
                    unfold Pd.missing
                    split
                    · simp
                    · exact Nat.le_trans (List.length_filter_le _ _) this.1
                  obtain ⟨Am, cm, em, hrm, hlm, hmm⟩ := V.rowsV_of_own om
                  obtain ⟨nm, hnm⟩ : ∃ z, q2.missing.length = z := ⟨_, rfl⟩
                  have KRP := Lib.hid (V.refProcs Am q2.missing cm u10 hrm (by omega) hlm hmm)
                  rw [hnm] at em KRP
                  subst em
                  have JXn := Lib.hid (JXd.out.below b5)
                  have HSn : u10.heap[bd]? = some (.cells (q2.rs r) 80 (0, 0)) := JXn.out.r.blk
                  clear HS JXd
                  have HS := HSn
                  have JXd := JXn
                  clear HSn JXn b5 om hrm hlm hmm
                  refine ⟨_, rfl, HS, ?_⟩
                  try simp only [Act.put, List.setIfInBounds_toArray, List.set_cons_zero, List.set_cons_succ]
                  refine FirstH.only (i := 41) (by kernel_rfl) (by decide) inv (fun inv => wpOp_callG (i := 41) rfl (by rfl) 168 rfl (Op.call { callee := .value (.func 41), args := #[.tmp 167], argTypes := #[43] }) rfl 41 #[.slice Am nm cm] (by unfold bareO; go_simp) (KRP.out) ?_)
                  rintro e u11 ⟨rv, rfl, orv, b5⟩
                  have ORV := Lib.hid orv
                  have JXn := Lib.hid (JXd.out.below b5)
                  have HSn : u11.heap[bd]? = some (.cells (q2.rs r) 80 (0, 0)) := JXn.out.r.blk
                  clear HS JXd
                  have HS := HSn
                  have JXd := JXn
                  clear HSn JXn b5 orv KRP
                  refine ⟨_, rfl, HS, ?_⟩
                  try simp only [Act.put, List.setIfInBounds_toArray, List.set_cons_zero, List.set_cons_succ]
                  refine FirstH.only (i := 43) (by kernel_rfl) (by decide) inv (fun inv => wpOp_callG (i := 43) rfl (by rfl) 170 rfl (Op.call { callee := .value (.func 43), args := #[.tmp 169], argTypes := #[64] }) rfl 43 #[.pointer (some ⟨bd, 0, none⟩)] (by unfold bareO; go_simp) (rMissing u11 base bd q2 r JXd.out.r) ?_)
                  rintro e u12 ⟨dv, rfl, odv, b5⟩
                  have orv2 := V.own_kept ORV.out b5
                  rw [← hnm] at orv2
                  obtain ⟨Ar, cr, er, hrr, hlr, hmr⟩ := V.rowsV_of_own orv2
                  obtain ⟨Ad, cd, ed, hrd', hld, hmd⟩ := V.rowsV_of_own odv
                  have KSP : Hid (Calls Try.prog 40 #[rv, dv] u12 fun e w' => e = .returned (.bool true) ∧ Below u12.heap.size u12 w') := Lib.hid (by
                    rw [er, ed]
                    exact (V.sameProcs Ar Ad q2.missing q2.missing cr cd u12 hrr hrd' hlr hmr hld hmd).mono fun _ _ h => ⟨by rw [h.1]; simp, h.2⟩)
                  clear orv2 er hrr hlr hmr ed hrd' hld hmd odv ORV
                  have JXn := Lib.hid (JXd.out.below b5)
                  have HSn : u12.heap[bd]? = some (.cells (q2.rs r) 80 (0, 0)) := JXn.out.r.blk
                  clear HS JXd
                  have HS := HSn
                  have JXd := JXn
                  clear HSn JXn b5
                  refine ⟨_, rfl, HS, ?_⟩
                  try simp only [Act.put, List.setIfInBounds_toArray, List.set_cons_zero, List.set_cons_succ]
                  refine FirstH.only (i := 44) (by kernel_rfl) (by decide) inv (fun inv => wpOp_callG (i := 44) rfl (by rfl) 171 rfl (Op.call { callee := .value (.func 40), args := #[.tmp 168, .tmp 170], argTypes := #[30, 30] }) rfl 40 #[rv, dv] (by unfold bareO; go_simp) (KSP.out) ?_)
                  rintro e u13 ⟨rfl, b5⟩
                  have JXn := Lib.hid (JXd.out.below b5)
                  have HSn : u13.heap[bd]? = some (.cells (q2.rs r) 80 (0, 0)) := JXn.out.r.blk
                  clear HS JXd
                  have HS := HSn
                  have JXd := JXn
                  clear HSn JXn b5 KSP
                  refine ⟨_, rfl, HS, ?_⟩
                  try simp only [Act.put, List.setIfInBounds_toArray, List.set_cons_zero, List.set_cons_succ]
                  refine FirstH.goG (i := 45) (v := .bool false) rfl (by rfl) 172 rfl (Op.unOp .not 4 (.tmp 171)) rfl (by kernel_rfl) (fun _ _ _ h => h) inv (fun W hS => by unfold bareO; go_simp) HS (fun inv => ?_)
                  try simp only [Act.put, List.setIfInBounds_toArray, List.set_cons_zero, List.set_cons_succ]
                  refine ⟨by kernel_rfl, ?_⟩
                  simp only [List.drop_succ_cons, List.drop_zero]
                  have JN : Hid (JP base W u13 bp m bd p2 q2) := Lib.hid ⟨JXd.out.a, ⟨r, JXd.out.r⟩, LKx.out, RGx.out, JXd.out.low⟩
                  clear HS
                  go_wp2_with fail
                  go_roundw
                  case rel => exact ⟨k + 1, by have := HKN.out; omega, by go_num, _, _, JN⟩
                  case measure => have := HKN.out; simp [intOf]; omega
                · have k4 : (kd == 4) = false := by simpa using e4
                  clear e4
                  obtain ⟨p2, hp2⟩ : ∃ z, p = z := ⟨_, rfl⟩
                  obtain ⟨q2, hq2⟩ : ∃ z, q = z := ⟨_, rfl⟩
                  have J := JB0
                  rw [hp2, hq2] at J
                  clear hp2 hq2
                  as_aux_lemma =>
                  skip
                  go_wp2_with (first
                    | (refine wpList_load_mid rfl 40 (.tmp 54) rfl g (o + k * 8) (by rfl) cs.toList _ HC.out Try.underlying40 rfl HSZ2.out ?_)
                    | (rw [HUA.out, HKX.out])
                    | (refine wpList_store_row rfl 40 (.tmp 10) (.tmp 55) rfl kx cs (by rfl) (by rfl) 40 #[.int .i64 0, .int .u64 0, .int .u8 0, .int .u16 0, .slice none 0 0, .slice none 0 0, .slice none 0 0, .bool false] RA.out HSZ3.out HOLD.out HOB.out ?_; rw [HUB.out])
                    | fail)
                  obtain ⟨u, hu⟩ : ∃ z : World, ub = z := ⟨_, rfl⟩
                  rw [hu] at J ⊢
                  clear hu
                  skip
                  obtain ⟨r, hr0⟩ := J.out.r
                  have JXd := Lib.hid ((⟨J.out.a, hr0, J.out.low⟩ : JX base W u bp m bd p2 q2 r).below (Below.refl _ _).drew)
                  have LKx := Lib.hid J.out.lk
                  have RGx := Lib.hid J.out.rg
                  obtain ⟨A3, c3, e3, -, -, -⟩ := JXd.out.r.vx.m
                  obtain ⟨A4, c4, e4, -, -, -⟩ := JXd.out.r.vx.t
                  obtain ⟨n3, hn3⟩ : ∃ z, r.vx.X.length = z := ⟨_, rfl⟩
                  obtain ⟨n4, hn4⟩ : ∃ z, r.vx.L.length = z := ⟨_, rfl⟩
                  rw [hn3] at e3
                  rw [hn4] at e4
                  obtain ⟨ph, hph⟩ : ∃ z, q2.ph = z := ⟨_, rfl⟩
                  obtain ⟨bal, hbal⟩ : ∃ z, q2.bal = z := ⟨_, rfl⟩
                  obtain ⟨rd, hrd⟩ : ∃ z, q2.ready = z := ⟨_, rfl⟩
                  have Q3 : Hid ((q2.rs r)[3]? = some (.int .u64 bal)) := Lib.hid (by rw [← hbal]; rfl)
                  have Q4 : Hid ((q2.rs r)[4]? = some (.int .i64 ph)) := Lib.hid (by rw [← hph]; rfl)
                  have Q11 : Hid ((q2.rs r)[11]? = some (.slice A3 n3 c3)) := Lib.hid (by rw [← e3]; rfl)
                  have Q12 : Hid ((q2.rs r)[12]? = some (.slice A4 n4 c4)) := Lib.hid (by rw [← e4]; rfl)
                  have HCH : Hid (r.vx.cs = #[.slice A3 n3 c3, .slice A4 n4 c4]) := Lib.hid (by simp only [Vl.cs]; rw [e3, e4])
                  have hphp : p2.ph = ph := LKx.out.ph.trans hph
                  have hbalp : p2.bal = bal := LKx.out.bal.trans hbal
                  have hrdp : p2.ready = rd := LKx.out.ready.trans hrd
                  have K35 : Hid (∀ v, JX base W v bp m bd p2 q2 r → Calls Try.prog 35 #[.pointer (some ⟨bp, 0, none⟩)] v fun e W' => e = .returned (.int .i64 ph) ∧ v = W') := Lib.hid (by
                    intro v h
                    have := pPhase base v bp m p2 h.a
                    rw [hphp] at this
                    exact this)
                  have K36 : Hid (∀ v, JX base W v bp m bd p2 q2 r → Calls Try.prog 36 #[.pointer (some ⟨bp, 0, none⟩)] v fun e W' => e = .returned (.bool rd) ∧ Below v.heap.size v W') := Lib.hid (by
                    intro v h
                    have := pReady base v bp m p2 h.a
                    rw [hrdp] at this
                    exact this)
                  have K37 : Hid (∀ v, JX base W v bp m bd p2 q2 r → Calls Try.prog 37 #[.pointer (some ⟨bd, 0, none⟩)] v fun e W' => e = .returned (.bool rd) ∧ Below v.heap.size v W') := Lib.hid (by
                    intro v h
                    have := rReady v base bd q2 r h.r
                    rw [hrd] at this
                    exact this)
                  have K38 : Hid (∀ v, JX base W v bp m bd p2 q2 r → Calls Try.prog 38 #[.pointer (some ⟨bp, 0, none⟩)] v fun e W' => e = .returned (.int .u64 bal) ∧ v = W') := Lib.hid (by
                    intro v h
                    have := pBallot base v bp m p2 h.a
                    rw [hbalp] at this
                    exact this)
                  clear hphp hbalp hrdp
                  clear hr0 e3 e4 hn3 hn4 hph hbal hrd
                  refine region_heldT (S := fun v => v.heap[bd]? = some (.cells (q2.rs r) 80 (0, 0))) 46 (by kernel_rfl) (by decide) (fun inv => ?_)
                  have HS : u.drew.heap[bd]? = some (.cells (q2.rs r) 80 (0, 0)) := JXd.out.r.blk
                  change FirstH _ _ _ _ _ _ _ _ _ _ u.drew
                  generalize u.drew = u4 at *
                  refine FirstH.go (i := 0) (v := .bool true) rfl rfl 127 rfl (Op.move (.tmp 11)) rfl (by kernel_rfl) (fun _ _ _ h => h) inv (fun W hS => by unfold bareO; go_simp) HS (fun inv => ?_)
                  try simp only [Act.put, List.setIfInBounds_toArray, List.set_cons_zero, List.set_cons_succ]
                  refine FirstH.go (i := 1) (v := .bool false) rfl rfl 128 rfl (Op.unOp .not 4 (.tmp 127)) rfl (by kernel_rfl) (fun _ _ _ h => h) inv (fun W hS => by unfold bareO; go_simp) HS (fun inv => ?_)
                  try simp only [Act.put, List.setIfInBounds_toArray, List.set_cons_zero, List.set_cons_succ]
                  refine FirstH.go (i := 2) (v := .bool false) rfl rfl 129 rfl (Op.move (.tmp 128)) rfl (by kernel_rfl) (fun _ _ _ h => h) inv (fun W hS => by unfold bareO; go_simp) HS (fun inv => ?_)
                  try simp only [Act.put, List.setIfInBounds_toArray, List.set_cons_zero, List.set_cons_succ]
                  refine FirstH.goG (i := 3) (v := .pointer (some ⟨bp, 0, none⟩)) rfl (by rfl) 130 rfl (Op.move (.tmp 7)) rfl (by kernel_rfl) (fun _ _ _ h => h) inv (fun W hS => by unfold bareO; go_simp) HS (fun inv => ?_)
                  try simp only [Act.put, List.setIfInBounds_toArray, List.set_cons_zero, List.set_cons_succ]
                  refine FirstH.goG (i := 5) (v := .pointer (some ⟨bd, 0, none⟩)) rfl (by rfl) 132 rfl (Op.move (.tmp 8)) rfl (by kernel_rfl) (fun _ _ _ h => h) inv (fun W hS => by unfold bareO; go_simp) HS (fun inv => ?_)
                  try simp only [Act.put, List.setIfInBounds_toArray, List.set_cons_zero, List.set_cons_succ]
                  refine FirstH.goG (i := 6) (v := .pointer (some ⟨bd, 0, none⟩)) rfl (by rfl) 133 rfl (Op.nilCheck (.tmp 132)) rfl (by kernel_rfl) (fun _ _ _ h => h) inv (fun W hS => by unfold bareO; go_simp) HS (fun inv => ?_)
                  try simp only [Act.put, List.setIfInBounds_toArray, List.set_cons_zero, List.set_cons_succ]
                  refine FirstH.goG (i := 7) (v := .pointer (some ⟨bd, 4, none⟩)) rfl (by rfl) 134 rfl (Op.fieldAddr 80 (.tmp 133) 2) rfl (by kernel_rfl) (fun _ _ _ h => h) inv (fun W hS => by unfold bareO; go_simp) HS (fun inv => ?_)
                  try simp only [Act.put, List.setIfInBounds_toArray, List.set_cons_zero, List.set_cons_succ]
                  refine FirstH.goG (i := 8) (v := .int .i64 ph) rfl (by rfl) 135 rfl (Op.load 3 (.tmp 134)) rfl (by kernel_rfl) (fun _ _ _ h => h) inv (fun W hS => by have q3 := cell_of hS 3 _ Q3.out; have q4 := cell_of hS 4 _ Q4.out; have q11 := cell_of hS 11 _ Q11.out; have q12 := cell_of hS 12 _ Q12.out; unfold bareO; go_simp) HS (fun inv => ?_)
                  try simp only [Act.put, List.setIfInBounds_toArray, List.set_cons_zero, List.set_cons_succ]
                  refine FirstH.only (i := 4) (by kernel_rfl) (by decide) inv (fun inv => wpOp_callG (i := 4) rfl (by rfl) 131 rfl (Op.call { callee := .value (.func 35), args := #[.tmp 130], argTypes := #[59] }) rfl 35 #[.pointer (some ⟨bp, 0, none⟩)] (by unfold bareO; go_simp) (K35.out u4 JXd.out) ?_)
                  rintro e ux ⟨rfl, rfl⟩
                  refine ⟨_, rfl, HS, ?_⟩
                  try simp only [Act.put, List.setIfInBounds_toArray, List.set_cons_zero, List.set_cons_succ]
                  refine FirstH.goG (i := 9) (v := .bool false) rfl (by rfl) 136 rfl (Op.binOp .neq 3 (.tmp 131) (.tmp 135) 3) rfl (by kernel_rfl) (fun _ _ _ h => h) inv (fun W hS => by unfold bareO; go_simp) HS (fun inv => ?_)
                  try simp only [Act.put, List.setIfInBounds_toArray, List.set_cons_zero, List.set_cons_succ]
                  refine FirstH.go (i := 10) (v := .bool false) rfl rfl 137 rfl (Op.pick (.tmp 129) (.const (.bool true)) (.tmp 136)) rfl (by kernel_rfl) (fun _ _ _ h => h) inv (fun W hS => by unfold bareO; go_simp) HS (fun inv => ?_)
                  try simp only [Act.put, List.setIfInBounds_toArray, List.set_cons_zero, List.set_cons_succ]
                  refine FirstH.go (i := 11) (v := .bool false) rfl rfl 138 rfl (Op.move (.tmp 137)) rfl (by kernel_rfl) (fun _ _ _ h => h) inv (fun W hS => by unfold bareO; go_simp) HS (fun inv => ?_)
                  try simp only [Act.put, List.setIfInBounds_toArray, List.set_cons_zero, List.set_cons_succ]
                  refine FirstH.goG (i := 12) (v := .pointer (some ⟨bp, 0, none⟩)) rfl (by rfl) 139 rfl (Op.move (.tmp 7)) rfl (by kernel_rfl) (fun _ _ _ h => h) inv (fun W hS => by unfold bareO; go_simp) HS (fun inv => ?_)
                  try simp only [Act.put, List.setIfInBounds_toArray, List.set_cons_zero, List.set_cons_succ]
                  refine FirstH.goG (i := 14) (v := .pointer (some ⟨bd, 0, none⟩)) rfl (by rfl) 141 rfl (Op.move (.tmp 8)) rfl (by kernel_rfl) (fun _ _ _ h => h) inv (fun W hS => by unfold bareO; go_simp) HS (fun inv => ?_)
                  try simp only [Act.put, List.setIfInBounds_toArray, List.set_cons_zero, List.set_cons_succ]
                  refine FirstH.only (i := 13) (by kernel_rfl) (by decide) inv (fun inv => wpOp_callG (i := 13) rfl (by rfl) 140 rfl (Op.call { callee := .value (.func 36), args := #[.tmp 139], argTypes := #[59] }) rfl 36 #[.pointer (some ⟨bp, 0, none⟩)] (by unfold bareO; go_simp) (K36.out u4 JXd.out) ?_)
                  rintro e u5 ⟨rfl, b5⟩
                  have JXn := Lib.hid (JXd.out.below b5)
                  have HSn : u5.heap[bd]? = some (.cells (q2.rs r) 80 (0, 0)) := JXn.out.r.blk
                  clear HS JXd
                  have HS := HSn
                  have JXd := JXn
                  clear HSn JXn b5
                  refine ⟨_, rfl, HS, ?_⟩
                  try simp only [Act.put, List.setIfInBounds_toArray, List.set_cons_zero, List.set_cons_succ]
                  refine FirstH.only (i := 15) (by kernel_rfl) (by decide) inv (fun inv => wpOp_callG (i := 15) rfl (by rfl) 142 rfl (Op.call { callee := .value (.func 37), args := #[.tmp 141], argTypes := #[64] }) rfl 37 #[.pointer (some ⟨bd, 0, none⟩)] (by unfold bareO; go_simp) (K37.out u5 JXd.out) ?_)
                  rintro e u6 ⟨rfl, b5⟩
                  have JXn := Lib.hid (JXd.out.below b5)
                  have HSn : u6.heap[bd]? = some (.cells (q2.rs r) 80 (0, 0)) := JXn.out.r.blk
                  clear HS JXd
                  have HS := HSn
                  have JXd := JXn
                  clear HSn JXn b5
                  refine ⟨_, rfl, HS, ?_⟩
                  try simp only [Act.put, List.setIfInBounds_toArray, List.set_cons_zero, List.set_cons_succ]
                  refine FirstH.goG (i := 16) (v := .bool false) rfl (by rfl) 143 rfl (Op.binOp .neq 4 (.tmp 140) (.tmp 142) 4) rfl (by kernel_rfl) (fun _ _ _ h => h) inv (fun W hS => by unfold bareO; go_simp) HS (fun inv => ?_)
                  try simp only [Act.put, List.setIfInBounds_toArray, List.set_cons_zero, List.set_cons_succ]
                  refine FirstH.go (i := 17) (v := .bool false) rfl rfl 144 rfl (Op.pick (.tmp 138) (.const (.bool true)) (.tmp 143)) rfl (by kernel_rfl) (fun _ _ _ h => h) inv (fun W hS => by unfold bareO; go_simp) HS (fun inv => ?_)
                  try simp only [Act.put, List.setIfInBounds_toArray, List.set_cons_zero, List.set_cons_succ]
                  refine FirstH.go (i := 18) (v := .bool false) rfl rfl 145 rfl (Op.move (.tmp 144)) rfl (by kernel_rfl) (fun _ _ _ h => h) inv (fun W hS => by unfold bareO; go_simp) HS (fun inv => ?_)
                  try simp only [Act.put, List.setIfInBounds_toArray, List.set_cons_zero, List.set_cons_succ]
                  refine FirstH.goG (i := 19) (v := .pointer (some ⟨bp, 0, none⟩)) rfl (by rfl) 146 rfl (Op.move (.tmp 7)) rfl (by kernel_rfl) (fun _ _ _ h => h) inv (fun W hS => by unfold bareO; go_simp) HS (fun inv => ?_)
                  try simp only [Act.put, List.setIfInBounds_toArray, List.set_cons_zero, List.set_cons_succ]
                  refine FirstH.goG (i := 21) (v := .pointer (some ⟨bd, 0, none⟩)) rfl (by rfl) 148 rfl (Op.move (.tmp 8)) rfl (by kernel_rfl) (fun _ _ _ h => h) inv (fun W hS => by unfold bareO; go_simp) HS (fun inv => ?_)
                  try simp only [Act.put, List.setIfInBounds_toArray, List.set_cons_zero, List.set_cons_succ]
                  refine FirstH.goG (i := 22) (v := .pointer (some ⟨bd, 0, none⟩)) rfl (by rfl) 149 rfl (Op.nilCheck (.tmp 148)) rfl (by kernel_rfl) (fun _ _ _ h => h) inv (fun W hS => by unfold bareO; go_simp) HS (fun inv => ?_)
                  try simp only [Act.put, List.setIfInBounds_toArray, List.set_cons_zero, List.set_cons_succ]
                  refine FirstH.goG (i := 23) (v := .pointer (some ⟨bd, 3, none⟩)) rfl (by rfl) 150 rfl (Op.fieldAddr 80 (.tmp 149) 1) rfl (by kernel_rfl) (fun _ _ _ h => h) inv (fun W hS => by unfold bareO; go_simp) HS (fun inv => ?_)
                  try simp only [Act.put, List.setIfInBounds_toArray, List.set_cons_zero, List.set_cons_succ]
                  refine FirstH.goG (i := 24) (v := .int .u64 bal) rfl (by rfl) 151 rfl (Op.load 29 (.tmp 150)) rfl (by kernel_rfl) (fun _ _ _ h => h) inv (fun W hS => by have q3 := cell_of hS 3 _ Q3.out; have q4 := cell_of hS 4 _ Q4.out; have q11 := cell_of hS 11 _ Q11.out; have q12 := cell_of hS 12 _ Q12.out; unfold bareO; go_simp) HS (fun inv => ?_)
                  try simp only [Act.put, List.setIfInBounds_toArray, List.set_cons_zero, List.set_cons_succ]
                  refine FirstH.only (i := 20) (by kernel_rfl) (by decide) inv (fun inv => wpOp_callG (i := 20) rfl (by rfl) 147 rfl (Op.call { callee := .value (.func 38), args := #[.tmp 146], argTypes := #[59] }) rfl 38 #[.pointer (some ⟨bp, 0, none⟩)] (by unfold bareO; go_simp) (K38.out u6 JXd.out) ?_)
                  rintro e ux ⟨rfl, rfl⟩
                  refine ⟨_, rfl, HS, ?_⟩
                  try simp only [Act.put, List.setIfInBounds_toArray, List.set_cons_zero, List.set_cons_succ]
                  refine FirstH.goG (i := 25) (v := .bool false) rfl (by rfl) 152 rfl (Op.binOp .neq 29 (.tmp 147) (.tmp 151) 29) rfl (by kernel_rfl) (fun _ _ _ h => h) inv (fun W hS => by unfold bareO; go_simp) HS (fun inv => ?_)
                  try simp only [Act.put, List.setIfInBounds_toArray, List.set_cons_zero, List.set_cons_succ]
                  refine FirstH.go (i := 26) (v := .bool false) rfl rfl 153 rfl (Op.pick (.tmp 145) (.const (.bool true)) (.tmp 152)) rfl (by kernel_rfl) (fun _ _ _ h => h) inv (fun W hS => by unfold bareO; go_simp) HS (fun inv => ?_)
                  try simp only [Act.put, List.setIfInBounds_toArray, List.set_cons_zero, List.set_cons_succ]
                  refine FirstH.go (i := 27) (v := .bool false) rfl rfl 154 rfl (Op.move (.tmp 153)) rfl (by kernel_rfl) (fun _ _ _ h => h) inv (fun W hS => by unfold bareO; go_simp) HS (fun inv => ?_)
                  try simp only [Act.put, List.setIfInBounds_toArray, List.set_cons_zero, List.set_cons_succ]
                  refine FirstH.goG (i := 28) (v := .pointer (some ⟨bp, 0, none⟩)) rfl (by rfl) 155 rfl (Op.move (.tmp 7)) rfl (by kernel_rfl) (fun _ _ _ h => h) inv (fun W hS => by unfold bareO; go_simp) HS (fun inv => ?_)
                  try simp only [Act.put, List.setIfInBounds_toArray, List.set_cons_zero, List.set_cons_succ]
                  refine FirstH.goG (i := 31) (v := .pointer (some ⟨bd, 0, none⟩)) rfl (by rfl) 158 rfl (Op.move (.tmp 8)) rfl (by kernel_rfl) (fun _ _ _ h => h) inv (fun W hS => by unfold bareO; go_simp) HS (fun inv => ?_)
                  try simp only [Act.put, List.setIfInBounds_toArray, List.set_cons_zero, List.set_cons_succ]
                  refine FirstH.goG (i := 32) (v := .pointer (some ⟨bd, 0, none⟩)) rfl (by rfl) 159 rfl (Op.nilCheck (.tmp 158)) rfl (by kernel_rfl) (fun _ _ _ h => h) inv (fun W hS => by unfold bareO; go_simp) HS (fun inv => ?_)
                  try simp only [Act.put, List.setIfInBounds_toArray, List.set_cons_zero, List.set_cons_succ]
                  refine FirstH.goG (i := 33) (v := .pointer (some ⟨bd, 11, none⟩)) rfl (by rfl) 160 rfl (Op.fieldAddr 80 (.tmp 159) 8) rfl (by kernel_rfl) (fun _ _ _ h => h) inv (fun W hS => by unfold bareO; go_simp) HS (fun inv => ?_)
                  try simp only [Act.put, List.setIfInBounds_toArray, List.set_cons_zero, List.set_cons_succ]
                  refine FirstH.goG (i := 34) (v := .agg #[.slice A3 n3 c3, .slice A4 n4 c4]) rfl (by rfl) 161 rfl (Op.load 33 (.tmp 160)) rfl (by kernel_rfl) (fun _ _ _ h => h) inv (fun W hS => by have q3 := cell_of hS 3 _ Q3.out; have q4 := cell_of hS 4 _ Q4.out; have q11 := cell_of hS 11 _ Q11.out; have q12 := cell_of hS 12 _ Q12.out; unfold bareO; go_simp) HS (fun inv => ?_)
                  try simp only [Act.put, List.setIfInBounds_toArray, List.set_cons_zero, List.set_cons_succ]
                  refine FirstH.only (i := 29) (by kernel_rfl) (by decide) inv (fun inv => wpOp_callG (i := 29) rfl (by rfl) 156 rfl (Op.call { callee := .value (.func 39), args := #[.tmp 155], argTypes := #[59] }) rfl 39 #[.pointer (some ⟨bp, 0, none⟩)] (by unfold bareO; go_simp) (pValue base u6 bp m p2 JXd.out.a) ?_)
                  rintro e u7 ⟨xv, rfl, okv, dv, b5⟩
                  have KRF := Lib.hid (refVal xv u7 okv)
                  have HDV := Lib.hid dv
                  have JXn := Lib.hid (JXd.out.below b5)
                  have HSn : u7.heap[bd]? = some (.cells (q2.rs r) 80 (0, 0)) := JXn.out.r.blk
                  clear HS JXd
                  have HS := HSn
                  have JXd := JXn
                  clear HSn JXn b5 okv dv
                  refine ⟨_, rfl, HS, ?_⟩
                  try simp only [Act.put, List.setIfInBounds_toArray, List.set_cons_zero, List.set_cons_succ]
                  refine FirstH.only (i := 30) (by kernel_rfl) (by decide) inv (fun inv => wpOp_callG (i := 30) rfl (by rfl) 157 rfl (Op.call { callee := .value (.func 19), args := #[.tmp 156], argTypes := #[46] }) rfl 19 #[.agg xv.cs] (by unfold bareO; go_simp) (KRF.out) ?_)
                  rintro e u8 ⟨xr, rfl, okr, dr, b5⟩
                  have KSM : Hid (Calls Try.prog 18 #[.agg xr.cs, .agg #[.slice A3 n3 c3, .slice A4 n4 c4]] u8 fun r w' => r = .returned (.bool true) ∧ Below u8.heap.size u8 w') := Lib.hid (by
                    have JX8 := JXd.out.below b5
                    have hsz : base ≤ u8.heap.size := Nat.le_trans JX8.r.hb (Nat.le_of_lt JX8.r.lt)
                    have := refSameV xr r.vx u8 okr.at_ (JX8.r.vx.below (Below.refl u8.heap.size u8) hsz hsz) (by rw [dr, HDV.out, LKx.out.vd]; exact JX8.r.vd)
                    rw [HCH.out] at this
                    exact this)
                  have JXn := Lib.hid (JXd.out.below b5)
                  have HSn : u8.heap[bd]? = some (.cells (q2.rs r) 80 (0, 0)) := JXn.out.r.blk
                  clear HS JXd
                  have HS := HSn
                  have JXd := JXn
                  clear HSn JXn b5 okr dr KRF
                  refine ⟨_, rfl, HS, ?_⟩
                  try simp only [Act.put, List.setIfInBounds_toArray, List.set_cons_zero, List.set_cons_succ]
                  refine FirstH.only (i := 35) (by kernel_rfl) (by decide) inv (fun inv => wpOp_callG (i := 35) rfl (by rfl) 162 rfl (Op.call { callee := .value (.func 18), args := #[.tmp 157, .tmp 161], argTypes := #[33, 33] }) rfl 18 #[.agg xr.cs, .agg #[.slice A3 n3 c3, .slice A4 n4 c4]] (by unfold bareO; go_simp) (KSM.out) ?_)
                  rintro e u9 ⟨rfl, b5⟩
                  have JXn := Lib.hid (JXd.out.below b5)
                  have HSn : u9.heap[bd]? = some (.cells (q2.rs r) 80 (0, 0)) := JXn.out.r.blk
                  clear HS JXd
                  have HS := HSn
                  have JXd := JXn
                  clear HSn JXn b5 KSM
                  refine ⟨_, rfl, HS, ?_⟩
                  try simp only [Act.put, List.setIfInBounds_toArray, List.set_cons_zero, List.set_cons_succ]
                  refine FirstH.goG (i := 36) (v := .bool false) rfl (by rfl) 163 rfl (Op.unOp .not 4 (.tmp 162)) rfl (by kernel_rfl) (fun _ _ _ h => h) inv (fun W hS => by unfold bareO; go_simp) HS (fun inv => ?_)
                  try simp only [Act.put, List.setIfInBounds_toArray, List.set_cons_zero, List.set_cons_succ]
                  refine FirstH.go (i := 37) (v := .bool false) rfl rfl 164 rfl (Op.pick (.tmp 154) (.const (.bool true)) (.tmp 163)) rfl (by kernel_rfl) (fun _ _ _ h => h) inv (fun W hS => by unfold bareO; go_simp) HS (fun inv => ?_)
                  try simp only [Act.put, List.setIfInBounds_toArray, List.set_cons_zero, List.set_cons_succ]
                  refine FirstH.go (i := 38) (v := .bool false) rfl rfl 165 rfl (Op.move (.tmp 164)) rfl (by kernel_rfl) (fun _ _ _ h => h) inv (fun W hS => by unfold bareO; go_simp) HS (fun inv => ?_)
                  try simp only [Act.put, List.setIfInBounds_toArray, List.set_cons_zero, List.set_cons_succ]
                  refine FirstH.goG (i := 39) (v := .pointer (some ⟨bp, 0, none⟩)) rfl (by rfl) 166 rfl (Op.move (.tmp 7)) rfl (by kernel_rfl) (fun _ _ _ h => h) inv (fun W hS => by unfold bareO; go_simp) HS (fun inv => ?_)
                  try simp only [Act.put, List.setIfInBounds_toArray, List.set_cons_zero, List.set_cons_succ]
                  refine FirstH.goG (i := 42) (v := .pointer (some ⟨bd, 0, none⟩)) rfl (by rfl) 169 rfl (Op.move (.tmp 8)) rfl (by kernel_rfl) (fun _ _ _ h => h) inv (fun W hS => by unfold bareO; go_simp) HS (fun inv => ?_)
                  try simp only [Act.put, List.setIfInBounds_toArray, List.set_cons_zero, List.set_cons_succ]
                  refine FirstH.only (i := 40) (by kernel_rfl) (by decide) inv (fun inv => wpOp_callG (i := 40) rfl (by rfl) 167 rfl (Op.call { callee := .value (.func 42), args := #[.tmp 166], argTypes := #[59] }) rfl 42 #[.pointer (some ⟨bp, 0, none⟩)] (by unfold bareO; go_simp) (pMissing base u9 bp m p2 JXd.out.a RGx.out) ?_)
                  rintro e u10 ⟨mv, rfl, om, b5⟩
                  rw [LKx.out.missing] at om
                  have hml : q2.missing.length ≤ 8 := by
                    have := JXd.out.r.few
                    unfold Pd.missing
                    split
                    · simp
                    · exact Nat.le_trans (List.length_filter_le _ _) this.1
                  obtain ⟨Am, cm, em, hrm, hlm, hmm⟩ := V.rowsV_of_own om
                  obtain ⟨nm, hnm⟩ : ∃ z, q2.missing.length = z := ⟨_, rfl⟩
                  have KRP := Lib.hid (V.refProcs Am q2.missing cm u10 hrm (by omega) hlm hmm)
                  rw [hnm] at em KRP
                  subst em
                  have JXn := Lib.hid (JXd.out.below b5)
                  have HSn : u10.heap[bd]? = some (.cells (q2.rs r) 80 (0, 0)) := JXn.out.r.blk
                  clear HS JXd
                  have HS := HSn
                  have JXd := JXn
                  clear HSn JXn b5 om hrm hlm hmm
                  refine ⟨_, rfl, HS, ?_⟩
                  try simp only [Act.put, List.setIfInBounds_toArray, List.set_cons_zero, List.set_cons_succ]
                  refine FirstH.only (i := 41) (by kernel_rfl) (by decide) inv (fun inv => wpOp_callG (i := 41) rfl (by rfl) 168 rfl (Op.call { callee := .value (.func 41), args := #[.tmp 167], argTypes := #[43] }) rfl 41 #[.slice Am nm cm] (by unfold bareO; go_simp) (KRP.out) ?_)
                  rintro e u11 ⟨rv, rfl, orv, b5⟩
                  have ORV := Lib.hid orv
                  have JXn := Lib.hid (JXd.out.below b5)
                  have HSn : u11.heap[bd]? = some (.cells (q2.rs r) 80 (0, 0)) := JXn.out.r.blk
                  clear HS JXd
                  have HS := HSn
                  have JXd := JXn
                  clear HSn JXn b5 orv KRP
                  refine ⟨_, rfl, HS, ?_⟩
                  try simp only [Act.put, List.setIfInBounds_toArray, List.set_cons_zero, List.set_cons_succ]
                  refine FirstH.only (i := 43) (by kernel_rfl) (by decide) inv (fun inv => wpOp_callG (i := 43) rfl (by rfl) 170 rfl (Op.call { callee := .value (.func 43), args := #[.tmp 169], argTypes := #[64] }) rfl 43 #[.pointer (some ⟨bd, 0, none⟩)] (by unfold bareO; go_simp) (rMissing u11 base bd q2 r JXd.out.r) ?_)
                  rintro e u12 ⟨dv, rfl, odv, b5⟩
                  have orv2 := V.own_kept ORV.out b5
                  rw [← hnm] at orv2
                  obtain ⟨Ar, cr, er, hrr, hlr, hmr⟩ := V.rowsV_of_own orv2
                  obtain ⟨Ad, cd, ed, hrd', hld, hmd⟩ := V.rowsV_of_own odv
                  have KSP : Hid (Calls Try.prog 40 #[rv, dv] u12 fun e w' => e = .returned (.bool true) ∧ Below u12.heap.size u12 w') := Lib.hid (by
                    rw [er, ed]
                    exact (V.sameProcs Ar Ad q2.missing q2.missing cr cd u12 hrr hrd' hlr hmr hld hmd).mono fun _ _ h => ⟨by rw [h.1]; simp, h.2⟩)
                  clear orv2 er hrr hlr hmr ed hrd' hld hmd odv ORV
                  have JXn := Lib.hid (JXd.out.below b5)
                  have HSn : u12.heap[bd]? = some (.cells (q2.rs r) 80 (0, 0)) := JXn.out.r.blk
                  clear HS JXd
                  have HS := HSn
                  have JXd := JXn
                  clear HSn JXn b5
                  refine ⟨_, rfl, HS, ?_⟩
                  try simp only [Act.put, List.setIfInBounds_toArray, List.set_cons_zero, List.set_cons_succ]
                  refine FirstH.only (i := 44) (by kernel_rfl) (by decide) inv (fun inv => wpOp_callG (i := 44) rfl (by rfl) 171 rfl (Op.call { callee := .value (.func 40), args := #[.tmp 168, .tmp 170], argTypes := #[30, 30] }) rfl 40 #[rv, dv] (by unfold bareO; go_simp) (KSP.out) ?_)
                  rintro e u13 ⟨rfl, b5⟩
                  have JXn := Lib.hid (JXd.out.below b5)
                  have HSn : u13.heap[bd]? = some (.cells (q2.rs r) 80 (0, 0)) := JXn.out.r.blk
                  clear HS JXd
                  have HS := HSn
                  have JXd := JXn
                  clear HSn JXn b5 KSP
                  refine ⟨_, rfl, HS, ?_⟩
                  try simp only [Act.put, List.setIfInBounds_toArray, List.set_cons_zero, List.set_cons_succ]
                  refine FirstH.goG (i := 45) (v := .bool false) rfl (by rfl) 172 rfl (Op.unOp .not 4 (.tmp 171)) rfl (by kernel_rfl) (fun _ _ _ h => h) inv (fun W hS => by unfold bareO; go_simp) HS (fun inv => ?_)
                  try simp only [Act.put, List.setIfInBounds_toArray, List.set_cons_zero, List.set_cons_succ]
                  refine ⟨by kernel_rfl, ?_⟩
                  simp only [List.drop_succ_cons, List.drop_zero]
                  have JN : Hid (JP base W u13 bp m bd p2 q2) := Lib.hid ⟨JXd.out.a, ⟨r, JXd.out.r⟩, LKx.out, RGx.out, JXd.out.low⟩
                  clear HS
                  go_wp2_with fail
                  go_roundw
                  case rel => exact ⟨k + 1, by have := HKN.out; omega, by go_num, _, _, JN⟩
                  case measure => have := HKN.out; simp [intOf]; omega
          · obtain rfl : n = k := by omega
            have hk1 : ¬ (n : Int) < (n : Int) := by omega
            go_wp2_with fail
            go_ret
            exact ⟨rfl, J0.out.low⟩
    · have h20i : (20 : Int) < (nM : Int) := by omega
      have h20d : decide ((20 : Int) < (nM : Int)) = true := decide_eq_true h20i
      go_wp2_with fail
      refine (KK.out _).mono ?_
      rintro e w4 ⟨rfl, b4⟩
      have B4 := Lib.hid (B1.out.trans (b4.mono HU1.out))
      clear b4
      go_wp2_with fail
      go_ret
      exact ⟨rfl, B4.out⟩

end Go.Proofs.Ytmhgopaekpnhoaa
