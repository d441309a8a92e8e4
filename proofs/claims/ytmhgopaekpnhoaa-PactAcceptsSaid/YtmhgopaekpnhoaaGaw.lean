/-
  The law PactAccepts walked: it answers true. Condition: the acts lie in memory; numbers fit their kinds.
-/
import Derived.Test.YtmhgopaekpnhoaaGaa
import Derived.Test.YtmhgopaekpnhoaaGkw
import Derived.Test.YtmhgopaekpnhoaaGsv
import Derived.Deep.MidRow
import Derived.LoopN
namespace Go.Proofs.Ytmhgopaekpnhoaa
set_option linter.unusedSimpArgs false
set_option linter.unusedVariables false
open Go.RowKit Go.Maps Go.Sort
open V (P2)

theorem KP.keepsT {W W' : World} {b : Nat} {cur : Array Value} {t : TypeId} (h : KP (fun j => j = b) W W') (hb : W.heap[b]? = some (.cells cur t (0, 0))) (ht : ¬ Ty t) : Keeps W W' :=
  Keeps.of_KP h fun g cu u hg hu => apart_of hg hb (fun e => ht (e ▸ hu))
theorem racc_not : ¬ Ty 35 := by simp [Ty]
/-- both acceptors at one state. -/
structure JA (base : Nat) (W0 W : World) (ba bd : Nat) (d : Ad) (x : Vl) : Prop where
  a : AP W ba d
  r : DA W base bd d x
  ga : base ≤ ba
  gd : base ≤ bd
  ne : ba ≠ bd
  made : d.made = true
  low : Below base W0 W
theorem JA.below {base : Nat} {W0 W W' : World} {ba bd : Nat} {d : Ad} {x : Vl} (h : JA base W0 W ba bd d x) (hb : Below W.heap.size W W') : JA base W0 W' ba bd d x :=
  have hs : base ≤ W.heap.size := Nat.le_trans h.ga (Nat.le_of_lt h.a.lt)
  ⟨h.a.below hb, h.r.below hb hs (heap_lt h.r.blk), h.ga, h.gd, h.ne, h.made, h.low.trans (hb.mono hs)⟩
theorem JA.size {base : Nat} {W0 W : World} {ba bd : Nat} {d : Ad} {x : Vl} (h : JA base W0 W ba bd d x) : base ≤ W.heap.size := Nat.le_trans h.ga (Nat.le_of_lt h.a.lt)
/-- the program's acceptor goes on, then the document's. -/
theorem JA.step {base : Nat} {W0 W W1 W2 : World} {ba bd : Nat} {d d' : Ad} {x x' : Vl} (h : JA base W0 W ba bd d x) (k1 : KP (fun j => j = ba) W W1) (a1 : AP W1 ba d') (k2 : KP (fun j => j = bd) W1 W2) (r2 : DA W2 base bd d' x') (hm : d'.made = true) : JA base W0 W2 ba bd d' x' := by
  have hb1 := (k1.block bd (heap_lt h.r.blk) (Ne.symm h.ne)).trans h.r.blk
  exact ⟨a1.keep (k2.block ba a1.lt h.ne) (k2.keepsT hb1 racc_not), r2, h.ga, h.gd, h.ne, hm, (h.low.trans (k1.below h.size fun j hj => hj ▸ h.ga)).trans (k2.below (Nat.le_trans h.size k1.size) fun j hj => hj ▸ h.gd)⟩
theorem JA.mid {base : Nat} {W0 W W1 : World} {ba bd : Nat} {d : Ad} {x : Vl} (h : JA base W0 W ba bd d x) (k1 : KP (fun j => j = ba) W W1) : DA W1 base bd d x :=
  ⟨(k1.block bd (heap_lt h.r.blk) (Ne.symm h.ne)).trans h.r.blk, h.r.at_.below (k1.below h.size fun j hj => hj ▸ h.ga) (Nat.le_refl _) (Nat.le_refl _), h.r.vd⟩
set_option maxRecDepth 100000 in
set_option maxHeartbeats 2000000 in
theorem walkPAcc (A : Option Addr) (L : List Ax) (c : Nat) (rd nd : Int) (hrd : 0 ≤ rd ∧ rd ≤ 4294967295) (hnd : 0 ≤ nd ∧ nd ≤ 255) (W : World) (hr : RowsA W W.heap.size A L) (hc : L.length ≤ c) (hm : c ≤ maxLen) :
    Calls Try.prog 3 #[.slice A L.length c, .int .u32 rd, .int .u8 nd] W fun e W' => e = .returned (.bool true) ∧ Below W.heap.size W W' := by
  have KL := Lib.hid (lightA A L c W hr hc hm)
  have KK := Lib.hid (fun w => knowsC w)
  have HR := Lib.hid hr
  have KB := Lib.hid (fun w => ballotC rd nd hrd hnd w)
  have KRB := Lib.hid (fun w => rballot rd nd hrd hnd w)
  have KRO := Lib.hid (fun w => roundC rd nd hrd hnd w)
  obtain ⟨n, hn⟩ : ∃ n, L.length = n := ⟨_, rfl⟩
  rw [hn] at KL ⊢
  have HN := Lib.hid hn
  obtain ⟨base, hbase⟩ : ∃ x, W.heap.size = x := ⟨_, rfl⟩
  have HSZ : Hid (base = W.heap.size) := Lib.hid hbase.symm
  have hn2 : n ≤ 9223372036854775807 := by unfold maxLen at hm; omega
  have B0 : Hid (Below base W W) := Lib.hid (Below.refl _ _)
  clear hr hn hc hm hrd hnd
  rw [hbase] at KL ⊢
  clear hbase
  go_enter Try.func3, Try.ntmps3
  go_wp2_with fail
  refine KL.out.mono ?_
  rintro e w1 ⟨⟨bo, rfl, hbo⟩, b1⟩
  have B1 := Lib.hid b1
  have HU1 : Hid (base ≤ w1.heap.size) := Lib.hid (by rw [HSZ.out]; exact b1.size)
  cases bo with
  | false =>
    clear hbo b1
    go_wp2_with fail
    refine (KK.out _).mono ?_
    rintro e w4 ⟨rfl, b4⟩
    have B4 := Lib.hid (B1.out.trans (b4.mono HU1.out))
    clear b4
    go_wp2_with fail
    go_ret
    exact ⟨rfl, B4.out⟩
  | true =>
    obtain ⟨_, hfine⟩ := hbo rfl
    have HF := Lib.hid hfine
    clear hbo b1 hfine
    go_wp2_with fail
    refine (KK.out _).mono ?_
    rintro e w2 ⟨rfl, b2⟩
    have B2 := Lib.hid (B1.out.trans (b2.mono HU1.out))
    have HU2 : Hid (base ≤ w2.heap.size) := Lib.hid (Nat.le_trans HU1.out b2.size)
    clear b2
    go_wp2_with fail
    refine (newA _).mono ?_
    rintro e w3 ⟨rfl, ha3, b3⟩
    obtain ⟨ba, hba⟩ : ∃ z, w2.heap.size = z := ⟨_, rfl⟩
    rw [hba] at ha3 ⊢
    obtain ⟨bd, hbd⟩ : ∃ z, w3.heap.size = z := ⟨_, rfl⟩
    obtain ⟨w4, hw4⟩ : ∃ z, w3.alloc (.cells #[.int .u64 0, .int .u64 0, .slice none 0 0, .slice none 0 0, .bool false] 35) = z := ⟨_, rfl⟩
    have r4 : w4.heap[bd]? = some (.cells #[.int .u64 0, .int .u64 0, .slice none 0 0, .slice none 0 0, .bool false] 35 (0, 0)) := by rw [← hw4, ← hbd]; exact heap_alloc_new _ _
    have b4 : Below w3.heap.size w3 w4 := by rw [← hw4]; exact (Below.refl _ _).alloc (Nat.le_refl _) _
    have JJ : Hid (JA base W w4 ba bd A1 V0) := Lib.hid (by
      have h1 := ha3.lt
      have h2 := HU2.out
      refine ⟨ha3.below b4, ⟨r4, ⟨⟨none, 0, rfl, fun e => absurd rfl e, Nat.le_refl _, by unfold maxLen; omega⟩, ⟨none, 0, rfl, fun e => absurd rfl e, Nat.le_refl _, by unfold maxLen; omega⟩, by simp [V0], by simp [V0]⟩, rfl⟩, by omega, by omega, by omega, rfl, ?_⟩
      exact (B2.out.trans (b3.mono (by rw [hba]; omega))).trans (b4.mono (by omega)))
    have HW4 := Lib.hid hw4
    have HBD := Lib.hid hbd
    clear ha3 b3 hba hbd hw4 r4 b4
    go_wp2_with (rw [HW4.out, HBD.out])
    go_loopw [9] (fun z wx => ∃ k : Nat, k ≤ n ∧ z = .int .i64 k ∧ ∃ d x, Hid (JA base W wx ba bd d x)) (fun z _ => n - (intOf z).toNat)
    case atStart => exact ⟨0, by omega, rfl, _, _, JJ⟩
    case round =>
      obtain ⟨k, hk, rfl, d, x, J0⟩ := hrel
      obtain ⟨u, hu⟩ : ∃ z : World, z = wr := ⟨_, rfl⟩
      subst hu
      clear JJ
      by_cases hkn : k < n
      · have HKN := Lib.hid hkn
        have hk1 : (k : Int) < (n : Int) := by omega
        have hk0 : (0 : Int) ≤ (k : Int) := by omega
        have hkL : k < L.length := by rw [HN.out]; exact hkn
        obtain ⟨g, o, rfl⟩ := HR.out.plc hkL
        obtain ⟨a, hx⟩ : ∃ e, L[k]? = some e := ⟨_, List.getElem?_eq_getElem hkL⟩
        have hfa := HF.out a (List.mem_of_getElem? hx)
        have bW : Below W.heap.size W u := by rw [← HSZ.out]; exact J0.out.low
        have hrr := (HR.out.below bW (Nat.le_refl _) bW.size).at_ hx
        have hrW := HR.out.at_ hx
        obtain ⟨kd, ab, ap, TA, T, tc, ⟨xm, X, xt, VL⟩, has⟩ := a
        obtain ⟨MA, mc, e1, mr, ml, mm⟩ := hrW.2.v.m
        obtain ⟨LA, lc, e2, lr, ll, lm⟩ := hrW.2.v.t
        dsimp only at e1 e2
        subst e1 e2
        have hX20 : X.length ≤ 20 := hfa.1
        have hL10 : VL.length ≤ 10 := hfa.2.2
        have HAX0 : Hid (∀ v, Below base W v → Vl.At ⟨.slice MA X.length mc, X, .slice LA VL.length lc, VL⟩ v base) := Lib.hid (fun v hv => by
          have := (hrW.2.v.at_ (show X.length ≤ 1000 by omega) (show VL.length ≤ 1000 by omega)).below (HSZ.out ▸ hv) (Nat.le_refl _) (Nat.le_refl _)
          rw [← HSZ.out] at this
          exact this)
        have KOW0 : Hid (∀ v, Below base W v → Calls Try.prog 14 #[.agg #[.slice MA X.length mc, .slice LA VL.length lc]] v fun r w' => ∃ x' : Vl, r = .returned (.agg x'.cs) ∧ x'.Ok w' ∧ x'.d = Vl.d ⟨.slice MA X.length mc, X, .slice LA VL.length lc, VL⟩ ∧ Below v.heap.size v w') := Lib.hid (fun v hv => ownVal ⟨.slice MA X.length mc, X, .slice LA VL.length lc, VL⟩ v ((HAX0.out v hv).below (Below.refl v.heap.size v) (HSZ.out ▸ hv.size) (HSZ.out ▸ hv.size)))
        obtain ⟨ax, hax⟩ : ∃ z, (⟨.slice MA X.length mc, X, .slice LA VL.length lc, VL⟩ : Vl) = z := ⟨_, rfl⟩
        have HAXC0 : ax.cs = #[.slice MA X.length mc, .slice LA VL.length lc] := by rw [← hax]; rfl
        rw [hax] at HAX0 KOW0
        obtain ⟨nT, hnT⟩ : ∃ z, T.length = z := ⟨_, rfl⟩
        obtain ⟨nX, hnX⟩ : ∃ z, X.length = z := ⟨_, rfl⟩
        obtain ⟨nL, hnL⟩ : ∃ z, VL.length = z := ⟨_, rfl⟩
        rw [hnX, hnL] at KOW0 HAXC0
        have HAX := HAX0
        have KOW := KOW0
        have HAXC := Lib.hid HAXC0
        obtain ⟨cs, hcs⟩ : ∃ z, (#[.int .i64 kd, .int .u64 ab, .int .u8 ap.n, .int .u16 ap.l, .slice TA nT tc, .slice MA nX mc, .slice LA nL lc, .bool has] : Array Value) = z := ⟨_, rfl⟩
        have HC : Hid (u.rangeAt g (o + k * 8) cs.toList) := Lib.hid (by
          rw [← hcs, ← hnT, ← hnX, ← hnL]
          intro j v hj
          exact hrr.1 j v (by rw [← Array.getElem?_toList]; exact hj))
        have hlen : cs.toList.length = 8 := by rw [← hcs]; rfl
        have hsz : cs.size = 8 := by rw [← hcs]; rfl
        have HSZ2 : Hid ((Try.prog.info? 40).map (·.size) = some cs.toList.length) := Lib.hid (by rw [hlen]; kernel_rfl)
        have HSZ3 : Hid ((Try.prog.info? 40).map (·.size) = some cs.size) := Lib.hid (by rw [hsz]; kernel_rfl)
        have HOLD : Hid ((#[.int .i64 0, .int .u64 0, .int .u8 0, .int .u16 0, .slice none 0 0, .slice none 0 0, .slice none 0 0, .bool false] : Array Value).size = cs.size) := Lib.hid (by rw [hsz]; rfl)
        have HOB : Hid (cs.all (·.oneCell') = true) := Lib.hid (by rw [← hcs]; simp [Value.oneCell'])
        obtain ⟨kx, hkx⟩ : ∃ z, u.heap.size = z := ⟨_, rfl⟩
        obtain ⟨ua, hua⟩ : ∃ z, u.alloc (.cells #[.int .i64 0, .int .u64 0, .int .u8 0, .int .u16 0, .slice none 0 0, .slice none 0 0, .slice none 0 0, .bool false] 40) = z := ⟨_, rfl⟩
        have ra : ua.heap[kx]? = some (.cells #[.int .i64 0, .int .u64 0, .int .u8 0, .int .u16 0, .slice none 0 0, .slice none 0 0, .slice none 0 0, .bool false] 40 (0, 0)) := by rw [← hua, ← hkx]; exact heap_alloc_new _ _
        obtain ⟨ub, hub⟩ : ∃ z, ua.setRow kx cs = z := ⟨_, rfl⟩
        have rb : ub.heap[kx]? = some (.cells cs 40 (0, 0)) := by rw [← hub]; exact setRow_heapG _ _ _ _ _ _ ra
        have bub : Below u.heap.size u ub := by
          rw [← hub, ← hua, ← hkx]
          exact ((Below.refl _ _).alloc (Nat.le_refl _) _).trans ⟨rfl, rfl, rfl, by simp [World.setRow], fun k hk => setRow_other _ u.heap.size k _ (by omega)⟩
        have JB := Lib.hid ((J0.out.below bub).below (Below.refl _ _).drew)
        have NEA : Hid (kx ≠ ba) := Lib.hid (by have := J0.out.a.lt; omega)
        have NED : Hid (kx ≠ bd) := Lib.hid (by have := heap_lt J0.out.r.blk; omega)
        have RX : Hid (ub.drew.heap[kx]? = some (.cells #[.int .i64 kd, .int .u64 ab, .int .u8 ap.n, .int .u16 ap.l, .slice TA nT tc, .slice MA nX mc, .slice LA nL lc, .bool has] 40 (0, 0))) := Lib.hid (by rw [hcs]; exact rb)
        have c0 := cell_of (hcs ▸ rb : ub.heap[kx]? = some (.cells #[.int .i64 kd, .int .u64 ab, .int .u8 ap.n, .int .u16 ap.l, .slice TA nT tc, .slice MA nX mc, .slice LA nL lc, .bool has] 40 (0, 0))) 0 (.int .i64 kd) rfl
        have HUA := Lib.hid hua
        have HUB := Lib.hid hub
        have HKX := Lib.hid hkx
        have RA := Lib.hid ra
        have b02 : kd.tmod 2 = 0 ∨ kd.tmod 2 ≠ 0 := Classical.em _
        clear hx hkn hkL bW hrr hrW mr ml mm lr ll lm hX20 hL10 hfa hax HAXC0 hnT hnX hnL hcs hlen hsz hkx hua ra hub rb bub HAX0 KOW0
        rcases b02 with hev | hev
        · as_aux_lemma =>
          skip
          go_wp2_with (first
            | (refine wpList_load_mid rfl 40 (.tmp 35) rfl g (o + k * 8) (by rfl) cs.toList _ HC.out Try.underlying40 rfl HSZ2.out ?_)
            | (rw [HUA.out, HKX.out])
            | (refine wpList_store_row rfl 40 (.tmp 10) (.tmp 36) rfl kx cs (by rfl) (by rfl) 40 #[.int .i64 0, .int .u64 0, .int .u8 0, .int .u16 0, .slice none 0 0, .slice none 0 0, .slice none 0 0, .bool false] RA.out HSZ3.out HOLD.out HOB.out ?_; rw [HUB.out])
            | fail)
          go_wp2_with fail
          refine region_heldT (S := fun u => u.heap[kx]? = some (.cells #[.int .i64 kd, .int .u64 ab, .int .u8 ap.n, .int .u16 ap.l, .slice TA nT tc, .slice MA nX mc, .slice LA nL lc, .bool has] 40 (0, 0))) 9 (by kernel_rfl) (by decide) (fun inv => ?_)
          have HS : ub.drew.heap[kx]? = some (.cells #[.int .i64 kd, .int .u64 ab, .int .u8 ap.n, .int .u16 ap.l, .slice TA nT tc, .slice MA nX mc, .slice LA nL lc, .bool has] 40 (0, 0)) := RX.out
          change FirstH _ _ _ _ _ _ _ _ _ _ ub.drew
          generalize ub.drew = uc at *
          refine FirstH.go (i := 0) (v := .pointer (some ⟨ba, 0, none⟩)) rfl rfl 41 rfl (Op.move (.tmp 7)) rfl (by kernel_rfl) (fun _ _ _ h => h) inv (fun W hS => by unfold bareO; go_simp) HS (fun inv => ?_)
          try simp only [Act.put, List.setIfInBounds_toArray, List.set_cons_zero, List.set_cons_succ]
          refine FirstH.go (i := 1) (v := .pointer (some ⟨kx, 1, none⟩)) rfl rfl 42 rfl (Op.fieldAddr 40 (.tmp 10) 1) rfl (by kernel_rfl) (fun _ _ _ h => h) inv (fun W hS => by unfold bareO; go_simp) HS (fun inv => ?_)
          try simp only [Act.put, List.setIfInBounds_toArray, List.set_cons_zero, List.set_cons_succ]
          refine FirstH.go (i := 2) (v := .int .u64 ab) rfl rfl 43 rfl (Op.load 29 (.tmp 42)) rfl (by kernel_rfl) (fun _ _ _ h => h) inv (fun W hS => by have q1 := cell_of hS 1 (.int .u64 ab) rfl; have q5 := cell_of hS 5 (.slice MA nX mc) rfl; have q6 := cell_of hS 6 (.slice LA nL lc) rfl; unfold bareO; go_simp) HS (fun inv => ?_)
          try simp only [Act.put, List.setIfInBounds_toArray, List.set_cons_zero, List.set_cons_succ]
          refine FirstH.go (i := 4) (v := .pointer (some ⟨bd, 0, none⟩)) rfl rfl 45 rfl (Op.move (.tmp 8)) rfl (by kernel_rfl) (fun _ _ _ h => h) inv (fun W hS => by unfold bareO; go_simp) HS (fun inv => ?_)
          try simp only [Act.put, List.setIfInBounds_toArray, List.set_cons_zero, List.set_cons_succ]
          refine FirstH.go (i := 5) (v := .pointer (some ⟨kx, 1, none⟩)) rfl rfl 46 rfl (Op.fieldAddr 40 (.tmp 10) 1) rfl (by kernel_rfl) (fun _ _ _ h => h) inv (fun W hS => by unfold bareO; go_simp) HS (fun inv => ?_)
          try simp only [Act.put, List.setIfInBounds_toArray, List.set_cons_zero, List.set_cons_succ]
          refine FirstH.go (i := 6) (v := .int .u64 ab) rfl rfl 47 rfl (Op.load 29 (.tmp 46)) rfl (by kernel_rfl) (fun _ _ _ h => h) inv (fun W hS => by have q1 := cell_of hS 1 (.int .u64 ab) rfl; have q5 := cell_of hS 5 (.slice MA nX mc) rfl; have q6 := cell_of hS 6 (.slice LA nL lc) rfl; unfold bareO; go_simp) HS (fun inv => ?_)
          try simp only [Act.put, List.setIfInBounds_toArray, List.set_cons_zero, List.set_cons_succ]
          refine FirstH.only (i := 3) (by kernel_rfl) (by decide) inv (fun inv => wpOp_call (i := 3) rfl rfl 44 rfl (Op.call { callee := .value (.func 11), args := #[.tmp 41, .tmp 43], argTypes := #[26, 29] }) rfl 11 #[.pointer (some ⟨ba, 0, none⟩), .int .u64 ab] (by unfold bareO; go_simp) (prepA uc ba d JB.out.a ab) ?_)
          rintro e ud ⟨rfl, had, kd1⟩
          have HSd : ud.heap[kx]? = some (.cells #[.int .i64 kd, .int .u64 ab, .int .u8 ap.n, .int .u16 ap.l, .slice TA nT tc, .slice MA nX mc, .slice LA nL lc, .bool has] 40 (0, 0)) := (kd1.block kx (heap_lt HS) NEA.out).trans HS
          have hdd := JB.out.mid kd1
          refine ⟨_, rfl, HSd, ?_⟩
          try simp only [Act.put, List.setIfInBounds_toArray, List.set_cons_zero, List.set_cons_succ]
          refine FirstH.only (i := 7) (by kernel_rfl) (by decide) inv (fun inv => wpOp_call (i := 7) rfl rfl 48 rfl (Op.call { callee := .value (.func 12), args := #[.tmp 45, .tmp 47], argTypes := #[28, 29] }) rfl 12 #[.pointer (some ⟨bd, 0, none⟩), .int .u64 ab] (by unfold bareO; go_simp) (rprep ud base bd d x hdd JB.out.gd JB.out.made ab) ?_)
          rintro e ue ⟨rfl, hre, ke⟩
          have HSe : ue.heap[kx]? = some (.cells #[.int .i64 kd, .int .u64 ab, .int .u8 ap.n, .int .u16 ap.l, .slice TA nT tc, .slice MA nX mc, .slice LA nL lc, .bool has] 40 (0, 0)) := (ke.block kx (heap_lt HSd) NED.out).trans HSd
          have J2 := JB.out.step kd1 had ke hre (Ad.prep_made JB.out.made ab)
          obtain ⟨mb, hmb⟩ : ∃ z, d.may ab = z := ⟨_, rfl⟩
          rw [hmb]
          clear HS had hdd kd1 hre ke hmb HSd
          refine ⟨_, rfl, HSe, ?_⟩
          try simp only [Act.put, List.setIfInBounds_toArray, List.set_cons_zero, List.set_cons_succ]
          refine FirstH.go (i := 8) (v := .bool true) rfl rfl 49 rfl (Op.binOp .eql 4 (.tmp 44) (.tmp 48) 4) rfl (by kernel_rfl) (fun _ _ _ h => h) inv (fun W hS => by unfold bareO; go_simp) HSe (fun inv => ?_)
          try simp only [Act.put, List.setIfInBounds_toArray, List.set_cons_zero, List.set_cons_succ]
          refine ⟨by kernel_rfl, ?_⟩
          simp only [List.drop_succ_cons, List.drop_zero]
          clear HSe
          obtain ⟨d2, hd2⟩ : ∃ z, d.prep ab = z := ⟨_, rfl⟩
          obtain ⟨x2, hx2⟩ : ∃ z, x = z := ⟨_, rfl⟩
          rw [hd2, hx2] at J2
          have J := Lib.hid J2
          clear J2 hd2 hx2
          go_wp2_with fail
          refine (heldA _ _ _ J.out.a).mono ?_
          rintro e u1 ⟨⟨hm, HX, ht, HL⟩, rfl, hok, hhd, b1⟩
          have J1 := Lib.hid (J.out.below b1)
          obtain ⟨A1, c1, e1, -, -, -, -⟩ := hok.m.rows
          obtain ⟨A2, c2, e2, -, -, -, -⟩ := hok.t.rows
          dsimp only at e1 e2
          subst e1 e2
          obtain ⟨kv, hkv⟩ : ∃ z, u1.heap.size = z := ⟨_, rfl⟩
          obtain ⟨u2, hu2⟩ : ∃ z, u1.alloc (.cells #[.slice none 0 0, .slice none 0 0] 46) = z := ⟨_, rfl⟩
          have r2 : u2.heap[kv]? = some (.cells #[.slice none 0 0, .slice none 0 0] 46 (0, 0)) := by rw [← hu2, ← hkv]; exact heap_alloc_new _ _
          obtain ⟨u3, hu3⟩ : ∃ z, u2.setRow kv #[.slice A1 HX.length c1, .slice A2 HL.length c2] = z := ⟨_, rfl⟩
          have b3 : Below u1.heap.size u1 u3 := by
            rw [← hu3, ← hu2, ← hkv]
            exact ((Below.refl _ _).alloc (Nat.le_refl _) _).trans ⟨rfl, rfl, rfl, by simp [World.setRow], fun k hk => setRow_other _ u1.heap.size k _ (by omega)⟩
          have r3 : u3.heap[kv]? = some (.cells #[.slice A1 HX.length c1, .slice A2 HL.length c2] 46 (0, 0)) := by rw [← hu3]; exact setRow_heapG _ _ _ _ _ _ r2
          have J3 := Lib.hid (J1.out.below b3)
          have J4 := Lib.hid (J3.out.below (Below.refl _ _).drew)
          have ok4 := (hok.keep (Keeps.of_below b3)).keep (Keeps.of_below (Below.refl _ u3).drew)
          have KRF := Lib.hid (refVal _ u3.drew ok4)
          have KPD := Lib.hid (promA u3.drew ba _ J4.out.a)
          obtain ⟨x2m, X2, x2t, L2⟩ := x2
          obtain ⟨A3, c3, e3, -, -, -⟩ := J4.out.r.at_.m
          obtain ⟨A4, c4, e4, -, -, -⟩ := J4.out.r.at_.t
          dsimp only at e3 e4
          subst e3 e4
          have RD4 : Hid (u3.drew.heap[bd]? = some (.cells #[.int .u64 d2.pr, .int .u64 d2.bal, .slice A3 X2.length c3, .slice A4 L2.length c4, .bool d2.has] 35 (0, 0))) := Lib.hid J4.out.r.blk
          have RV4 : Hid (u3.drew.heap[kv]? = some (.cells #[.slice A1 HX.length c1, .slice A2 HL.length c2] 46 (0, 0))) := Lib.hid r3
          have HHD := Lib.hid hhd
          dsimp only [Vl.cs] at KRF ⊢
          obtain ⟨n1, hn1⟩ : ∃ z, HX.length = z := ⟨_, rfl⟩
          obtain ⟨n2, hn2⟩ : ∃ z, HL.length = z := ⟨_, rfl⟩
          obtain ⟨n3, hn3⟩ : ∃ z, X2.length = z := ⟨_, rfl⟩
          obtain ⟨n4, hn4⟩ : ∃ z, L2.length = z := ⟨_, rfl⟩
          have HN3 := Lib.hid hn3
          have HN4 := Lib.hid hn4
          rw [hn1, hn2] at KRF RV4 hu3
          rw [hn3, hn4] at RD4
          rw [hn1, hn2]
          have HU2 := Lib.hid hu2
          have HU3 := Lib.hid hu3
          have HKV := Lib.hid hkv
          have RV2 := Lib.hid r2
          clear b1 hok hhd hkv hu2 r2 hu3 b3 r3 ok4 hn1 hn2 hn3 hn4
          go_wp2_with (first
            | (rw [HU2.out, HKV.out])
            | (refine wpList_store_row rfl 46 (.tmp 13) (.tmp 68) rfl kv #[.slice A1 n1 c1, .slice A2 n2 c2] (by rfl) (by rfl) 46 _ RV2.out (by kernel_rfl) rfl (by simp [Value.oneCell']) ?_; rw [HU3.out])
            | fail)
          refine region_heldT (S := fun u => u.heap[bd]? = some (.cells #[.int .u64 d2.pr, .int .u64 d2.bal, .slice A3 n3 c3, .slice A4 n4 c4, .bool d2.has] 35 (0, 0)) ∧ u.heap[kv]? = some (.cells #[.slice A1 n1 c1, .slice A2 n2 c2] 46 (0, 0))) 36 (by kernel_rfl) (by decide) (fun inv => ?_)
          have HS : u3.drew.heap[bd]? = some (.cells #[.int .u64 d2.pr, .int .u64 d2.bal, .slice A3 n3 c3, .slice A4 n4 c4, .bool d2.has] 35 (0, 0)) ∧ u3.drew.heap[kv]? = some (.cells #[.slice A1 n1 c1, .slice A2 n2 c2] 46 (0, 0)) := ⟨RD4.out, RV4.out⟩
          change FirstH _ _ _ _ _ _ _ _ _ _ u3.drew
          generalize u3.drew = u4 at *
          refine FirstH.go (i := 0) (v := .bool true) rfl rfl 70 rfl (Op.move (.tmp 11)) rfl (by kernel_rfl) (fun _ _ _ h => h) inv (fun W hS => by unfold bareO; go_simp) HS (fun inv => ?_)
          try simp only [Act.put, List.setIfInBounds_toArray, List.set_cons_zero, List.set_cons_succ]
          refine FirstH.go (i := 1) (v := .bool false) rfl rfl 71 rfl (Op.unOp .not 4 (.tmp 70)) rfl (by kernel_rfl) (fun _ _ _ h => h) inv (fun W hS => by unfold bareO; go_simp) HS (fun inv => ?_)
          try simp only [Act.put, List.setIfInBounds_toArray, List.set_cons_zero, List.set_cons_succ]
          refine FirstH.go (i := 2) (v := .bool false) rfl rfl 72 rfl (Op.move (.tmp 71)) rfl (by kernel_rfl) (fun _ _ _ h => h) inv (fun W hS => by unfold bareO; go_simp) HS (fun inv => ?_)
          try simp only [Act.put, List.setIfInBounds_toArray, List.set_cons_zero, List.set_cons_succ]
          refine FirstH.goG (i := 3) (v := .pointer (some ⟨ba, 0, none⟩)) rfl (by rfl) 73 rfl (Op.move (.tmp 7)) rfl (by kernel_rfl) (fun _ _ _ h => h) inv (fun W hS => by unfold bareO; go_simp) HS (fun inv => ?_)
          try simp only [Act.put, List.setIfInBounds_toArray, List.set_cons_zero, List.set_cons_succ]
          refine FirstH.goG (i := 5) (v := .pointer (some ⟨bd, 0, none⟩)) rfl (by rfl) 75 rfl (Op.move (.tmp 8)) rfl (by kernel_rfl) (fun _ _ _ h => h) inv (fun W hS => by unfold bareO; go_simp) HS (fun inv => ?_)
          try simp only [Act.put, List.setIfInBounds_toArray, List.set_cons_zero, List.set_cons_succ]
          refine FirstH.goG (i := 6) (v := .pointer (some ⟨bd, 0, none⟩)) rfl (by rfl) 76 rfl (Op.nilCheck (.tmp 75)) rfl (by kernel_rfl) (fun _ _ _ h => h) inv (fun W hS => by unfold bareO; go_simp) HS (fun inv => ?_)
          try simp only [Act.put, List.setIfInBounds_toArray, List.set_cons_zero, List.set_cons_succ]
          refine FirstH.goG (i := 7) (v := .pointer (some ⟨bd, 0, none⟩)) rfl (by rfl) 77 rfl (Op.fieldAddr 35 (.tmp 76) 0) rfl (by kernel_rfl) (fun _ _ _ h => h) inv (fun W hS => by unfold bareO; go_simp) HS (fun inv => ?_)
          try simp only [Act.put, List.setIfInBounds_toArray, List.set_cons_zero, List.set_cons_succ]
          refine FirstH.goG (i := 8) (v := .int .u64 d2.pr) rfl (by rfl) 78 rfl (Op.load 29 (.tmp 77)) rfl (by kernel_rfl) (fun _ _ _ h => h) inv (fun W hS => by have q0 := cell_of hS.1 0 (.int .u64 d2.pr) rfl; have q1 := cell_of hS.1 1 (.int .u64 d2.bal) rfl; have q2 := cell_of hS.1 2 (.slice A3 n3 c3) rfl; have q3 := cell_of hS.1 3 (.slice A4 n4 c4) rfl; have q4 := cell_of hS.1 4 (.bool d2.has) rfl; have v0 := cell_of hS.2 0 (.slice A1 n1 c1) rfl; have v1 := cell_of hS.2 1 (.slice A2 n2 c2) rfl; unfold bareO; go_simp) HS (fun inv => ?_)
          try simp only [Act.put, List.setIfInBounds_toArray, List.set_cons_zero, List.set_cons_succ]
          refine FirstH.only (i := 4) (by kernel_rfl) (by decide) inv (fun inv => wpOp_callG (i := 4) rfl (by rfl) 74 rfl (Op.call { callee := .value (.func 17), args := #[.tmp 73], argTypes := #[26] }) rfl 17 #[.pointer (some ⟨ba, 0, none⟩)] (by unfold bareO; go_simp) (KPD.out) ?_)
          rintro e ux ⟨rfl, rfl⟩
          refine ⟨_, rfl, HS, ?_⟩
          try simp only [Act.put, List.setIfInBounds_toArray, List.set_cons_zero, List.set_cons_succ]
          refine FirstH.goG (i := 9) (v := .bool false) rfl (by rfl) 79 rfl (Op.binOp .neq 29 (.tmp 74) (.tmp 78) 29) rfl (by kernel_rfl) (fun _ _ _ h => h) inv (fun W hS => by unfold bareO; go_simp) HS (fun inv => ?_)
          try simp only [Act.put, List.setIfInBounds_toArray, List.set_cons_zero, List.set_cons_succ]
          refine FirstH.go (i := 10) (v := .bool false) rfl rfl 80 rfl (Op.pick (.tmp 72) (.const (.bool true)) (.tmp 79)) rfl (by kernel_rfl) (fun _ _ _ h => h) inv (fun W hS => by unfold bareO; go_simp) HS (fun inv => ?_)
          try simp only [Act.put, List.setIfInBounds_toArray, List.set_cons_zero, List.set_cons_succ]
          refine FirstH.go (i := 11) (v := .bool false) rfl rfl 81 rfl (Op.move (.tmp 80)) rfl (by kernel_rfl) (fun _ _ _ h => h) inv (fun W hS => by unfold bareO; go_simp) HS (fun inv => ?_)
          try simp only [Act.put, List.setIfInBounds_toArray, List.set_cons_zero, List.set_cons_succ]
          refine FirstH.goG (i := 12) (v := .int .u64 d2.bal) rfl (by rfl) 82 rfl (Op.move (.tmp 12)) rfl (by kernel_rfl) (fun _ _ _ h => h) inv (fun W hS => by unfold bareO; go_simp) HS (fun inv => ?_)
          try simp only [Act.put, List.setIfInBounds_toArray, List.set_cons_zero, List.set_cons_succ]
          refine FirstH.goG (i := 13) (v := .pointer (some ⟨bd, 0, none⟩)) rfl (by rfl) 83 rfl (Op.move (.tmp 8)) rfl (by kernel_rfl) (fun _ _ _ h => h) inv (fun W hS => by unfold bareO; go_simp) HS (fun inv => ?_)
          try simp only [Act.put, List.setIfInBounds_toArray, List.set_cons_zero, List.set_cons_succ]
          refine FirstH.goG (i := 14) (v := .pointer (some ⟨bd, 0, none⟩)) rfl (by rfl) 84 rfl (Op.nilCheck (.tmp 83)) rfl (by kernel_rfl) (fun _ _ _ h => h) inv (fun W hS => by unfold bareO; go_simp) HS (fun inv => ?_)
          try simp only [Act.put, List.setIfInBounds_toArray, List.set_cons_zero, List.set_cons_succ]
          refine FirstH.goG (i := 15) (v := .pointer (some ⟨bd, 1, none⟩)) rfl (by rfl) 85 rfl (Op.fieldAddr 35 (.tmp 84) 1) rfl (by kernel_rfl) (fun _ _ _ h => h) inv (fun W hS => by unfold bareO; go_simp) HS (fun inv => ?_)
          try simp only [Act.put, List.setIfInBounds_toArray, List.set_cons_zero, List.set_cons_succ]
          refine FirstH.goG (i := 16) (v := .int .u64 d2.bal) rfl (by rfl) 86 rfl (Op.load 29 (.tmp 85)) rfl (by kernel_rfl) (fun _ _ _ h => h) inv (fun W hS => by have q0 := cell_of hS.1 0 (.int .u64 d2.pr) rfl; have q1 := cell_of hS.1 1 (.int .u64 d2.bal) rfl; have q2 := cell_of hS.1 2 (.slice A3 n3 c3) rfl; have q3 := cell_of hS.1 3 (.slice A4 n4 c4) rfl; have q4 := cell_of hS.1 4 (.bool d2.has) rfl; have v0 := cell_of hS.2 0 (.slice A1 n1 c1) rfl; have v1 := cell_of hS.2 1 (.slice A2 n2 c2) rfl; unfold bareO; go_simp) HS (fun inv => ?_)
          try simp only [Act.put, List.setIfInBounds_toArray, List.set_cons_zero, List.set_cons_succ]
          refine FirstH.goG (i := 17) (v := .bool false) rfl (by rfl) 87 rfl (Op.binOp .neq 29 (.tmp 82) (.tmp 86) 29) rfl (by kernel_rfl) (fun _ _ _ h => h) inv (fun W hS => by unfold bareO; go_simp) HS (fun inv => ?_)
          try simp only [Act.put, List.setIfInBounds_toArray, List.set_cons_zero, List.set_cons_succ]
          refine FirstH.go (i := 18) (v := .bool false) rfl rfl 88 rfl (Op.pick (.tmp 81) (.const (.bool true)) (.tmp 87)) rfl (by kernel_rfl) (fun _ _ _ h => h) inv (fun W hS => by unfold bareO; go_simp) HS (fun inv => ?_)
          try simp only [Act.put, List.setIfInBounds_toArray, List.set_cons_zero, List.set_cons_succ]
          refine FirstH.go (i := 19) (v := .bool false) rfl rfl 89 rfl (Op.move (.tmp 88)) rfl (by kernel_rfl) (fun _ _ _ h => h) inv (fun W hS => by unfold bareO; go_simp) HS (fun inv => ?_)
          try simp only [Act.put, List.setIfInBounds_toArray, List.set_cons_zero, List.set_cons_succ]
          refine FirstH.goG (i := 20) (v := .bool d2.has) rfl (by rfl) 90 rfl (Op.move (.tmp 14)) rfl (by kernel_rfl) (fun _ _ _ h => h) inv (fun W hS => by unfold bareO; go_simp) HS (fun inv => ?_)
          try simp only [Act.put, List.setIfInBounds_toArray, List.set_cons_zero, List.set_cons_succ]
          refine FirstH.goG (i := 21) (v := .pointer (some ⟨bd, 0, none⟩)) rfl (by rfl) 91 rfl (Op.move (.tmp 8)) rfl (by kernel_rfl) (fun _ _ _ h => h) inv (fun W hS => by unfold bareO; go_simp) HS (fun inv => ?_)
          try simp only [Act.put, List.setIfInBounds_toArray, List.set_cons_zero, List.set_cons_succ]
          refine FirstH.goG (i := 22) (v := .pointer (some ⟨bd, 0, none⟩)) rfl (by rfl) 92 rfl (Op.nilCheck (.tmp 91)) rfl (by kernel_rfl) (fun _ _ _ h => h) inv (fun W hS => by unfold bareO; go_simp) HS (fun inv => ?_)
          try simp only [Act.put, List.setIfInBounds_toArray, List.set_cons_zero, List.set_cons_succ]
          refine FirstH.goG (i := 23) (v := .pointer (some ⟨bd, 4, none⟩)) rfl (by rfl) 93 rfl (Op.fieldAddr 35 (.tmp 92) 3) rfl (by kernel_rfl) (fun _ _ _ h => h) inv (fun W hS => by unfold bareO; go_simp) HS (fun inv => ?_)
          try simp only [Act.put, List.setIfInBounds_toArray, List.set_cons_zero, List.set_cons_succ]
          refine FirstH.goG (i := 24) (v := .bool d2.has) rfl (by rfl) 94 rfl (Op.load 4 (.tmp 93)) rfl (by kernel_rfl) (fun _ _ _ h => h) inv (fun W hS => by have q0 := cell_of hS.1 0 (.int .u64 d2.pr) rfl; have q1 := cell_of hS.1 1 (.int .u64 d2.bal) rfl; have q2 := cell_of hS.1 2 (.slice A3 n3 c3) rfl; have q3 := cell_of hS.1 3 (.slice A4 n4 c4) rfl; have q4 := cell_of hS.1 4 (.bool d2.has) rfl; have v0 := cell_of hS.2 0 (.slice A1 n1 c1) rfl; have v1 := cell_of hS.2 1 (.slice A2 n2 c2) rfl; unfold bareO; go_simp) HS (fun inv => ?_)
          try simp only [Act.put, List.setIfInBounds_toArray, List.set_cons_zero, List.set_cons_succ]
          refine FirstH.goG (i := 25) (v := .bool false) rfl (by rfl) 95 rfl (Op.binOp .neq 4 (.tmp 90) (.tmp 94) 4) rfl (by kernel_rfl) (fun _ _ _ h => h) inv (fun W hS => by unfold bareO; go_simp) HS (fun inv => ?_)
          try simp only [Act.put, List.setIfInBounds_toArray, List.set_cons_zero, List.set_cons_succ]
          refine FirstH.go (i := 26) (v := .bool false) rfl rfl 96 rfl (Op.pick (.tmp 89) (.const (.bool true)) (.tmp 95)) rfl (by kernel_rfl) (fun _ _ _ h => h) inv (fun W hS => by unfold bareO; go_simp) HS (fun inv => ?_)
          try simp only [Act.put, List.setIfInBounds_toArray, List.set_cons_zero, List.set_cons_succ]
          refine FirstH.go (i := 27) (v := .bool false) rfl rfl 97 rfl (Op.move (.tmp 96)) rfl (by kernel_rfl) (fun _ _ _ h => h) inv (fun W hS => by unfold bareO; go_simp) HS (fun inv => ?_)
          try simp only [Act.put, List.setIfInBounds_toArray, List.set_cons_zero, List.set_cons_succ]
          refine FirstH.goG (i := 28) (v := .agg #[.slice A1 n1 c1, .slice A2 n2 c2]) rfl (by rfl) 98 rfl (Op.load 46 (.tmp 13)) rfl (by kernel_rfl) (fun _ _ _ h => h) inv (fun W hS => by have q0 := cell_of hS.1 0 (.int .u64 d2.pr) rfl; have q1 := cell_of hS.1 1 (.int .u64 d2.bal) rfl; have q2 := cell_of hS.1 2 (.slice A3 n3 c3) rfl; have q3 := cell_of hS.1 3 (.slice A4 n4 c4) rfl; have q4 := cell_of hS.1 4 (.bool d2.has) rfl; have v0 := cell_of hS.2 0 (.slice A1 n1 c1) rfl; have v1 := cell_of hS.2 1 (.slice A2 n2 c2) rfl; unfold bareO; go_simp) HS (fun inv => ?_)
          try simp only [Act.put, List.setIfInBounds_toArray, List.set_cons_zero, List.set_cons_succ]
          refine FirstH.goG (i := 30) (v := .pointer (some ⟨bd, 0, none⟩)) rfl (by rfl) 100 rfl (Op.move (.tmp 8)) rfl (by kernel_rfl) (fun _ _ _ h => h) inv (fun W hS => by unfold bareO; go_simp) HS (fun inv => ?_)
          try simp only [Act.put, List.setIfInBounds_toArray, List.set_cons_zero, List.set_cons_succ]
          refine FirstH.goG (i := 31) (v := .pointer (some ⟨bd, 0, none⟩)) rfl (by rfl) 101 rfl (Op.nilCheck (.tmp 100)) rfl (by kernel_rfl) (fun _ _ _ h => h) inv (fun W hS => by unfold bareO; go_simp) HS (fun inv => ?_)
          try simp only [Act.put, List.setIfInBounds_toArray, List.set_cons_zero, List.set_cons_succ]
          refine FirstH.goG (i := 32) (v := .pointer (some ⟨bd, 2, none⟩)) rfl (by rfl) 102 rfl (Op.fieldAddr 35 (.tmp 101) 2) rfl (by kernel_rfl) (fun _ _ _ h => h) inv (fun W hS => by unfold bareO; go_simp) HS (fun inv => ?_)
          try simp only [Act.put, List.setIfInBounds_toArray, List.set_cons_zero, List.set_cons_succ]
          refine FirstH.goG (i := 33) (v := .agg #[.slice A3 n3 c3, .slice A4 n4 c4]) rfl (by rfl) 103 rfl (Op.load 33 (.tmp 102)) rfl (by kernel_rfl) (fun _ _ _ h => h) inv (fun W hS => by have q0 := cell_of hS.1 0 (.int .u64 d2.pr) rfl; have q1 := cell_of hS.1 1 (.int .u64 d2.bal) rfl; have q2 := cell_of hS.1 2 (.slice A3 n3 c3) rfl; have q3 := cell_of hS.1 3 (.slice A4 n4 c4) rfl; have q4 := cell_of hS.1 4 (.bool d2.has) rfl; have v0 := cell_of hS.2 0 (.slice A1 n1 c1) rfl; have v1 := cell_of hS.2 1 (.slice A2 n2 c2) rfl; unfold bareO; go_simp) HS (fun inv => ?_)
          try simp only [Act.put, List.setIfInBounds_toArray, List.set_cons_zero, List.set_cons_succ]
          refine FirstH.only (i := 29) (by kernel_rfl) (by decide) inv (fun inv => wpOp_callG (i := 29) rfl (by rfl) 99 rfl (Op.call { callee := .value (.func 19), args := #[.tmp 98], argTypes := #[46] }) rfl 19 #[.agg #[.slice A1 n1 c1, .slice A2 n2 c2]] (by unfold bareO; go_simp) (KRF.out) ?_)
          rintro e u5 ⟨x5, rfl, ok5, d5, b5⟩
          have J5 := Lib.hid (J4.out.below b5)
          have KSM : Hid (Calls Try.prog 18 #[.agg #[x5.m, x5.t], .agg #[.slice A3 n3 c3, .slice A4 n4 c4]] u5 fun r w' => r = .returned (.bool true) ∧ Below u5.heap.size u5 w') := Lib.hid (by
            have h2 := J5.out.r.at_
            have hsz := J5.out.size
            have := refSameV x5 ⟨.slice A3 X2.length c3, X2, .slice A4 L2.length c4, L2⟩ u5 ok5.at_ (h2.below (Below.refl u5.heap.size u5) hsz hsz) (by rw [d5]; exact J5.out.r.vd.trans HHD.out.symm)
            simp only [Vl.cs, HN3.out, HN4.out] at this
            exact this)
          have HS5 : u5.heap[bd]? = some (.cells #[.int .u64 d2.pr, .int .u64 d2.bal, .slice A3 n3 c3, .slice A4 n4 c4, .bool d2.has] 35 (0, 0)) ∧ u5.heap[kv]? = some (.cells #[.slice A1 n1 c1, .slice A2 n2 c2] 46 (0, 0)) := ⟨(b5.block bd (heap_lt HS.1)).trans HS.1, (b5.block kv (heap_lt HS.2)).trans HS.2⟩
          clear HS b5 ok5 d5
          have HS := HS5
          clear HS5
          refine ⟨_, rfl, HS, ?_⟩
          try simp only [Act.put, List.setIfInBounds_toArray, List.set_cons_zero, List.set_cons_succ]
          refine FirstH.only (i := 34) (by kernel_rfl) (by decide) inv (fun inv => wpOp_callG (i := 34) rfl (by rfl) 104 rfl (Op.call { callee := .value (.func 18), args := #[.tmp 99, .tmp 103], argTypes := #[33, 33] }) rfl 18 #[.agg #[x5.m, x5.t], .agg #[.slice A3 n3 c3, .slice A4 n4 c4]] (by unfold bareO; go_simp) (KSM.out) ?_)
          rintro e u6 ⟨rfl, b6⟩
          have J6 := Lib.hid (J5.out.below b6)
          have HS6 : u6.heap[bd]? = some (.cells #[.int .u64 d2.pr, .int .u64 d2.bal, .slice A3 n3 c3, .slice A4 n4 c4, .bool d2.has] 35 (0, 0)) ∧ u6.heap[kv]? = some (.cells #[.slice A1 n1 c1, .slice A2 n2 c2] 46 (0, 0)) := ⟨(b6.block bd (heap_lt HS.1)).trans HS.1, (b6.block kv (heap_lt HS.2)).trans HS.2⟩
          clear HS b6
          have HS := HS6
          clear HS6
          refine ⟨_, rfl, HS, ?_⟩
          try simp only [Act.put, List.setIfInBounds_toArray, List.set_cons_zero, List.set_cons_succ]
          refine FirstH.goG (i := 35) (v := .bool false) rfl (by rfl) 105 rfl (Op.unOp .not 4 (.tmp 104)) rfl (by kernel_rfl) (fun _ _ _ h => h) inv (fun W hS => by unfold bareO; go_simp) HS (fun inv => ?_)
          try simp only [Act.put, List.setIfInBounds_toArray, List.set_cons_zero, List.set_cons_succ]
          refine ⟨by kernel_rfl, ?_⟩
          simp only [List.drop_succ_cons, List.drop_zero]
          clear HS
          go_wp2_with fail
          go_roundw
          case rel => exact ⟨k + 1, by have := HKN.out; omega, by go_num, _, _, J6⟩
          case measure => have := HKN.out; simp [intOf]; omega
        · as_aux_lemma =>
          skip
          go_wp2_with (first
            | (refine wpList_load_mid rfl 40 (.tmp 35) rfl g (o + k * 8) (by rfl) cs.toList _ HC.out Try.underlying40 rfl HSZ2.out ?_)
            | (rw [HUA.out, HKX.out])
            | (refine wpList_store_row rfl 40 (.tmp 10) (.tmp 36) rfl kx cs (by rfl) (by rfl) 40 #[.int .i64 0, .int .u64 0, .int .u8 0, .int .u16 0, .slice none 0 0, .slice none 0 0, .slice none 0 0, .bool false] RA.out HSZ3.out HOLD.out HOB.out ?_; rw [HUB.out])
            | fail)
          go_wp2_with fail
          refine region_heldT (S := fun u => u.heap[kx]? = some (.cells #[.int .i64 kd, .int .u64 ab, .int .u8 ap.n, .int .u16 ap.l, .slice TA nT tc, .slice MA nX mc, .slice LA nL lc, .bool has] 40 (0, 0))) 14 (by kernel_rfl) (by decide) (fun inv => ?_)
          have HS : ub.drew.heap[kx]? = some (.cells #[.int .i64 kd, .int .u64 ab, .int .u8 ap.n, .int .u16 ap.l, .slice TA nT tc, .slice MA nX mc, .slice LA nL lc, .bool has] 40 (0, 0)) := RX.out
          change FirstH _ _ _ _ _ _ _ _ _ _ ub.drew
          generalize ub.drew = uc at *
          refine FirstH.go (i := 0) (v := .pointer (some ⟨ba, 0, none⟩)) rfl rfl 50 rfl (Op.move (.tmp 7)) rfl (by kernel_rfl) (fun _ _ _ h => h) inv (fun W hS => by unfold bareO; go_simp) HS (fun inv => ?_)
          try simp only [Act.put, List.setIfInBounds_toArray, List.set_cons_zero, List.set_cons_succ]
          refine FirstH.go (i := 1) (v := .pointer (some ⟨kx, 1, none⟩)) rfl rfl 51 rfl (Op.fieldAddr 40 (.tmp 10) 1) rfl (by kernel_rfl) (fun _ _ _ h => h) inv (fun W hS => by unfold bareO; go_simp) HS (fun inv => ?_)
          try simp only [Act.put, List.setIfInBounds_toArray, List.set_cons_zero, List.set_cons_succ]
          refine FirstH.go (i := 2) (v := .int .u64 ab) rfl rfl 52 rfl (Op.load 29 (.tmp 51)) rfl (by kernel_rfl) (fun _ _ _ h => h) inv (fun W hS => by have q1 := cell_of hS 1 (.int .u64 ab) rfl; have q5 := cell_of hS 5 (.slice MA nX mc) rfl; have q6 := cell_of hS 6 (.slice LA nL lc) rfl; unfold bareO; go_simp) HS (fun inv => ?_)
          try simp only [Act.put, List.setIfInBounds_toArray, List.set_cons_zero, List.set_cons_succ]
          refine FirstH.go (i := 3) (v := .pointer (some ⟨kx, 5, none⟩)) rfl rfl 53 rfl (Op.fieldAddr 40 (.tmp 10) 4) rfl (by kernel_rfl) (fun _ _ _ h => h) inv (fun W hS => by unfold bareO; go_simp) HS (fun inv => ?_)
          try simp only [Act.put, List.setIfInBounds_toArray, List.set_cons_zero, List.set_cons_succ]
          refine FirstH.go (i := 4) (v := .agg #[.slice MA nX mc, .slice LA nL lc]) rfl rfl 54 rfl (Op.load 33 (.tmp 53)) rfl (by kernel_rfl) (fun _ _ _ h => h) inv (fun W hS => by have q1 := cell_of hS 1 (.int .u64 ab) rfl; have q5 := cell_of hS 5 (.slice MA nX mc) rfl; have q6 := cell_of hS 6 (.slice LA nL lc) rfl; unfold bareO; go_simp) HS (fun inv => ?_)
          try simp only [Act.put, List.setIfInBounds_toArray, List.set_cons_zero, List.set_cons_succ]
          refine FirstH.go (i := 7) (v := .pointer (some ⟨bd, 0, none⟩)) rfl rfl 57 rfl (Op.move (.tmp 8)) rfl (by kernel_rfl) (fun _ _ _ h => h) inv (fun W hS => by unfold bareO; go_simp) HS (fun inv => ?_)
          try simp only [Act.put, List.setIfInBounds_toArray, List.set_cons_zero, List.set_cons_succ]
          refine FirstH.go (i := 8) (v := .pointer (some ⟨kx, 1, none⟩)) rfl rfl 58 rfl (Op.fieldAddr 40 (.tmp 10) 1) rfl (by kernel_rfl) (fun _ _ _ h => h) inv (fun W hS => by unfold bareO; go_simp) HS (fun inv => ?_)
          try simp only [Act.put, List.setIfInBounds_toArray, List.set_cons_zero, List.set_cons_succ]
          refine FirstH.go (i := 9) (v := .int .u64 ab) rfl rfl 59 rfl (Op.load 29 (.tmp 58)) rfl (by kernel_rfl) (fun _ _ _ h => h) inv (fun W hS => by have q1 := cell_of hS 1 (.int .u64 ab) rfl; have q5 := cell_of hS 5 (.slice MA nX mc) rfl; have q6 := cell_of hS 6 (.slice LA nL lc) rfl; unfold bareO; go_simp) HS (fun inv => ?_)
          try simp only [Act.put, List.setIfInBounds_toArray, List.set_cons_zero, List.set_cons_succ]
          refine FirstH.go (i := 10) (v := .pointer (some ⟨kx, 5, none⟩)) rfl rfl 60 rfl (Op.fieldAddr 40 (.tmp 10) 4) rfl (by kernel_rfl) (fun _ _ _ h => h) inv (fun W hS => by unfold bareO; go_simp) HS (fun inv => ?_)
          try simp only [Act.put, List.setIfInBounds_toArray, List.set_cons_zero, List.set_cons_succ]
          refine FirstH.go (i := 11) (v := .agg #[.slice MA nX mc, .slice LA nL lc]) rfl rfl 61 rfl (Op.load 33 (.tmp 60)) rfl (by kernel_rfl) (fun _ _ _ h => h) inv (fun W hS => by have q1 := cell_of hS 1 (.int .u64 ab) rfl; have q5 := cell_of hS 5 (.slice MA nX mc) rfl; have q6 := cell_of hS 6 (.slice LA nL lc) rfl; unfold bareO; go_simp) HS (fun inv => ?_)
          try simp only [Act.put, List.setIfInBounds_toArray, List.set_cons_zero, List.set_cons_succ]
          refine FirstH.only (i := 5) (by kernel_rfl) (by decide) inv (fun inv => wpOp_call (i := 5) rfl rfl 55 rfl (Op.call { callee := .value (.func 14), args := #[.tmp 54], argTypes := #[33] }) rfl 14 #[.agg #[.slice MA nX mc, .slice LA nL lc]] (by unfold bareO; go_simp) (KOW.out uc JB.out.low) ?_)
          rintro e ud ⟨y, rfl, oky, dy, bd1⟩
          have JD := JB.out.below bd1
          have HSd : ud.heap[kx]? = some (.cells #[.int .i64 kd, .int .u64 ab, .int .u8 ap.n, .int .u16 ap.l, .slice TA nT tc, .slice MA nX mc, .slice LA nL lc, .bool has] 40 (0, 0)) := (bd1.block kx (heap_lt HS)).trans HS
          refine ⟨_, rfl, HSd, ?_⟩
          try simp only [Act.put, List.setIfInBounds_toArray, List.set_cons_zero, List.set_cons_succ]
          refine FirstH.only (i := 6) (by kernel_rfl) (by decide) inv (fun inv => wpOp_call (i := 6) rfl rfl 56 rfl (Op.call { callee := .value (.func 13), args := #[.tmp 50, .tmp 52, .tmp 55], argTypes := #[26, 29, 46] }) rfl 13 #[.pointer (some ⟨ba, 0, none⟩), .int .u64 ab, .agg y.cs] (by unfold bareO; go_simp) (accA ud ba d JD.a ab y oky) ?_)
          rintro e ue ⟨rfl, hae, ke⟩
          have HSe : ue.heap[kx]? = some (.cells #[.int .i64 kd, .int .u64 ab, .int .u8 ap.n, .int .u16 ap.l, .slice TA nT tc, .slice MA nX mc, .slice LA nL lc, .bool has] 40 (0, 0)) := (ke.block kx (heap_lt HSd) NEA.out).trans HSd
          have hde := JD.mid ke
          have hlow := JD.low.trans (ke.below JD.size fun j hj => hj ▸ JD.ga)
          have KRA := racc ue base bd d x hde JD.gd JD.made ab ax (HAX.out ue hlow)
          rw [HAXC.out] at KRA
          refine ⟨_, rfl, HSe, ?_⟩
          try simp only [Act.put, List.setIfInBounds_toArray, List.set_cons_zero, List.set_cons_succ]
          refine FirstH.only (i := 12) (by kernel_rfl) (by decide) inv (fun inv => wpOp_call (i := 12) rfl rfl 62 rfl (Op.call { callee := .value (.func 15), args := #[.tmp 57, .tmp 59, .tmp 61], argTypes := #[28, 29, 33] }) rfl 15 #[.pointer (some ⟨bd, 0, none⟩), .int .u64 ab, .agg #[.slice MA nX mc, .slice LA nL lc]] (by unfold bareO; go_simp) (KRA) ?_)
          rintro e uf ⟨rfl, hrf, kf⟩
          have HSf : uf.heap[kx]? = some (.cells #[.int .i64 kd, .int .u64 ab, .int .u8 ap.n, .int .u16 ap.l, .slice TA nT tc, .slice MA nX mc, .slice LA nL lc, .bool has] 40 (0, 0)) := (kf.block kx (heap_lt HSe) NED.out).trans HSe
          rw [dy] at hae
          have J2 := JD.step ke hae kf hrf (Ad.acc_made JD.made ab _)
          obtain ⟨mb, hmb⟩ : ∃ z, d.may ab = z := ⟨_, rfl⟩
          rw [hmb]
          clear HS hae hde ke hrf kf hmb HSd HSe hlow KRA JD bd1 oky dy
          refine ⟨_, rfl, HSf, ?_⟩
          try simp only [Act.put, List.setIfInBounds_toArray, List.set_cons_zero, List.set_cons_succ]
          refine FirstH.go (i := 13) (v := .bool true) rfl rfl 63 rfl (Op.binOp .eql 4 (.tmp 56) (.tmp 62) 4) rfl (by kernel_rfl) (fun _ _ _ h => h) inv (fun W hS => by unfold bareO; go_simp) HSf (fun inv => ?_)
          try simp only [Act.put, List.setIfInBounds_toArray, List.set_cons_zero, List.set_cons_succ]
          refine ⟨by kernel_rfl, ?_⟩
          simp only [List.drop_succ_cons, List.drop_zero]
          clear HSf
          obtain ⟨d2, hd2⟩ : ∃ z, d.acc ab ax.d = z := ⟨_, rfl⟩
          obtain ⟨x2, hx2⟩ : ∃ z, d.sel ab x ax = z := ⟨_, rfl⟩
          rw [hd2, hx2] at J2
          have J := Lib.hid J2
          clear J2 hd2 hx2
          go_wp2_with fail
          refine (heldA _ _ _ J.out.a).mono ?_
          rintro e u1 ⟨⟨hm, HX, ht, HL⟩, rfl, hok, hhd, b1⟩
          have J1 := Lib.hid (J.out.below b1)
          obtain ⟨A1, c1, e1, -, -, -, -⟩ := hok.m.rows
          obtain ⟨A2, c2, e2, -, -, -, -⟩ := hok.t.rows
          dsimp only at e1 e2
          subst e1 e2
          obtain ⟨kv, hkv⟩ : ∃ z, u1.heap.size = z := ⟨_, rfl⟩
          obtain ⟨u2, hu2⟩ : ∃ z, u1.alloc (.cells #[.slice none 0 0, .slice none 0 0] 46) = z := ⟨_, rfl⟩
          have r2 : u2.heap[kv]? = some (.cells #[.slice none 0 0, .slice none 0 0] 46 (0, 0)) := by rw [← hu2, ← hkv]; exact heap_alloc_new _ _
          obtain ⟨u3, hu3⟩ : ∃ z, u2.setRow kv #[.slice A1 HX.length c1, .slice A2 HL.length c2] = z := ⟨_, rfl⟩
          have b3 : Below u1.heap.size u1 u3 := by
            rw [← hu3, ← hu2, ← hkv]
            exact ((Below.refl _ _).alloc (Nat.le_refl _) _).trans ⟨rfl, rfl, rfl, by simp [World.setRow], fun k hk => setRow_other _ u1.heap.size k _ (by omega)⟩
          have r3 : u3.heap[kv]? = some (.cells #[.slice A1 HX.length c1, .slice A2 HL.length c2] 46 (0, 0)) := by rw [← hu3]; exact setRow_heapG _ _ _ _ _ _ r2
          have J3 := Lib.hid (J1.out.below b3)
          have J4 := Lib.hid (J3.out.below (Below.refl _ _).drew)
          have ok4 := (hok.keep (Keeps.of_below b3)).keep (Keeps.of_below (Below.refl _ u3).drew)
          have KRF := Lib.hid (refVal _ u3.drew ok4)
          have KPD := Lib.hid (promA u3.drew ba _ J4.out.a)
          obtain ⟨x2m, X2, x2t, L2⟩ := x2
          obtain ⟨A3, c3, e3, -, -, -⟩ := J4.out.r.at_.m
          obtain ⟨A4, c4, e4, -, -, -⟩ := J4.out.r.at_.t
          dsimp only at e3 e4
          subst e3 e4
          have RD4 : Hid (u3.drew.heap[bd]? = some (.cells #[.int .u64 d2.pr, .int .u64 d2.bal, .slice A3 X2.length c3, .slice A4 L2.length c4, .bool d2.has] 35 (0, 0))) := Lib.hid J4.out.r.blk
          have RV4 : Hid (u3.drew.heap[kv]? = some (.cells #[.slice A1 HX.length c1, .slice A2 HL.length c2] 46 (0, 0))) := Lib.hid r3
          have HHD := Lib.hid hhd
          dsimp only [Vl.cs] at KRF ⊢
          obtain ⟨n1, hn1⟩ : ∃ z, HX.length = z := ⟨_, rfl⟩
          obtain ⟨n2, hn2⟩ : ∃ z, HL.length = z := ⟨_, rfl⟩
          obtain ⟨n3, hn3⟩ : ∃ z, X2.length = z := ⟨_, rfl⟩
          obtain ⟨n4, hn4⟩ : ∃ z, L2.length = z := ⟨_, rfl⟩
          have HN3 := Lib.hid hn3
          have HN4 := Lib.hid hn4
          rw [hn1, hn2] at KRF RV4 hu3
          rw [hn3, hn4] at RD4
          rw [hn1, hn2]
          have HU2 := Lib.hid hu2
          have HU3 := Lib.hid hu3
          have HKV := Lib.hid hkv
          have RV2 := Lib.hid r2
          clear b1 hok hhd hkv hu2 r2 hu3 b3 r3 ok4 hn1 hn2 hn3 hn4
          go_wp2_with (first
            | (rw [HU2.out, HKV.out])
            | (refine wpList_store_row rfl 46 (.tmp 13) (.tmp 68) rfl kv #[.slice A1 n1 c1, .slice A2 n2 c2] (by rfl) (by rfl) 46 _ RV2.out (by kernel_rfl) rfl (by simp [Value.oneCell']) ?_; rw [HU3.out])
            | fail)
          refine region_heldT (S := fun u => u.heap[bd]? = some (.cells #[.int .u64 d2.pr, .int .u64 d2.bal, .slice A3 n3 c3, .slice A4 n4 c4, .bool d2.has] 35 (0, 0)) ∧ u.heap[kv]? = some (.cells #[.slice A1 n1 c1, .slice A2 n2 c2] 46 (0, 0))) 36 (by kernel_rfl) (by decide) (fun inv => ?_)
          have HS : u3.drew.heap[bd]? = some (.cells #[.int .u64 d2.pr, .int .u64 d2.bal, .slice A3 n3 c3, .slice A4 n4 c4, .bool d2.has] 35 (0, 0)) ∧ u3.drew.heap[kv]? = some (.cells #[.slice A1 n1 c1, .slice A2 n2 c2] 46 (0, 0)) := ⟨RD4.out, RV4.out⟩
          change FirstH _ _ _ _ _ _ _ _ _ _ u3.drew
          generalize u3.drew = u4 at *
          refine FirstH.go (i := 0) (v := .bool true) rfl rfl 70 rfl (Op.move (.tmp 11)) rfl (by kernel_rfl) (fun _ _ _ h => h) inv (fun W hS => by unfold bareO; go_simp) HS (fun inv => ?_)
          try simp only [Act.put, List.setIfInBounds_toArray, List.set_cons_zero, List.set_cons_succ]
          refine FirstH.go (i := 1) (v := .bool false) rfl rfl 71 rfl (Op.unOp .not 4 (.tmp 70)) rfl (by kernel_rfl) (fun _ _ _ h => h) inv (fun W hS => by unfold bareO; go_simp) HS (fun inv => ?_)
          try simp only [Act.put, List.setIfInBounds_toArray, List.set_cons_zero, List.set_cons_succ]
          refine FirstH.go (i := 2) (v := .bool false) rfl rfl 72 rfl (Op.move (.tmp 71)) rfl (by kernel_rfl) (fun _ _ _ h => h) inv (fun W hS => by unfold bareO; go_simp) HS (fun inv => ?_)
          try simp only [Act.put, List.setIfInBounds_toArray, List.set_cons_zero, List.set_cons_succ]
          refine FirstH.goG (i := 3) (v := .pointer (some ⟨ba, 0, none⟩)) rfl (by rfl) 73 rfl (Op.move (.tmp 7)) rfl (by kernel_rfl) (fun _ _ _ h => h) inv (fun W hS => by unfold bareO; go_simp) HS (fun inv => ?_)
          try simp only [Act.put, List.setIfInBounds_toArray, List.set_cons_zero, List.set_cons_succ]
          refine FirstH.goG (i := 5) (v := .pointer (some ⟨bd, 0, none⟩)) rfl (by rfl) 75 rfl (Op.move (.tmp 8)) rfl (by kernel_rfl) (fun _ _ _ h => h) inv (fun W hS => by unfold bareO; go_simp) HS (fun inv => ?_)
          try simp only [Act.put, List.setIfInBounds_toArray, List.set_cons_zero, List.set_cons_succ]
          refine FirstH.goG (i := 6) (v := .pointer (some ⟨bd, 0, none⟩)) rfl (by rfl) 76 rfl (Op.nilCheck (.tmp 75)) rfl (by kernel_rfl) (fun _ _ _ h => h) inv (fun W hS => by unfold bareO; go_simp) HS (fun inv => ?_)
          try simp only [Act.put, List.setIfInBounds_toArray, List.set_cons_zero, List.set_cons_succ]
          refine FirstH.goG (i := 7) (v := .pointer (some ⟨bd, 0, none⟩)) rfl (by rfl) 77 rfl (Op.fieldAddr 35 (.tmp 76) 0) rfl (by kernel_rfl) (fun _ _ _ h => h) inv (fun W hS => by unfold bareO; go_simp) HS (fun inv => ?_)
          try simp only [Act.put, List.setIfInBounds_toArray, List.set_cons_zero, List.set_cons_succ]
          refine FirstH.goG (i := 8) (v := .int .u64 d2.pr) rfl (by rfl) 78 rfl (Op.load 29 (.tmp 77)) rfl (by kernel_rfl) (fun _ _ _ h => h) inv (fun W hS => by have q0 := cell_of hS.1 0 (.int .u64 d2.pr) rfl; have q1 := cell_of hS.1 1 (.int .u64 d2.bal) rfl; have q2 := cell_of hS.1 2 (.slice A3 n3 c3) rfl; have q3 := cell_of hS.1 3 (.slice A4 n4 c4) rfl; have q4 := cell_of hS.1 4 (.bool d2.has) rfl; have v0 := cell_of hS.2 0 (.slice A1 n1 c1) rfl; have v1 := cell_of hS.2 1 (.slice A2 n2 c2) rfl; unfold bareO; go_simp) HS (fun inv => ?_)
          try simp only [Act.put, List.setIfInBounds_toArray, List.set_cons_zero, List.set_cons_succ]
          refine FirstH.only (i := 4) (by kernel_rfl) (by decide) inv (fun inv => wpOp_callG (i := 4) rfl (by rfl) 74 rfl (Op.call { callee := .value (.func 17), args := #[.tmp 73], argTypes := #[26] }) rfl 17 #[.pointer (some ⟨ba, 0, none⟩)] (by unfold bareO; go_simp) (KPD.out) ?_)
          rintro e ux ⟨rfl, rfl⟩
          refine ⟨_, rfl, HS, ?_⟩
          try simp only [Act.put, List.setIfInBounds_toArray, List.set_cons_zero, List.set_cons_succ]
          refine FirstH.goG (i := 9) (v := .bool false) rfl (by rfl) 79 rfl (Op.binOp .neq 29 (.tmp 74) (.tmp 78) 29) rfl (by kernel_rfl) (fun _ _ _ h => h) inv (fun W hS => by unfold bareO; go_simp) HS (fun inv => ?_)
          try simp only [Act.put, List.setIfInBounds_toArray, List.set_cons_zero, List.set_cons_succ]
          refine FirstH.go (i := 10) (v := .bool false) rfl rfl 80 rfl (Op.pick (.tmp 72) (.const (.bool true)) (.tmp 79)) rfl (by kernel_rfl) (fun _ _ _ h => h) inv (fun W hS => by unfold bareO; go_simp) HS (fun inv => ?_)
          try simp only [Act.put, List.setIfInBounds_toArray, List.set_cons_zero, List.set_cons_succ]
          refine FirstH.go (i := 11) (v := .bool false) rfl rfl 81 rfl (Op.move (.tmp 80)) rfl (by kernel_rfl) (fun _ _ _ h => h) inv (fun W hS => by unfold bareO; go_simp) HS (fun inv => ?_)
          try simp only [Act.put, List.setIfInBounds_toArray, List.set_cons_zero, List.set_cons_succ]
          refine FirstH.goG (i := 12) (v := .int .u64 d2.bal) rfl (by rfl) 82 rfl (Op.move (.tmp 12)) rfl (by kernel_rfl) (fun _ _ _ h => h) inv (fun W hS => by unfold bareO; go_simp) HS (fun inv => ?_)
          try simp only [Act.put, List.setIfInBounds_toArray, List.set_cons_zero, List.set_cons_succ]
          refine FirstH.goG (i := 13) (v := .pointer (some ⟨bd, 0, none⟩)) rfl (by rfl) 83 rfl (Op.move (.tmp 8)) rfl (by kernel_rfl) (fun _ _ _ h => h) inv (fun W hS => by unfold bareO; go_simp) HS (fun inv => ?_)
          try simp only [Act.put, List.setIfInBounds_toArray, List.set_cons_zero, List.set_cons_succ]
          refine FirstH.goG (i := 14) (v := .pointer (some ⟨bd, 0, none⟩)) rfl (by rfl) 84 rfl (Op.nilCheck (.tmp 83)) rfl (by kernel_rfl) (fun _ _ _ h => h) inv (fun W hS => by unfold bareO; go_simp) HS (fun inv => ?_)
          try simp only [Act.put, List.setIfInBounds_toArray, List.set_cons_zero, List.set_cons_succ]
          refine FirstH.goG (i := 15) (v := .pointer (some ⟨bd, 1, none⟩)) rfl (by rfl) 85 rfl (Op.fieldAddr 35 (.tmp 84) 1) rfl (by kernel_rfl) (fun _ _ _ h => h) inv (fun W hS => by unfold bareO; go_simp) HS (fun inv => ?_)
          try simp only [Act.put, List.setIfInBounds_toArray, List.set_cons_zero, List.set_cons_succ]
          refine FirstH.goG (i := 16) (v := .int .u64 d2.bal) rfl (by rfl) 86 rfl (Op.load 29 (.tmp 85)) rfl (by kernel_rfl) (fun _ _ _ h => h) inv (fun W hS => by have q0 := cell_of hS.1 0 (.int .u64 d2.pr) rfl; have q1 := cell_of hS.1 1 (.int .u64 d2.bal) rfl; have q2 := cell_of hS.1 2 (.slice A3 n3 c3) rfl; have q3 := cell_of hS.1 3 (.slice A4 n4 c4) rfl; have q4 := cell_of hS.1 4 (.bool d2.has) rfl; have v0 := cell_of hS.2 0 (.slice A1 n1 c1) rfl; have v1 := cell_of hS.2 1 (.slice A2 n2 c2) rfl; unfold bareO; go_simp) HS (fun inv => ?_)
          try simp only [Act.put, List.setIfInBounds_toArray, List.set_cons_zero, List.set_cons_succ]
          refine FirstH.goG (i := 17) (v := .bool false) rfl (by rfl) 87 rfl (Op.binOp .neq 29 (.tmp 82) (.tmp 86) 29) rfl (by kernel_rfl) (fun _ _ _ h => h) inv (fun W hS => by unfold bareO; go_simp) HS (fun inv => ?_)
          try simp only [Act.put, List.setIfInBounds_toArray, List.set_cons_zero, List.set_cons_succ]
          refine FirstH.go (i := 18) (v := .bool false) rfl rfl 88 rfl (Op.pick (.tmp 81) (.const (.bool true)) (.tmp 87)) rfl (by kernel_rfl) (fun _ _ _ h => h) inv (fun W hS => by unfold bareO; go_simp) HS (fun inv => ?_)
          try simp only [Act.put, List.setIfInBounds_toArray, List.set_cons_zero, List.set_cons_succ]
          refine FirstH.go (i := 19) (v := .bool false) rfl rfl 89 rfl (Op.move (.tmp 88)) rfl (by kernel_rfl) (fun _ _ _ h => h) inv (fun W hS => by unfold bareO; go_simp) HS (fun inv => ?_)
          try simp only [Act.put, List.setIfInBounds_toArray, List.set_cons_zero, List.set_cons_succ]
          refine FirstH.goG (i := 20) (v := .bool d2.has) rfl (by rfl) 90 rfl (Op.move (.tmp 14)) rfl (by kernel_rfl) (fun _ _ _ h => h) inv (fun W hS => by unfold bareO; go_simp) HS (fun inv => ?_)
          try simp only [Act.put, List.setIfInBounds_toArray, List.set_cons_zero, List.set_cons_succ]
          refine FirstH.goG (i := 21) (v := .pointer (some ⟨bd, 0, none⟩)) rfl (by rfl) 91 rfl (Op.move (.tmp 8)) rfl (by kernel_rfl) (fun _ _ _ h => h) inv (fun W hS => by unfold bareO; go_simp) HS (fun inv => ?_)
          try simp only [Act.put, List.setIfInBounds_toArray, List.set_cons_zero, List.set_cons_succ]
          refine FirstH.goG (i := 22) (v := .pointer (some ⟨bd, 0, none⟩)) rfl (by rfl) 92 rfl (Op.nilCheck (.tmp 91)) rfl (by kernel_rfl) (fun _ _ _ h => h) inv (fun W hS => by unfold bareO; go_simp) HS (fun inv => ?_)
          try simp only [Act.put, List.setIfInBounds_toArray, List.set_cons_zero, List.set_cons_succ]
          refine FirstH.goG (i := 23) (v := .pointer (some ⟨bd, 4, none⟩)) rfl (by rfl) 93 rfl (Op.fieldAddr 35 (.tmp 92) 3) rfl (by kernel_rfl) (fun _ _ _ h => h) inv (fun W hS => by unfold bareO; go_simp) HS (fun inv => ?_)
          try simp only [Act.put, List.setIfInBounds_toArray, List.set_cons_zero, List.set_cons_succ]
          refine FirstH.goG (i := 24) (v := .bool d2.has) rfl (by rfl) 94 rfl (Op.load 4 (.tmp 93)) rfl (by kernel_rfl) (fun _ _ _ h => h) inv (fun W hS => by have q0 := cell_of hS.1 0 (.int .u64 d2.pr) rfl; have q1 := cell_of hS.1 1 (.int .u64 d2.bal) rfl; have q2 := cell_of hS.1 2 (.slice A3 n3 c3) rfl; have q3 := cell_of hS.1 3 (.slice A4 n4 c4) rfl; have q4 := cell_of hS.1 4 (.bool d2.has) rfl; have v0 := cell_of hS.2 0 (.slice A1 n1 c1) rfl; have v1 := cell_of hS.2 1 (.slice A2 n2 c2) rfl; unfold bareO; go_simp) HS (fun inv => ?_)
          try simp only [Act.put, List.setIfInBounds_toArray, List.set_cons_zero, List.set_cons_succ]
          refine FirstH.goG (i := 25) (v := .bool false) rfl (by rfl) 95 rfl (Op.binOp .neq 4 (.tmp 90) (.tmp 94) 4) rfl (by kernel_rfl) (fun _ _ _ h => h) inv (fun W hS => by unfold bareO; go_simp) HS (fun inv => ?_)
          try simp only [Act.put, List.setIfInBounds_toArray, List.set_cons_zero, List.set_cons_succ]
          refine FirstH.go (i := 26) (v := .bool false) rfl rfl 96 rfl (Op.pick (.tmp 89) (.const (.bool true)) (.tmp 95)) rfl (by kernel_rfl) (fun _ _ _ h => h) inv (fun W hS => by unfold bareO; go_simp) HS (fun inv => ?_)
          try simp only [Act.put, List.setIfInBounds_toArray, List.set_cons_zero, List.set_cons_succ]
          refine FirstH.go (i := 27) (v := .bool false) rfl rfl 97 rfl (Op.move (.tmp 96)) rfl (by kernel_rfl) (fun _ _ _ h => h) inv (fun W hS => by unfold bareO; go_simp) HS (fun inv => ?_)
          try simp only [Act.put, List.setIfInBounds_toArray, List.set_cons_zero, List.set_cons_succ]
          refine FirstH.goG (i := 28) (v := .agg #[.slice A1 n1 c1, .slice A2 n2 c2]) rfl (by rfl) 98 rfl (Op.load 46 (.tmp 13)) rfl (by kernel_rfl) (fun _ _ _ h => h) inv (fun W hS => by have q0 := cell_of hS.1 0 (.int .u64 d2.pr) rfl; have q1 := cell_of hS.1 1 (.int .u64 d2.bal) rfl; have q2 := cell_of hS.1 2 (.slice A3 n3 c3) rfl; have q3 := cell_of hS.1 3 (.slice A4 n4 c4) rfl; have q4 := cell_of hS.1 4 (.bool d2.has) rfl; have v0 := cell_of hS.2 0 (.slice A1 n1 c1) rfl; have v1 := cell_of hS.2 1 (.slice A2 n2 c2) rfl; unfold bareO; go_simp) HS (fun inv => ?_)
          try simp only [Act.put, List.setIfInBounds_toArray, List.set_cons_zero, List.set_cons_succ]
          refine FirstH.goG (i := 30) (v := .pointer (some ⟨bd, 0, none⟩)) rfl (by rfl) 100 rfl (Op.move (.tmp 8)) rfl (by kernel_rfl) (fun _ _ _ h => h) inv (fun W hS => by unfold bareO; go_simp) HS (fun inv => ?_)
          try simp only [Act.put, List.setIfInBounds_toArray, List.set_cons_zero, List.set_cons_succ]
          refine FirstH.goG (i := 31) (v := .pointer (some ⟨bd, 0, none⟩)) rfl (by rfl) 101 rfl (Op.nilCheck (.tmp 100)) rfl (by kernel_rfl) (fun _ _ _ h => h) inv (fun W hS => by unfold bareO; go_simp) HS (fun inv => ?_)
          try simp only [Act.put, List.setIfInBounds_toArray, List.set_cons_zero, List.set_cons_succ]
          refine FirstH.goG (i := 32) (v := .pointer (some ⟨bd, 2, none⟩)) rfl (by rfl) 102 rfl (Op.fieldAddr 35 (.tmp 101) 2) rfl (by kernel_rfl) (fun _ _ _ h => h) inv (fun W hS => by unfold bareO; go_simp) HS (fun inv => ?_)
          try simp only [Act.put, List.setIfInBounds_toArray, List.set_cons_zero, List.set_cons_succ]
          refine FirstH.goG (i := 33) (v := .agg #[.slice A3 n3 c3, .slice A4 n4 c4]) rfl (by rfl) 103 rfl (Op.load 33 (.tmp 102)) rfl (by kernel_rfl) (fun _ _ _ h => h) inv (fun W hS => by have q0 := cell_of hS.1 0 (.int .u64 d2.pr) rfl; have q1 := cell_of hS.1 1 (.int .u64 d2.bal) rfl; have q2 := cell_of hS.1 2 (.slice A3 n3 c3) rfl; have q3 := cell_of hS.1 3 (.slice A4 n4 c4) rfl; have q4 := cell_of hS.1 4 (.bool d2.has) rfl; have v0 := cell_of hS.2 0 (.slice A1 n1 c1) rfl; have v1 := cell_of hS.2 1 (.slice A2 n2 c2) rfl; unfold bareO; go_simp) HS (fun inv => ?_)
          try simp only [Act.put, List.setIfInBounds_toArray, List.set_cons_zero, List.set_cons_succ]
          refine FirstH.only (i := 29) (by kernel_rfl) (by decide) inv (fun inv => wpOp_callG (i := 29) rfl (by rfl) 99 rfl (Op.call { callee := .value (.func 19), args := #[.tmp 98], argTypes := #[46] }) rfl 19 #[.agg #[.slice A1 n1 c1, .slice A2 n2 c2]] (by unfold bareO; go_simp) (KRF.out) ?_)
          rintro e u5 ⟨x5, rfl, ok5, d5, b5⟩
          have J5 := Lib.hid (J4.out.below b5)
          have KSM : Hid (Calls Try.prog 18 #[.agg #[x5.m, x5.t], .agg #[.slice A3 n3 c3, .slice A4 n4 c4]] u5 fun r w' => r = .returned (.bool true) ∧ Below u5.heap.size u5 w') := Lib.hid (by
            have h2 := J5.out.r.at_
            have hsz := J5.out.size
            have := refSameV x5 ⟨.slice A3 X2.length c3, X2, .slice A4 L2.length c4, L2⟩ u5 ok5.at_ (h2.below (Below.refl u5.heap.size u5) hsz hsz) (by rw [d5]; exact J5.out.r.vd.trans HHD.out.symm)
            simp only [Vl.cs, HN3.out, HN4.out] at this
            exact this)
          have HS5 : u5.heap[bd]? = some (.cells #[.int .u64 d2.pr, .int .u64 d2.bal, .slice A3 n3 c3, .slice A4 n4 c4, .bool d2.has] 35 (0, 0)) ∧ u5.heap[kv]? = some (.cells #[.slice A1 n1 c1, .slice A2 n2 c2] 46 (0, 0)) := ⟨(b5.block bd (heap_lt HS.1)).trans HS.1, (b5.block kv (heap_lt HS.2)).trans HS.2⟩
          clear HS b5 ok5 d5
          have HS := HS5
          clear HS5
          refine ⟨_, rfl, HS, ?_⟩
          try simp only [Act.put, List.setIfInBounds_toArray, List.set_cons_zero, List.set_cons_succ]
          refine FirstH.only (i := 34) (by kernel_rfl) (by decide) inv (fun inv => wpOp_callG (i := 34) rfl (by rfl) 104 rfl (Op.call { callee := .value (.func 18), args := #[.tmp 99, .tmp 103], argTypes := #[33, 33] }) rfl 18 #[.agg #[x5.m, x5.t], .agg #[.slice A3 n3 c3, .slice A4 n4 c4]] (by unfold bareO; go_simp) (KSM.out) ?_)
          rintro e u6 ⟨rfl, b6⟩
          have J6 := Lib.hid (J5.out.below b6)
          have HS6 : u6.heap[bd]? = some (.cells #[.int .u64 d2.pr, .int .u64 d2.bal, .slice A3 n3 c3, .slice A4 n4 c4, .bool d2.has] 35 (0, 0)) ∧ u6.heap[kv]? = some (.cells #[.slice A1 n1 c1, .slice A2 n2 c2] 46 (0, 0)) := ⟨(b6.block bd (heap_lt HS.1)).trans HS.1, (b6.block kv (heap_lt HS.2)).trans HS.2⟩
          clear HS b6
          have HS := HS6
          clear HS6
          refine ⟨_, rfl, HS, ?_⟩
          try simp only [Act.put, List.setIfInBounds_toArray, List.set_cons_zero, List.set_cons_succ]
          refine FirstH.goG (i := 35) (v := .bool false) rfl (by rfl) 105 rfl (Op.unOp .not 4 (.tmp 104)) rfl (by kernel_rfl) (fun _ _ _ h => h) inv (fun W hS => by unfold bareO; go_simp) HS (fun inv => ?_)
          try simp only [Act.put, List.setIfInBounds_toArray, List.set_cons_zero, List.set_cons_succ]
          refine ⟨by kernel_rfl, ?_⟩
          simp only [List.drop_succ_cons, List.drop_zero]
          clear HS
          go_wp2_with fail
          go_roundw
          case rel => exact ⟨k + 1, by have := HKN.out; omega, by go_num, _, _, J6⟩
          case measure => have := HKN.out; simp [intOf]; omega
      · obtain rfl : n = k := by omega
        have hk1 : ¬ (n : Int) < (n : Int) := by omega
        go_wp2_with (first
          | (go_at_call 20; refine (KB.out _).mono ?_; rintro e ux ⟨rfl, rfl⟩)
          | (go_at_call 21; refine (KRB.out _).mono ?_; rintro e ux ⟨rfl, rfl⟩)
          | (go_at_call 22; refine (KRO.out _).mono ?_; rintro e ux ⟨rfl, rfl⟩))
        go_ret
        exact ⟨rfl, J0.out.low⟩

end Go.Proofs.Ytmhgopaekpnhoaa
