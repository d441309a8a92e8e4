/-
  The law AmoFew walked: it answers true. Condition: the acts lie in memory, numbers fit their kinds.
-/
import Derived.Test.YtmdnnjffjhocfaaAms
import Derived.Test.YtmdnnjffjhocfaaAnf
import Derived.Deep.MidRow
namespace Go.Proofs.Ytmdnnjffjhocfaa
set_option linter.unusedSimpArgs false
set_option linter.unusedVariables false
open Go.RowKit Go.Maps Go.Sort

theorem few_len {W : World} {b m k c : Nat} {t : Tt} (h : PT W b m k c t) (hc : c ≤ 1000000) : t.L.length ≤ 1000000 := by
  obtain ⟨nn, D, hk, O, M⟩ := h.rows
  rw [← M.size]
  obtain ⟨es, clock, hb, F, hs, rfl⟩ := O
  have e1 : Maps.size (DataW.map ((es.toList.map (WideElems.rg Try.prog 37 rwElem)).foldr DataW.insert [])) = es.size := by simp [Maps.size, length_sorted]
  have e2 : es.size = ((es.toList.map (WideElems.rg Try.prog 37 rwElem)).foldr DataW.insert []).length := by rw [length_sorted]; simp
  omega
theorem maxRun (z : Int) (w : World) (ty : TypeId) : (Builtin.max_ #[3, 3] ty #[.int .i64 z, .int .i64 1]).run Try.prog w = .ok (.int .i64 (max z 1)) w := by
  rcases Int.lt_or_le z 1 with h | h
  · have e : max z 1 = 1 := by omega
    rw [e]
    first | (go_simp; done) | (simp [Builtin.max_]; done) | (go_simp; omega)
  · have e : max z 1 = z := by omega
    rw [e]
    first | (go_simp; done) | (go_simp; omega)
theorem minRun (z : Int) (w : World) (ty : TypeId) : (Builtin.min_ #[3, 3] ty #[.int .i64 z, .int .i64 16]).run Try.prog w = .ok (.int .i64 (min z 16)) w := by
  rcases Int.lt_or_le 16 z with h | h
  · have e : min z 16 = 16 := by omega
    rw [e]
    first | (go_simp; done) | (go_simp; omega)
  · have e : min z 16 = z := by omega
    rw [e]
    first | (go_simp; done) | (go_simp; omega)
set_option maxRecDepth 100000 in
set_option maxHeartbeats 4000000 in
theorem walkMF (z : Int) (A : Option Addr) (L : List Ac) (c : Nat) (W : World) (hlc : L.length ≤ c) (hcm : c ≤ maxLen) (hx : arg_actsR W A L) :
    Calls Try.prog 5 #[.int .i64 z, .slice A L.length c] W fun e W' => e = .returned (.bool true) ∧ Below W.heap.size W W' := by
  have KL : Hid (Calls Try.prog 8 #[.slice A L.length c] W fun e W' => e = .returned (.bool (lightB L)) ∧ W = W') := Lib.hid (by
    rcases rowsB_of hx with rfl | ⟨b, o, rfl, hr⟩
    · exact lightIs0 A c W
    · exact lightIs b o c L W hr hcm hlc)
  have HRW : Hid (∀ (i : Nat) (a : Ac), L[i]? = some a → ∃ rb ro, A = some ⟨rb, ro, none⟩ ∧ RowsB W rb ro L) := Lib.hid fun i a ha => by
    rcases rowsB_of hx with e0 | ⟨b, o, e, hr⟩
    · rw [e0] at ha
      exact absurd ha (by rw [List.getElem?_nil]; exact fun h => nomatch h)
    · exact ⟨b, o, e, hr⟩
  obtain ⟨n, hn⟩ : ∃ q, L.length = q := ⟨_, rfl⟩
  have HN := Lib.hid hn
  have HLC := Lib.hid hlc
  have HCM := Lib.hid hcm
  rw [hn] at KL ⊢
  have hnc : n ≤ c := hn ▸ hlc
  have hnci : (n : Int) ≤ (c : Int) := by omega
  have hcap : n ≤ 9223372036854775807 := by unfold maxLen at hcm; omega
  clear hx hlc hn hcm
  cases hlb : lightB L with
  | false =>
    rw [hlb] at KL
    go_enter Try.func5, Try.ntmps5
    go_wp2_with fail
    refine KL.out.mono ?_
    rintro e w1 ⟨rfl, rfl⟩
    go_wp2_with fail
    refine (knowsA _).mono ?_
    rintro e w2 ⟨rfl, b2⟩
    go_wp2_with fail
    go_ret
    exact ⟨rfl, b2⟩
  | true =>
    rw [hlb] at KL
    obtain ⟨hl100, hval⟩ := lightB_each hlb
    have H100 : Hid (n ≤ 100) := Lib.hid (HN.out ▸ hl100)
    clear hlb hl100 hval
    go_enter Try.func5, Try.ntmps5
    go_wp2_with fail
    refine KL.out.mono ?_
    rintro e w1 ⟨rfl, rfl⟩
    go_wp2_with fail
    refine (knowsA _).mono ?_
    rintro e w1 ⟨rfl, b1⟩
    have B1 := Lib.hid b1
    clear b1 KL
    go_wp2_with fail
    refine (aNew z w1).mono ?_
    rintro e w2 ⟨rfl, P2, b2, hs2⟩
    obtain ⟨b, hb⟩ : ∃ q, w1.heap.size + 2 = q := ⟨_, rfl⟩
    obtain ⟨m, hm⟩ : ∃ q, w1.heap.size = q := ⟨_, rfl⟩
    obtain ⟨k, hk⟩ : ∃ q, w1.heap.size + 1 = q := ⟨_, rfl⟩
    have HB : Hid (w1.heap.size ≤ b ∧ w1.heap.size ≤ m ∧ w1.heap.size ≤ k) := Lib.hid (by omega)
    have P2 : Hid (PT w2 b m k 0 ⟨min (max z 1) 16, [], []⟩) := Lib.hid (by rw [← hb, ← hk, ← hm]; exact P2)
    have B2 := Lib.hid b2
    rw [hb]
    clear hs2 b2 hb hm hk
    obtain ⟨mx, hmx⟩ : ∃ q, max z 1 = q := ⟨_, rfl⟩
    obtain ⟨mo, hmoe⟩ : ∃ q, min mx 16 = q := ⟨_, rfl⟩
    have hm1 := maxRun z
    have hm2 := minRun mx
    rw [hmx] at hm1 P2
    rw [hmoe] at hm2
    rw [hmoe] at P2
    clear hmoe hmx
    go_wp2_with fail
    clear hm1 hm2
    go_loopw [7] (fun iv wr => ∃ (i : Nat) (t : Tt), i ≤ n ∧ iv = .int .i64 i ∧ Hid (PT wr b m k i t) ∧ Hid (FewI t ∧ t.win = mo) ∧ Hid (Below w1.heap.size w1 wr)) (fun iv _ => n - (intOf iv).toNat)
    case atStart => exact ⟨0, _, by omega, rfl, P2, Lib.hid ⟨(fun x h => by cases h), rfl⟩, B2⟩
    case round =>
      obtain ⟨i, t, hi, rfl, PI, HI, BB⟩ := hrel
      obtain ⟨u0, hu0⟩ : ∃ z : World, z = wr := ⟨_, rfl⟩
      subst hu0
      by_cases hin : i < n
      · as_aux_lemma =>
        skip
        obtain ⟨a, ha0⟩ : ∃ a, L[i]? = some a := ⟨_, List.getElem?_eq_getElem (by rw [HN.out]; exact hin)⟩
        obtain ⟨rb, ro, rfl, hrw⟩ := HRW.out i a ha0
        have hr1 : RowsB u0 rb ro L := (hrw.below B1.out).below BB.out
        have hok := (hr1.2 i a ha0).2
        have HROW : Hid (∀ w, KP (fun q => u0.heap.size ≤ q ∨ w1.heap.size ≤ q) u0 w → ∀ j u, (#[.int .i64 a.kd, .int .u8 a.x.n, .int .u16 a.x.l, .int .u32 a.x.s, .int .u8 a.x.d, .int .u8 a.x.a0, .int .u8 a.x.a1, .int .u8 a.x.b0, .int .u8 a.x.b1, .int .u8 a.x.c0, .int .u8 a.x.c1, .int .u8 a.code, .string a.val, .int .u32 a.n] : Array Value)[j]? = some u → w.cell? ⟨rb, ro + i * 14 + j, none⟩ = some u) := Lib.hid fun w hk j u hu => by
          have hlt : rb < w1.heap.size := Nat.lt_of_lt_of_le hrw.1 B1.out.size
          have h1 := (hr1.2 i a ha0).1 j u (by simpa [Ac.cs] using hu)
          have e : w.heap[rb]? = u0.heap[rb]? := hk.block rb hr1.1 (by have := hr1.1; omega)
          exact (World.cell?_of_block (w := u0) (a := ⟨rb, ro + i * 14 + j, none⟩) e).trans h1
        have q0 := HROW.out u0 (KP.refl _ _) 0 (.int .i64 a.kd) rfl; have q1 := HROW.out u0 (KP.refl _ _) 1 (.int .u8 a.x.n) rfl; have q2 := HROW.out u0 (KP.refl _ _) 2 (.int .u16 a.x.l) rfl; have q3 := HROW.out u0 (KP.refl _ _) 3 (.int .u32 a.x.s) rfl; have q4 := HROW.out u0 (KP.refl _ _) 4 (.int .u8 a.x.d) rfl; have q5 := HROW.out u0 (KP.refl _ _) 5 (.int .u8 a.x.a0) rfl; have q6 := HROW.out u0 (KP.refl _ _) 6 (.int .u8 a.x.a1) rfl; have q7 := HROW.out u0 (KP.refl _ _) 7 (.int .u8 a.x.b0) rfl; have q8 := HROW.out u0 (KP.refl _ _) 8 (.int .u8 a.x.b1) rfl; have q9 := HROW.out u0 (KP.refl _ _) 9 (.int .u8 a.x.c0) rfl; have q10 := HROW.out u0 (KP.refl _ _) 10 (.int .u8 a.x.c1) rfl; have q11 := HROW.out u0 (KP.refl _ _) 11 (.int .u8 a.code) rfl; have q12 := HROW.out u0 (KP.refl _ _) 12 (.string a.val) rfl; have q13 := HROW.out u0 (KP.refl _ _) 13 (.int .u32 a.n) rfl
        simp only [Nat.add_zero] at q0
        have KD := doA u0 b m k i t PI.out a hok (by have := H100.out; omega)
        obtain ⟨⟨bo, t2⟩, hact⟩ : ∃ q, t.act a = q := ⟨_, rfl⟩
        rw [hact] at KD
        dsimp only at KD
        have KD : Hid (Calls Try.prog 32 #[.pointer (some ⟨b, 0, none⟩), .agg #[.int .i64 a.kd, .int .u8 a.x.n, .int .u16 a.x.l, .int .u32 a.x.s, .int .u8 a.x.d, .int .u8 a.x.a0, .int .u8 a.x.a1, .int .u8 a.x.b0, .int .u8 a.x.b1, .int .u8 a.x.c0, .int .u8 a.x.c1, .int .u8 a.code, .string a.val, .int .u32 a.n]] u0 fun e W' => e = .returned (.bool bo) ∧ PT W' b m k (i + 1) t2 ∧ KP (fun q => q = m ∨ q = k) u0 W') := Lib.hid KD
        have HACT := Lib.hid hact
        have HIN := Lib.hid hin
        have HOK := Lib.hid hok
        have h1 : (i : Int) < (n : Int) := by omega
        have h3 : (0 : Int) ≤ (i : Int) := by omega
        have HA0 := Lib.hid ha0
        clear hrw hr1 hok hact ha0 hin hi
        go_wp2_with fail
        refine KD.out.mono ?_
        rintro e u1 ⟨rfl, P1, k1⟩
        have hF := FewI.act (a := a) HI.out.1
        rw [HACT.out] at hF
        have HF : Hid (FewI t2 ∧ t2.win = mo) := Lib.hid ⟨hF.1, hF.2.trans HI.out.2⟩
        have BB1 : Hid (Below w1.heap.size w1 u1) := Lib.hid (BB.out.trans (k1.below BB.out.size (fun q e => by have := HB.out; rcases e with rfl | rfl <;> omega)))
        have K1 : Hid (KP (fun q => u0.heap.size ≤ q ∨ w1.heap.size ≤ q) u0 u1) := Lib.hid (k1.mono (fun q e => by have := HB.out; rcases e with rfl | rfl <;> omega))
        have HLL : Hid (t2.L.length ≤ 1000000) := Lib.hid (few_len P1 (by have := H100.out; have := HIN.out; omega))
        have P1 := Lib.hid P1
        clear hF q0 q1 q2 q3 q4 q5 q6 q7 q8 q9 q10 q11 q12 q13 KD
        have q1 := HROW.out u1 K1.out 1 (.int .u8 a.x.n) rfl; have q2 := HROW.out u1 K1.out 2 (.int .u16 a.x.l) rfl; have q3 := HROW.out u1 K1.out 3 (.int .u32 a.x.s) rfl; have q4 := HROW.out u1 K1.out 4 (.int .u8 a.x.d) rfl; have q5 := HROW.out u1 K1.out 5 (.int .u8 a.x.a0) rfl; have q6 := HROW.out u1 K1.out 6 (.int .u8 a.x.a1) rfl; have q7 := HROW.out u1 K1.out 7 (.int .u8 a.x.b0) rfl; have q8 := HROW.out u1 K1.out 8 (.int .u8 a.x.b1) rfl; have q9 := HROW.out u1 K1.out 9 (.int .u8 a.x.c0) rfl; have q10 := HROW.out u1 K1.out 10 (.int .u8 a.x.c1) rfl
        go_wp2_with fail
        refine (toID _ _ _ _ _ _ _ _ _ _ u1).mono ?_
        rintro e u2 ⟨rfl, b2⟩
        obtain ⟨u3, hu3⟩ : ∃ Y, u2.alloc (.cells #[.int .u8 a.x.n, .int .u16 a.x.l, .int .u32 a.x.s, .int .u8 a.x.d, .int .u8 a.x.a0, .int .u8 a.x.a1, .int .u8 a.x.b0, .int .u8 a.x.b1, .int .u8 a.x.c0, .int .u8 a.x.c1] 37) = Y := ⟨_, rfl⟩
        obtain ⟨ka, hka⟩ : ∃ q, u2.heap.size = q := ⟨_, rfl⟩
        have b3 : Below u1.heap.size u1 u3 := by rw [← hu3]; exact b2.alloc b2.size _
        have r3 : u3.heap[ka]? = some (.cells #[.int .u8 a.x.n, .int .u16 a.x.l, .int .u32 a.x.s, .int .u8 a.x.d, .int .u8 a.x.a0, .int .u8 a.x.a1, .int .u8 a.x.b0, .int .u8 a.x.b1, .int .u8 a.x.c0, .int .u8 a.x.c1] 37 (0, 0)) := by rw [← hu3, ← hka]; exact heap_alloc_new _ _
        have P3 := Lib.hid (P1.out.below b3)
        have RK := Lib.hid r3
        have BB3 : Hid (Below w1.heap.size w1 u3) := Lib.hid (BB1.out.trans (b3.mono BB1.out.size))
        have KA := Lib.hid (aAll u3 b m k (i + 1) t2 P3.out HLL.out)
        have HU3 := Lib.hid hu3
        have HKA := Lib.hid hka
        clear b2 b3 r3 hu3 hka q1 q2 q3 q4 q5 q6 q7 q8 q9 q10
        go_wp2_with (first | (rw [HU3.out]; try rw [HKA.out]) | fail)
        try rw [HU3.out]
        refine KA.out.mono ?_
        rintro e u4 ⟨Aa, ca, rfl, hrp, hca, hcam, b4⟩
        have P4 := Lib.hid (P3.out.below b4)
        have RK := Lib.hid ((b4.block _ (bltA RK.out)).trans RK.out)
        have BB4 : Hid (Below w1.heap.size w1 u4) := Lib.hid (BB3.out.trans (b4.mono BB3.out.size))
        have HRP := Lib.hid hrp
        obtain ⟨na, hna⟩ : ∃ q, t2.L.length = q := ⟨_, rfl⟩
        have HNA := Lib.hid hna
        rw [hna] at hca ⊢
        have hcai : (na : Int) ≤ (ca : Int) := by omega
        have hnac : na ≤ 9223372036854775807 := by have := HLL.out; have := HNA.out; omega
        clear hrp b4 hna KA HU3
        go_wp2_with fail
        go_loopw [10, 11] (fun cv kv wx => ∃ j : Nat, j ≤ na ∧ kv = .int .i64 j ∧ cv = .int .i64 ((t2.L.take j).filter (few t2 a.x.n a.x.l)).length ∧ Hid (Below u4.heap.size u4 wx)) (fun _ kv _ => na - (intOf kv).toNat)
        case atStart => exact ⟨0, by omega, rfl, by simp, Lib.hid (Below.refl _ _)⟩
        case round =>
          obtain ⟨j, hj, rfl, rfl, BX⟩ := hrel
          obtain ⟨v0, hv0⟩ : ∃ z : World, z = wr := ⟨_, rfl⟩
          subst hv0
          obtain ⟨cn, hcn⟩ : ∃ q, ((t2.L.take j).filter (few t2 a.x.n a.x.l)).length = q := ⟨_, rfl⟩
          have hcnl : cn ≤ na := by
            have h1 := few_take (t := t2) (n := a.x.n) (l := a.x.l) j
            have h2 := List.length_filter_le (few t2 a.x.n a.x.l) t2.L
            have := HNA.out
            omega
          have HCN := Lib.hid hcn
          rw [hcn]
          clear hcn
          by_cases hjn : j < na
          · as_aux_lemma =>
            skip
            obtain ⟨y, hy⟩ : ∃ y, t2.L[j]? = some y := ⟨_, List.getElem?_eq_getElem (by rw [HNA.out]; exact hjn)⟩
            obtain ⟨g, o, rfl, hg, hrow⟩ := HRP.out (by intro e; rw [e] at hy; cases hy)
            have HG0 := Lib.hid hg
            have hyr := hrow j y hy
            have hym : y ∈ t2.L := List.mem_of_getElem? hy
            have ry := (P4.out.ok.rng y hym).1
            have HY : Hid (∀ w, Below u4.heap.size u4 w → ∀ q, q < 13 → w.cell? ⟨g, o + j * 13 + q, none⟩ = some y.cs.toList[q]!) := Lib.hid fun w hw q hq => (hw.cell (p := ⟨g, o + j * 13 + q, none⟩) hg).trans (hyr q hq)
            have HST := Lib.hid (few_step (n := a.x.n) (l := a.x.l) hy)
            have PV := Lib.hid (P4.out.below BX.out)
            have RKV := Lib.hid ((BX.out.block _ (bltA RK.out)).trans RK.out)
            have HRY := Lib.hid ry
            have h1j : (j : Int) < (na : Int) := by omega
            have h3j : (0 : Int) ≤ (j : Int) := by omega
            have HJN := Lib.hid hjn
            have hcn3 : (cn : Int) < 9223372036854775807 - 1 := by have := HLL.out; have := HNA.out; omega
            have z0 : v0.cell? ⟨g, o + j * 13, none⟩ = some (.int .u8 y.id.n) := (by simpa [Rw.cs] using HY.out v0 BX.out 0 (by decide)); have z1 : v0.cell? ⟨g, o + j * 13 + 1, none⟩ = some (.int .u16 y.id.l) := (by simpa [Rw.cs] using HY.out v0 BX.out 1 (by decide)); have z2 : v0.cell? ⟨g, o + j * 13 + 2, none⟩ = some (.int .u32 y.id.s) := (by simpa [Rw.cs] using HY.out v0 BX.out 2 (by decide)); have z3 : v0.cell? ⟨g, o + j * 13 + 3, none⟩ = some (.int .u8 y.id.d) := (by simpa [Rw.cs] using HY.out v0 BX.out 3 (by decide)); have z4 : v0.cell? ⟨g, o + j * 13 + 4, none⟩ = some (.int .u8 y.id.a0) := (by simpa [Rw.cs] using HY.out v0 BX.out 4 (by decide)); have z5 : v0.cell? ⟨g, o + j * 13 + 5, none⟩ = some (.int .u8 y.id.a1) := (by simpa [Rw.cs] using HY.out v0 BX.out 5 (by decide)); have z6 : v0.cell? ⟨g, o + j * 13 + 6, none⟩ = some (.int .u8 y.id.b0) := (by simpa [Rw.cs] using HY.out v0 BX.out 6 (by decide)); have z7 : v0.cell? ⟨g, o + j * 13 + 7, none⟩ = some (.int .u8 y.id.b1) := (by simpa [Rw.cs] using HY.out v0 BX.out 7 (by decide)); have z8 : v0.cell? ⟨g, o + j * 13 + 8, none⟩ = some (.int .u8 y.id.c0) := (by simpa [Rw.cs] using HY.out v0 BX.out 8 (by decide)); have z9 : v0.cell? ⟨g, o + j * 13 + 9, none⟩ = some (.int .u8 y.id.c1) := (by simpa [Rw.cs] using HY.out v0 BX.out 9 (by decide)); have z10 : v0.cell? ⟨g, o + j * 13 + 10, none⟩ = some (.bool y.en) := (by simpa [Rw.cs] using HY.out v0 BX.out 10 (by decide))
            clear hg hrow hyr hym ry hy hjn hj
            obtain ⟨kw, hkw⟩ : ∃ q, v0.heap.size = q := ⟨_, rfl⟩
            obtain ⟨v1, hv1⟩ : ∃ Y, v0.alloc (.cells #[.int .u8 y.id.n, .int .u16 y.id.l, .int .u32 y.id.s, .int .u8 y.id.d, .int .u8 y.id.a0, .int .u8 y.id.a1, .int .u8 y.id.b0, .int .u8 y.id.b1, .int .u8 y.id.c0, .int .u8 y.id.c1] 37) = Y := ⟨_, rfl⟩
            have b1v : Below v0.heap.size v0 v1 := by rw [← hv1]; exact (Below.refl _ _).alloc (Nat.le_refl _) _
            have BX : Hid (Below u4.heap.size u4 v1) := Lib.hid (BX.out.trans (b1v.mono BX.out.size))
            have PV := Lib.hid (PV.out.below b1v)
            have RW : Hid (v1.heap[kw]? = some (.cells #[.int .u8 y.id.n, .int .u16 y.id.l, .int .u32 y.id.s, .int .u8 y.id.d, .int .u8 y.id.a0, .int .u8 y.id.a1, .int .u8 y.id.b0, .int .u8 y.id.b1, .int .u8 y.id.c0, .int .u8 y.id.c1] 37 (0, 0))) := Lib.hid (by rw [← hv1, ← hkw]; exact heap_alloc_new _ _)
            have RKV := Lib.hid ((b1v.block _ (bltA RKV.out)).trans RKV.out)
            obtain ⟨ye, hye⟩ : ∃ q, y.en = q := ⟨_, rfl⟩
            have HYE := Lib.hid hye
            have ZE : Hid (v1.cell? ⟨g, o + j * 13 + 10, none⟩ = some (.bool ye)) := Lib.hid (by rw [← hye]; simpa [Rw.cs] using HY.out v1 BX.out 10 (by decide))
            have HV1 := Lib.hid hv1
            have HKW := Lib.hid hkw
            clear b1v hv1 hkw hye
            go_wp2_with (first | (rw [HV1.out]; try rw [HKW.out]) | fail)
            try rw [HV1.out]
            refine region_heldT (S := fun X : World => (X.heap[kw]? = some (.cells #[.int .u8 y.id.n, .int .u16 y.id.l, .int .u32 y.id.s, .int .u8 y.id.d, .int .u8 y.id.a0, .int .u8 y.id.a1, .int .u8 y.id.b0, .int .u8 y.id.b1, .int .u8 y.id.c0, .int .u8 y.id.c1] 37 (0, 0)) ∧ X.heap[ka]? = some (.cells #[.int .u8 a.x.n, .int .u16 a.x.l, .int .u32 a.x.s, .int .u8 a.x.d, .int .u8 a.x.a0, .int .u8 a.x.a1, .int .u8 a.x.b0, .int .u8 a.x.b1, .int .u8 a.x.c0, .int .u8 a.x.c1] 37 (0, 0)) ∧ X.cell? ⟨g, o + j * 13 + 10, none⟩ = some (.bool ye))) 25 (by kernel_rfl) (by decide) (fun inv => ?_)
            have HS : (v1.drew.heap[kw]? = some (.cells #[.int .u8 y.id.n, .int .u16 y.id.l, .int .u32 y.id.s, .int .u8 y.id.d, .int .u8 y.id.a0, .int .u8 y.id.a1, .int .u8 y.id.b0, .int .u8 y.id.b1, .int .u8 y.id.c0, .int .u8 y.id.c1] 37 (0, 0)) ∧ v1.drew.heap[ka]? = some (.cells #[.int .u8 a.x.n, .int .u16 a.x.l, .int .u32 a.x.s, .int .u8 a.x.d, .int .u8 a.x.a0, .int .u8 a.x.a1, .int .u8 a.x.b0, .int .u8 a.x.b1, .int .u8 a.x.c0, .int .u8 a.x.c1] 37 (0, 0)) ∧ v1.drew.cell? ⟨g, o + j * 13 + 10, none⟩ = some (.bool ye)) := ⟨RW.out, RKV.out, ZE.out⟩
            have BX : Hid (Below u4.heap.size u4 v1.drew) := Lib.hid BX.out.drew
            have PV := Lib.hid (PV.out.below (Below.refl _ v1).drew)
            have HG : Hid (g < v1.drew.heap.size) := Lib.hid (Nat.lt_of_lt_of_le HG0.out BX.out.size)
            change FirstH _ _ _ _ _ _ _ _ _ _ v1.drew
            generalize v1.drew = wd at *
            clear z0 z1 z2 z3 z4 z5 z6 z7 z8 z9 z10
            by_cases hm : y.id.n = a.x.n ∧ y.id.l = a.x.l
            · have heq := eqProcB y.id.n y.id.l a.x.n a.x.l true (by simpa using hm)
              by_cases hd : y.id.d = 0
              · have hd1 : decide (y.id.d = 0) = true := by simpa using hd
                cases ye
                · have HFW0 : Hid (few t2 a.x.n a.x.l y = decide (floorF t2.F y.id.n y.id.l < y.id.s)) := Lib.hid (by unfold few; rw [HYE.out]; simp [hm, hd])
                  refine FirstH.go (i := 0) (v := .pointer (some ⟨kw, 0, none⟩)) rfl rfl 57 rfl (Op.fieldAddr 37 (Operand.tmp 12) 0) rfl (by kernel_rfl) (fun _ _ _ h => h) inv (fun W hS => by unfold bareO; go_simp) HS (fun inv => ?_)
                  try simp only [Act.put, List.setIfInBounds_toArray, List.set_cons_zero, List.set_cons_succ]
                  refine FirstH.go (i := 1) (v := .agg #[.int .u8 y.id.n, .int .u16 y.id.l]) rfl rfl 58 rfl (Op.load 31 (Operand.tmp 57)) rfl (by kernel_rfl) (fun _ _ _ h => h) inv (fun W hS => by have c0 := cell_of hS.1 0 (.int .u8 y.id.n) rfl; have c1 := cell_of hS.1 1 (.int .u16 y.id.l) rfl; unfold bareO; go_simp) HS (fun inv => ?_)
                  try simp only [Act.put, List.setIfInBounds_toArray, List.set_cons_zero, List.set_cons_succ]
                  refine FirstH.go (i := 2) (v := .pointer (some ⟨ka, 0, none⟩)) rfl rfl 59 rfl (Op.fieldAddr 37 (Operand.tmp 8) 0) rfl (by kernel_rfl) (fun _ _ _ h => h) inv (fun W hS => by unfold bareO; go_simp) HS (fun inv => ?_)
                  try simp only [Act.put, List.setIfInBounds_toArray, List.set_cons_zero, List.set_cons_succ]
                  refine FirstH.go (i := 3) (v := .agg #[.int .u8 a.x.n, .int .u16 a.x.l]) rfl rfl 60 rfl (Op.load 31 (Operand.tmp 59)) rfl (by kernel_rfl) (fun _ _ _ h => h) inv (fun W hS => by have c0 := cell_of hS.2.1 0 (.int .u8 a.x.n) rfl; have c1 := cell_of hS.2.1 1 (.int .u16 a.x.l) rfl; unfold bareO; go_simp) HS (fun inv => ?_)
                  try simp only [Act.put, List.setIfInBounds_toArray, List.set_cons_zero, List.set_cons_succ]
                  refine FirstH.go (i := 4) (v := .bool true) rfl rfl 61 rfl (Op.binOp BinOp.eql 31 (Operand.tmp 58) (Operand.tmp 60) 31) rfl (by kernel_rfl) (fun _ _ _ h => h) inv (fun W hS => by have e := heq W; unfold bareO; go_simp) HS (fun inv => ?_)
                  try simp only [Act.put, List.setIfInBounds_toArray, List.set_cons_zero, List.set_cons_succ]
                  refine FirstH.go (i := 5) (v := .bool true) rfl rfl 62 rfl (Op.move (Operand.tmp 61)) rfl (by kernel_rfl) (fun _ _ _ h => h) inv (fun W hS => by unfold bareO; go_simp) HS (fun inv => ?_)
                  try simp only [Act.put, List.setIfInBounds_toArray, List.set_cons_zero, List.set_cons_succ]
                  refine FirstH.goG (i := 6) (v := .pointer (some ⟨kw, 3, none⟩)) rfl (by rfl) 63 rfl (Op.fieldAddr 37 (Operand.tmp 12) 2) rfl (by kernel_rfl) (fun _ _ _ h => h) inv (fun W hS => by unfold bareO; go_simp) HS (fun inv => ?_)
                  try simp only [Act.put, List.setIfInBounds_toArray, List.set_cons_zero, List.set_cons_succ]
                  refine FirstH.goG (i := 7) (v := .int .u8 y.id.d) rfl (by rfl) 64 rfl (Op.load 5 (Operand.tmp 63)) rfl (by kernel_rfl) (fun _ _ _ h => h) inv (fun W hS => by have c0 := cell_of hS.1 3 (.int .u8 y.id.d) rfl; unfold bareO; go_simp) HS (fun inv => ?_)
                  try simp only [Act.put, List.setIfInBounds_toArray, List.set_cons_zero, List.set_cons_succ]
                  refine FirstH.goG (i := 8) (v := .bool true) rfl (by rfl) 65 rfl (Op.binOp BinOp.eql 5 (Operand.tmp 64) (Operand.const (Value.int IntKind.u8 0)) 5) rfl (by kernel_rfl) (fun _ _ _ h => h) inv (fun W hS => by unfold bareO; go_simp; try exact hd1) HS (fun inv => ?_)
                  try simp only [Act.put, List.setIfInBounds_toArray, List.set_cons_zero, List.set_cons_succ]
                  refine FirstH.go (i := 9) (v := .bool true) rfl rfl 66 rfl (Op.pick (Operand.tmp 62) (Operand.tmp 65) (Operand.const (Value.bool false))) rfl (by kernel_rfl) (fun _ _ _ h => h) inv (fun W hS => by unfold bareO; go_simp) HS (fun inv => ?_)
                  try simp only [Act.put, List.setIfInBounds_toArray, List.set_cons_zero, List.set_cons_succ]
                  refine FirstH.go (i := 10) (v := .bool true) rfl rfl 67 rfl (Op.move (Operand.tmp 66)) rfl (by kernel_rfl) (fun _ _ _ h => h) inv (fun W hS => by unfold bareO; go_simp) HS (fun inv => ?_)
                  try simp only [Act.put, List.setIfInBounds_toArray, List.set_cons_zero, List.set_cons_succ]
                  refine FirstH.goG (i := 11) (v := .slice (some ⟨g, o, none⟩) na ca) rfl (by rfl) 68 rfl (Op.move (Operand.tmp 9)) rfl (by kernel_rfl) (fun _ _ _ h => h) inv (fun W hS => by unfold bareO; go_simp) HS (fun inv => ?_)
                  try simp only [Act.put, List.setIfInBounds_toArray, List.set_cons_zero, List.set_cons_succ]
                  refine FirstH.goG (i := 12) (v := .int .i64 j) rfl (by rfl) 69 rfl (Op.move (Operand.tmp 11)) rfl (by kernel_rfl) (fun _ _ _ h => h) inv (fun W hS => by unfold bareO; go_simp) HS (fun inv => ?_)
                  try simp only [Act.put, List.setIfInBounds_toArray, List.set_cons_zero, List.set_cons_succ]
                  refine FirstH.goG (i := 13) (v := .pointer (some ⟨g, (o + j * 13), none⟩)) rfl (by rfl) 70 rfl (Op.indexAddr 73 (Operand.tmp 68) (Operand.tmp 69)) rfl (by kernel_rfl) (fun _ _ _ h => h) inv (fun W hS => by unfold bareO; go_simp) HS (fun inv => ?_)
                  try simp only [Act.put, List.setIfInBounds_toArray, List.set_cons_zero, List.set_cons_succ]
                  refine FirstH.goG (i := 14) (v := .pointer (some ⟨g, (o + j * 13 + 10), none⟩)) rfl (by rfl) 71 rfl (Op.fieldAddr 79 (Operand.tmp 70) 1) rfl (by kernel_rfl) (fun _ _ _ h => h) inv (fun W hS => by unfold bareO; go_simp) HS (fun inv => ?_)
                  try simp only [Act.put, List.setIfInBounds_toArray, List.set_cons_zero, List.set_cons_succ]
                  refine FirstH.goG (i := 15) (v := .bool false) rfl (by rfl) 72 rfl (Op.load 4 (Operand.tmp 71)) rfl (by kernel_rfl) (fun _ _ _ h => h) inv (fun W hS => by have c0 := hS.2.2; unfold bareO; go_simp) HS (fun inv => ?_)
                  try simp only [Act.put, List.setIfInBounds_toArray, List.set_cons_zero, List.set_cons_succ]
                  refine FirstH.goG (i := 16) (v := .bool false) rfl (by rfl) 73 rfl (Op.move (Operand.tmp 72)) rfl (by kernel_rfl) (fun _ _ _ h => h) inv (fun W hS => by unfold bareO; go_simp) HS (fun inv => ?_)
                  try simp only [Act.put, List.setIfInBounds_toArray, List.set_cons_zero, List.set_cons_succ]
                  refine FirstH.goG (i := 17) (v := .pointer (some ⟨kw, 2, none⟩)) rfl (by rfl) 74 rfl (Op.fieldAddr 37 (Operand.tmp 12) 1) rfl (by kernel_rfl) (fun _ _ _ h => h) inv (fun W hS => by unfold bareO; go_simp) HS (fun inv => ?_)
                  try simp only [Act.put, List.setIfInBounds_toArray, List.set_cons_zero, List.set_cons_succ]
                  refine FirstH.goG (i := 18) (v := .int .u32 y.id.s) rfl (by rfl) 75 rfl (Op.load 32 (Operand.tmp 74)) rfl (by kernel_rfl) (fun _ _ _ h => h) inv (fun W hS => by have c0 := cell_of hS.1 2 (.int .u32 y.id.s) rfl; unfold bareO; go_simp) HS (fun inv => ?_)
                  try simp only [Act.put, List.setIfInBounds_toArray, List.set_cons_zero, List.set_cons_succ]
                  refine FirstH.goG (i := 19) (v := .pointer (some ⟨b, 0, none⟩)) rfl (by rfl) 76 rfl (Op.move (Operand.tmp 5)) rfl (by kernel_rfl) (fun _ _ _ h => h) inv (fun W hS => by unfold bareO; go_simp) HS (fun inv => ?_)
                  try simp only [Act.put, List.setIfInBounds_toArray, List.set_cons_zero, List.set_cons_succ]
                  refine FirstH.goG (i := 20) (v := .pointer (some ⟨kw, 0, none⟩)) rfl (by rfl) 77 rfl (Op.fieldAddr 37 (Operand.tmp 12) 0) rfl (by kernel_rfl) (fun _ _ _ h => h) inv (fun W hS => by unfold bareO; go_simp) HS (fun inv => ?_)
                  try simp only [Act.put, List.setIfInBounds_toArray, List.set_cons_zero, List.set_cons_succ]
                  refine FirstH.goG (i := 21) (v := .agg #[.int .u8 y.id.n, .int .u16 y.id.l]) rfl (by rfl) 78 rfl (Op.load 31 (Operand.tmp 77)) rfl (by kernel_rfl) (fun _ _ _ h => h) inv (fun W hS => by have c0 := cell_of hS.1 0 (.int .u8 y.id.n) rfl; have c1 := cell_of hS.1 1 (.int .u16 y.id.l) rfl; unfold bareO; go_simp) HS (fun inv => ?_)
                  try simp only [Act.put, List.setIfInBounds_toArray, List.set_cons_zero, List.set_cons_succ]
                  refine FirstH.only (i := 22) (by kernel_rfl) (by decide) inv (fun inv => wpOp_callG (i := 22) rfl (by rfl) 79 rfl (Op.call { callee := Callee.value (.func 27), args := #[Operand.tmp 76, Operand.tmp 78], argTypes := #[25, 31] }) rfl 27 #[.pointer (some ⟨b, 0, none⟩), .agg #[.int .u8 y.id.n, .int .u16 y.id.l]] (by unfold bareO; go_simp) (aFloor wd b m k (i + 1) t2 PV.out y.id.n y.id.l HRY.out.n HRY.out.l) ?_)
                  rintro e v5 ⟨rfl, b5⟩
                  have HS : (v5.heap[kw]? = some (.cells #[.int .u8 y.id.n, .int .u16 y.id.l, .int .u32 y.id.s, .int .u8 y.id.d, .int .u8 y.id.a0, .int .u8 y.id.a1, .int .u8 y.id.b0, .int .u8 y.id.b1, .int .u8 y.id.c0, .int .u8 y.id.c1] 37 (0, 0)) ∧ v5.heap[ka]? = some (.cells #[.int .u8 a.x.n, .int .u16 a.x.l, .int .u32 a.x.s, .int .u8 a.x.d, .int .u8 a.x.a0, .int .u8 a.x.a1, .int .u8 a.x.b0, .int .u8 a.x.b1, .int .u8 a.x.c0, .int .u8 a.x.c1] 37 (0, 0)) ∧ v5.cell? ⟨g, o + j * 13 + 10, none⟩ = some (.bool false)) := ⟨(b5.block _ (bltA HS.1)).trans HS.1, (b5.block _ (bltA HS.2.1)).trans HS.2.1, (b5.cell (p := ⟨g, o + j * 13 + 10, none⟩) HG.out).trans HS.2.2⟩
                  have BX : Hid (Below u4.heap.size u4 v5) := Lib.hid (BX.out.trans (b5.mono BX.out.size))
                  clear b5
                  refine ⟨_, rfl, HS, ?_⟩
                  try simp only [Act.put, List.setIfInBounds_toArray, List.set_cons_zero, List.set_cons_succ]
                  refine FirstH.goG (i := 23) (v := .bool (decide (floorF t2.F y.id.n y.id.l < y.id.s))) rfl (by rfl) 80 rfl (Op.binOp BinOp.gtr 32 (Operand.tmp 75) (Operand.tmp 79) 32) rfl (by kernel_rfl) (fun _ _ _ h => h) inv (fun W hS => by unfold bareO; go_simp) HS (fun inv => ?_)
                  try simp only [Act.put, List.setIfInBounds_toArray, List.set_cons_zero, List.set_cons_succ]
                  refine FirstH.goG (i := 24) (v := .bool (decide (floorF t2.F y.id.n y.id.l < y.id.s))) rfl (by rfl) 81 rfl (Op.pick (Operand.tmp 73) (Operand.const (Value.bool true)) (Operand.tmp 80)) rfl (by kernel_rfl) (fun _ _ _ h => h) inv (fun W hS => by unfold bareO; go_simp) HS (fun inv => ?_)
                  try simp only [Act.put, List.setIfInBounds_toArray, List.set_cons_zero, List.set_cons_succ]
                  refine ⟨by kernel_rfl, ?_⟩
                  simp only [List.drop_succ_cons, List.drop_zero]
                  clear inv heq hd1
                  obtain ⟨fw, hfw⟩ : ∃ q, decide (floorF t2.F y.id.n y.id.l < y.id.s) = q := ⟨_, rfl⟩
                  have HFW : Hid (few t2 a.x.n a.x.l y = fw) := Lib.hid (HFW0.out.trans hfw)
                  rw [hfw]
                  clear hfw HFW0
                  cases fw
                  · have hst : ((t2.L.take (j + 1)).filter (few t2 a.x.n a.x.l)).length = cn := by rw [HST.out, HCN.out, HFW.out]; rfl
                    have HST2 := Lib.hid hst
                    clear hst
                    go_wp2_with fail
                    go_roundw
                    case rel => exact ⟨j + 1, by have := HJN.out; omega, by go_num, by rw [HST2.out], BX⟩
                    case measure => have := HJN.out; simp [intOf]; omega
                  · have hst : ((t2.L.take (j + 1)).filter (few t2 a.x.n a.x.l)).length = cn + 1 := by rw [HST.out, HCN.out, HFW.out]; rfl
                    have HST2 := Lib.hid hst
                    clear hst
                    go_wp2_with fail
                    go_roundw
                    case rel => exact ⟨j + 1, by have := HJN.out; omega, by go_num, by rw [HST2.out]; go_num, BX⟩
                    case measure => have := HJN.out; simp [intOf]; omega
                · have HFW : Hid (few t2 a.x.n a.x.l y = true) := Lib.hid (by unfold few; rw [HYE.out]; simp [hm, hd])
                  refine FirstH.go (i := 0) (v := .pointer (some ⟨kw, 0, none⟩)) rfl rfl 57 rfl (Op.fieldAddr 37 (Operand.tmp 12) 0) rfl (by kernel_rfl) (fun _ _ _ h => h) inv (fun W hS => by unfold bareO; go_simp) HS (fun inv => ?_)
                  try simp only [Act.put, List.setIfInBounds_toArray, List.set_cons_zero, List.set_cons_succ]
                  refine FirstH.go (i := 1) (v := .agg #[.int .u8 y.id.n, .int .u16 y.id.l]) rfl rfl 58 rfl (Op.load 31 (Operand.tmp 57)) rfl (by kernel_rfl) (fun _ _ _ h => h) inv (fun W hS => by have c0 := cell_of hS.1 0 (.int .u8 y.id.n) rfl; have c1 := cell_of hS.1 1 (.int .u16 y.id.l) rfl; unfold bareO; go_simp) HS (fun inv => ?_)
                  try simp only [Act.put, List.setIfInBounds_toArray, List.set_cons_zero, List.set_cons_succ]
                  refine FirstH.go (i := 2) (v := .pointer (some ⟨ka, 0, none⟩)) rfl rfl 59 rfl (Op.fieldAddr 37 (Operand.tmp 8) 0) rfl (by kernel_rfl) (fun _ _ _ h => h) inv (fun W hS => by unfold bareO; go_simp) HS (fun inv => ?_)
                  try simp only [Act.put, List.setIfInBounds_toArray, List.set_cons_zero, List.set_cons_succ]
                  refine FirstH.go (i := 3) (v := .agg #[.int .u8 a.x.n, .int .u16 a.x.l]) rfl rfl 60 rfl (Op.load 31 (Operand.tmp 59)) rfl (by kernel_rfl) (fun _ _ _ h => h) inv (fun W hS => by have c0 := cell_of hS.2.1 0 (.int .u8 a.x.n) rfl; have c1 := cell_of hS.2.1 1 (.int .u16 a.x.l) rfl; unfold bareO; go_simp) HS (fun inv => ?_)
                  try simp only [Act.put, List.setIfInBounds_toArray, List.set_cons_zero, List.set_cons_succ]
                  refine FirstH.go (i := 4) (v := .bool true) rfl rfl 61 rfl (Op.binOp BinOp.eql 31 (Operand.tmp 58) (Operand.tmp 60) 31) rfl (by kernel_rfl) (fun _ _ _ h => h) inv (fun W hS => by have e := heq W; unfold bareO; go_simp) HS (fun inv => ?_)
                  try simp only [Act.put, List.setIfInBounds_toArray, List.set_cons_zero, List.set_cons_succ]
                  refine FirstH.go (i := 5) (v := .bool true) rfl rfl 62 rfl (Op.move (Operand.tmp 61)) rfl (by kernel_rfl) (fun _ _ _ h => h) inv (fun W hS => by unfold bareO; go_simp) HS (fun inv => ?_)
                  try simp only [Act.put, List.setIfInBounds_toArray, List.set_cons_zero, List.set_cons_succ]
                  refine FirstH.goG (i := 6) (v := .pointer (some ⟨kw, 3, none⟩)) rfl (by rfl) 63 rfl (Op.fieldAddr 37 (Operand.tmp 12) 2) rfl (by kernel_rfl) (fun _ _ _ h => h) inv (fun W hS => by unfold bareO; go_simp) HS (fun inv => ?_)
                  try simp only [Act.put, List.setIfInBounds_toArray, List.set_cons_zero, List.set_cons_succ]
                  refine FirstH.goG (i := 7) (v := .int .u8 y.id.d) rfl (by rfl) 64 rfl (Op.load 5 (Operand.tmp 63)) rfl (by kernel_rfl) (fun _ _ _ h => h) inv (fun W hS => by have c0 := cell_of hS.1 3 (.int .u8 y.id.d) rfl; unfold bareO; go_simp) HS (fun inv => ?_)
                  try simp only [Act.put, List.setIfInBounds_toArray, List.set_cons_zero, List.set_cons_succ]
                  refine FirstH.goG (i := 8) (v := .bool true) rfl (by rfl) 65 rfl (Op.binOp BinOp.eql 5 (Operand.tmp 64) (Operand.const (Value.int IntKind.u8 0)) 5) rfl (by kernel_rfl) (fun _ _ _ h => h) inv (fun W hS => by unfold bareO; go_simp; try exact hd1) HS (fun inv => ?_)
                  try simp only [Act.put, List.setIfInBounds_toArray, List.set_cons_zero, List.set_cons_succ]
                  refine FirstH.go (i := 9) (v := .bool true) rfl rfl 66 rfl (Op.pick (Operand.tmp 62) (Operand.tmp 65) (Operand.const (Value.bool false))) rfl (by kernel_rfl) (fun _ _ _ h => h) inv (fun W hS => by unfold bareO; go_simp) HS (fun inv => ?_)
                  try simp only [Act.put, List.setIfInBounds_toArray, List.set_cons_zero, List.set_cons_succ]
                  refine FirstH.go (i := 10) (v := .bool true) rfl rfl 67 rfl (Op.move (Operand.tmp 66)) rfl (by kernel_rfl) (fun _ _ _ h => h) inv (fun W hS => by unfold bareO; go_simp) HS (fun inv => ?_)
                  try simp only [Act.put, List.setIfInBounds_toArray, List.set_cons_zero, List.set_cons_succ]
                  refine FirstH.goG (i := 11) (v := .slice (some ⟨g, o, none⟩) na ca) rfl (by rfl) 68 rfl (Op.move (Operand.tmp 9)) rfl (by kernel_rfl) (fun _ _ _ h => h) inv (fun W hS => by unfold bareO; go_simp) HS (fun inv => ?_)
                  try simp only [Act.put, List.setIfInBounds_toArray, List.set_cons_zero, List.set_cons_succ]
                  refine FirstH.goG (i := 12) (v := .int .i64 j) rfl (by rfl) 69 rfl (Op.move (Operand.tmp 11)) rfl (by kernel_rfl) (fun _ _ _ h => h) inv (fun W hS => by unfold bareO; go_simp) HS (fun inv => ?_)
                  try simp only [Act.put, List.setIfInBounds_toArray, List.set_cons_zero, List.set_cons_succ]
                  refine FirstH.goG (i := 13) (v := .pointer (some ⟨g, (o + j * 13), none⟩)) rfl (by rfl) 70 rfl (Op.indexAddr 73 (Operand.tmp 68) (Operand.tmp 69)) rfl (by kernel_rfl) (fun _ _ _ h => h) inv (fun W hS => by unfold bareO; go_simp) HS (fun inv => ?_)
                  try simp only [Act.put, List.setIfInBounds_toArray, List.set_cons_zero, List.set_cons_succ]
                  refine FirstH.goG (i := 14) (v := .pointer (some ⟨g, (o + j * 13 + 10), none⟩)) rfl (by rfl) 71 rfl (Op.fieldAddr 79 (Operand.tmp 70) 1) rfl (by kernel_rfl) (fun _ _ _ h => h) inv (fun W hS => by unfold bareO; go_simp) HS (fun inv => ?_)
                  try simp only [Act.put, List.setIfInBounds_toArray, List.set_cons_zero, List.set_cons_succ]
                  refine FirstH.goG (i := 15) (v := .bool true) rfl (by rfl) 72 rfl (Op.load 4 (Operand.tmp 71)) rfl (by kernel_rfl) (fun _ _ _ h => h) inv (fun W hS => by have c0 := hS.2.2; unfold bareO; go_simp) HS (fun inv => ?_)
                  try simp only [Act.put, List.setIfInBounds_toArray, List.set_cons_zero, List.set_cons_succ]
                  refine FirstH.goG (i := 16) (v := .bool true) rfl (by rfl) 73 rfl (Op.move (Operand.tmp 72)) rfl (by kernel_rfl) (fun _ _ _ h => h) inv (fun W hS => by unfold bareO; go_simp) HS (fun inv => ?_)
                  try simp only [Act.put, List.setIfInBounds_toArray, List.set_cons_zero, List.set_cons_succ]
                  refine FirstH.goS (i := 17) rfl (by rfl) 74 rfl (by kernel_rfl) (fun _ _ _ h => h) inv HS (fun inv => ?_)
                  try simp only [Act.put, List.setIfInBounds_toArray, List.set_cons_zero, List.set_cons_succ]
                  refine FirstH.goS (i := 18) rfl (by rfl) 75 rfl (by kernel_rfl) (fun _ _ _ h => h) inv HS (fun inv => ?_)
                  try simp only [Act.put, List.setIfInBounds_toArray, List.set_cons_zero, List.set_cons_succ]
                  refine FirstH.goS (i := 19) rfl (by rfl) 76 rfl (by kernel_rfl) (fun _ _ _ h => h) inv HS (fun inv => ?_)
                  try simp only [Act.put, List.setIfInBounds_toArray, List.set_cons_zero, List.set_cons_succ]
                  refine FirstH.goS (i := 20) rfl (by rfl) 77 rfl (by kernel_rfl) (fun _ _ _ h => h) inv HS (fun inv => ?_)
                  try simp only [Act.put, List.setIfInBounds_toArray, List.set_cons_zero, List.set_cons_succ]
                  refine FirstH.goS (i := 21) rfl (by rfl) 78 rfl (by kernel_rfl) (fun _ _ _ h => h) inv HS (fun inv => ?_)
                  try simp only [Act.put, List.setIfInBounds_toArray, List.set_cons_zero, List.set_cons_succ]
                  refine FirstH.goS (i := 22) rfl (by rfl) 79 rfl (by kernel_rfl) (fun _ _ _ h => h) inv HS (fun inv => ?_)
                  try simp only [Act.put, List.setIfInBounds_toArray, List.set_cons_zero, List.set_cons_succ]
                  refine FirstH.goS (i := 23) rfl (by rfl) 80 rfl (by kernel_rfl) (fun _ _ _ h => h) inv HS (fun inv => ?_)
                  try simp only [Act.put, List.setIfInBounds_toArray, List.set_cons_zero, List.set_cons_succ]
                  refine FirstH.goG (i := 24) (v := .bool true) rfl (by rfl) 81 rfl (Op.pick (Operand.tmp 73) (Operand.const (Value.bool true)) (Operand.tmp 80)) rfl (by kernel_rfl) (fun _ _ _ h => h) inv (fun W hS => by unfold bareO; go_simp) HS (fun inv => ?_)
                  try simp only [Act.put, List.setIfInBounds_toArray, List.set_cons_zero, List.set_cons_succ]
                  refine ⟨by kernel_rfl, ?_⟩
                  simp only [List.drop_succ_cons, List.drop_zero]
                  clear inv
                  have hfw : few t2 a.x.n a.x.l y = true := HFW.out
                  have hst : ((t2.L.take (j + 1)).filter (few t2 a.x.n a.x.l)).length = cn + 1 := by rw [HST.out, HCN.out, hfw]; rfl
                  have HST2 := Lib.hid hst
                  clear hst hfw
                  go_wp2_with fail
                  go_roundw
                  case rel => exact ⟨j + 1, by have := HJN.out; omega, by go_num, by rw [HST2.out]; go_num, BX⟩
                  case measure => have := HJN.out; simp [intOf]; omega
              · have hd1 : decide (y.id.d = 0) = false := by simpa using hd
                have HFW : Hid (few t2 a.x.n a.x.l y = false) := Lib.hid (by unfold few; simp [hd])
                refine FirstH.go (i := 0) (v := .pointer (some ⟨kw, 0, none⟩)) rfl rfl 57 rfl (Op.fieldAddr 37 (Operand.tmp 12) 0) rfl (by kernel_rfl) (fun _ _ _ h => h) inv (fun W hS => by unfold bareO; go_simp) HS (fun inv => ?_)
                try simp only [Act.put, List.setIfInBounds_toArray, List.set_cons_zero, List.set_cons_succ]
                refine FirstH.go (i := 1) (v := .agg #[.int .u8 y.id.n, .int .u16 y.id.l]) rfl rfl 58 rfl (Op.load 31 (Operand.tmp 57)) rfl (by kernel_rfl) (fun _ _ _ h => h) inv (fun W hS => by have c0 := cell_of hS.1 0 (.int .u8 y.id.n) rfl; have c1 := cell_of hS.1 1 (.int .u16 y.id.l) rfl; unfold bareO; go_simp) HS (fun inv => ?_)
                try simp only [Act.put, List.setIfInBounds_toArray, List.set_cons_zero, List.set_cons_succ]
                refine FirstH.go (i := 2) (v := .pointer (some ⟨ka, 0, none⟩)) rfl rfl 59 rfl (Op.fieldAddr 37 (Operand.tmp 8) 0) rfl (by kernel_rfl) (fun _ _ _ h => h) inv (fun W hS => by unfold bareO; go_simp) HS (fun inv => ?_)
                try simp only [Act.put, List.setIfInBounds_toArray, List.set_cons_zero, List.set_cons_succ]
                refine FirstH.go (i := 3) (v := .agg #[.int .u8 a.x.n, .int .u16 a.x.l]) rfl rfl 60 rfl (Op.load 31 (Operand.tmp 59)) rfl (by kernel_rfl) (fun _ _ _ h => h) inv (fun W hS => by have c0 := cell_of hS.2.1 0 (.int .u8 a.x.n) rfl; have c1 := cell_of hS.2.1 1 (.int .u16 a.x.l) rfl; unfold bareO; go_simp) HS (fun inv => ?_)
                try simp only [Act.put, List.setIfInBounds_toArray, List.set_cons_zero, List.set_cons_succ]
                refine FirstH.go (i := 4) (v := .bool true) rfl rfl 61 rfl (Op.binOp BinOp.eql 31 (Operand.tmp 58) (Operand.tmp 60) 31) rfl (by kernel_rfl) (fun _ _ _ h => h) inv (fun W hS => by have e := heq W; unfold bareO; go_simp) HS (fun inv => ?_)
                try simp only [Act.put, List.setIfInBounds_toArray, List.set_cons_zero, List.set_cons_succ]
                refine FirstH.go (i := 5) (v := .bool true) rfl rfl 62 rfl (Op.move (Operand.tmp 61)) rfl (by kernel_rfl) (fun _ _ _ h => h) inv (fun W hS => by unfold bareO; go_simp) HS (fun inv => ?_)
                try simp only [Act.put, List.setIfInBounds_toArray, List.set_cons_zero, List.set_cons_succ]
                refine FirstH.goG (i := 6) (v := .pointer (some ⟨kw, 3, none⟩)) rfl (by rfl) 63 rfl (Op.fieldAddr 37 (Operand.tmp 12) 2) rfl (by kernel_rfl) (fun _ _ _ h => h) inv (fun W hS => by unfold bareO; go_simp) HS (fun inv => ?_)
                try simp only [Act.put, List.setIfInBounds_toArray, List.set_cons_zero, List.set_cons_succ]
                refine FirstH.goG (i := 7) (v := .int .u8 y.id.d) rfl (by rfl) 64 rfl (Op.load 5 (Operand.tmp 63)) rfl (by kernel_rfl) (fun _ _ _ h => h) inv (fun W hS => by have c0 := cell_of hS.1 3 (.int .u8 y.id.d) rfl; unfold bareO; go_simp) HS (fun inv => ?_)
                try simp only [Act.put, List.setIfInBounds_toArray, List.set_cons_zero, List.set_cons_succ]
                refine FirstH.goG (i := 8) (v := .bool false) rfl (by rfl) 65 rfl (Op.binOp BinOp.eql 5 (Operand.tmp 64) (Operand.const (Value.int IntKind.u8 0)) 5) rfl (by kernel_rfl) (fun _ _ _ h => h) inv (fun W hS => by unfold bareO; go_simp; try exact hd1) HS (fun inv => ?_)
                try simp only [Act.put, List.setIfInBounds_toArray, List.set_cons_zero, List.set_cons_succ]
                refine FirstH.go (i := 9) (v := .bool false) rfl rfl 66 rfl (Op.pick (Operand.tmp 62) (Operand.tmp 65) (Operand.const (Value.bool false))) rfl (by kernel_rfl) (fun _ _ _ h => h) inv (fun W hS => by unfold bareO; go_simp) HS (fun inv => ?_)
                try simp only [Act.put, List.setIfInBounds_toArray, List.set_cons_zero, List.set_cons_succ]
                refine FirstH.go (i := 10) (v := .bool false) rfl rfl 67 rfl (Op.move (Operand.tmp 66)) rfl (by kernel_rfl) (fun _ _ _ h => h) inv (fun W hS => by unfold bareO; go_simp) HS (fun inv => ?_)
                try simp only [Act.put, List.setIfInBounds_toArray, List.set_cons_zero, List.set_cons_succ]
                refine FirstH.goS (i := 11) rfl (by rfl) 68 rfl (by kernel_rfl) (fun _ _ _ h => h) inv HS (fun inv => ?_)
                try simp only [Act.put, List.setIfInBounds_toArray, List.set_cons_zero, List.set_cons_succ]
                refine FirstH.goS (i := 12) rfl (by rfl) 69 rfl (by kernel_rfl) (fun _ _ _ h => h) inv HS (fun inv => ?_)
                try simp only [Act.put, List.setIfInBounds_toArray, List.set_cons_zero, List.set_cons_succ]
                refine FirstH.goS (i := 13) rfl (by rfl) 70 rfl (by kernel_rfl) (fun _ _ _ h => h) inv HS (fun inv => ?_)
                try simp only [Act.put, List.setIfInBounds_toArray, List.set_cons_zero, List.set_cons_succ]
                refine FirstH.goS (i := 14) rfl (by rfl) 71 rfl (by kernel_rfl) (fun _ _ _ h => h) inv HS (fun inv => ?_)
                try simp only [Act.put, List.setIfInBounds_toArray, List.set_cons_zero, List.set_cons_succ]
                refine FirstH.goS (i := 15) rfl (by rfl) 72 rfl (by kernel_rfl) (fun _ _ _ h => h) inv HS (fun inv => ?_)
                try simp only [Act.put, List.setIfInBounds_toArray, List.set_cons_zero, List.set_cons_succ]
                refine FirstH.goS (i := 16) rfl (by rfl) 73 rfl (by kernel_rfl) (fun _ _ _ h => h) inv HS (fun inv => ?_)
                try simp only [Act.put, List.setIfInBounds_toArray, List.set_cons_zero, List.set_cons_succ]
                refine FirstH.goS (i := 17) rfl (by rfl) 74 rfl (by kernel_rfl) (fun _ _ _ h => h) inv HS (fun inv => ?_)
                try simp only [Act.put, List.setIfInBounds_toArray, List.set_cons_zero, List.set_cons_succ]
                refine FirstH.goS (i := 18) rfl (by rfl) 75 rfl (by kernel_rfl) (fun _ _ _ h => h) inv HS (fun inv => ?_)
                try simp only [Act.put, List.setIfInBounds_toArray, List.set_cons_zero, List.set_cons_succ]
                refine FirstH.goS (i := 19) rfl (by rfl) 76 rfl (by kernel_rfl) (fun _ _ _ h => h) inv HS (fun inv => ?_)
                try simp only [Act.put, List.setIfInBounds_toArray, List.set_cons_zero, List.set_cons_succ]
                refine FirstH.goS (i := 20) rfl (by rfl) 77 rfl (by kernel_rfl) (fun _ _ _ h => h) inv HS (fun inv => ?_)
                try simp only [Act.put, List.setIfInBounds_toArray, List.set_cons_zero, List.set_cons_succ]
                refine FirstH.goS (i := 21) rfl (by rfl) 78 rfl (by kernel_rfl) (fun _ _ _ h => h) inv HS (fun inv => ?_)
                try simp only [Act.put, List.setIfInBounds_toArray, List.set_cons_zero, List.set_cons_succ]
                refine FirstH.goS (i := 22) rfl (by rfl) 79 rfl (by kernel_rfl) (fun _ _ _ h => h) inv HS (fun inv => ?_)
                try simp only [Act.put, List.setIfInBounds_toArray, List.set_cons_zero, List.set_cons_succ]
                refine FirstH.goS (i := 23) rfl (by rfl) 80 rfl (by kernel_rfl) (fun _ _ _ h => h) inv HS (fun inv => ?_)
                try simp only [Act.put, List.setIfInBounds_toArray, List.set_cons_zero, List.set_cons_succ]
                refine FirstH.goS (i := 24) rfl (by rfl) 81 rfl (by kernel_rfl) (fun _ _ _ h => h) inv HS (fun inv => ?_)
                try simp only [Act.put, List.setIfInBounds_toArray, List.set_cons_zero, List.set_cons_succ]
                refine ⟨by kernel_rfl, ?_⟩
                simp only [List.drop_succ_cons, List.drop_zero]
                clear inv
                have hfw : few t2 a.x.n a.x.l y = false := HFW.out
                have hst : ((t2.L.take (j + 1)).filter (few t2 a.x.n a.x.l)).length = cn := by rw [HST.out, HCN.out, hfw]; rfl
                have HST2 := Lib.hid hst
                clear hst hfw
                go_wp2_with fail
                go_roundw
                case rel => exact ⟨j + 1, by have := HJN.out; omega, by go_num, by rw [HST2.out], BX⟩
                case measure => have := HJN.out; simp [intOf]; omega
            · have heq := eqProcB y.id.n y.id.l a.x.n a.x.l false (by simpa using hm)
              have HFW : Hid (few t2 a.x.n a.x.l y = false) := Lib.hid (by unfold few; simp [hm])
              refine FirstH.go (i := 0) (v := .pointer (some ⟨kw, 0, none⟩)) rfl rfl 57 rfl (Op.fieldAddr 37 (Operand.tmp 12) 0) rfl (by kernel_rfl) (fun _ _ _ h => h) inv (fun W hS => by unfold bareO; go_simp) HS (fun inv => ?_)
              try simp only [Act.put, List.setIfInBounds_toArray, List.set_cons_zero, List.set_cons_succ]
              refine FirstH.go (i := 1) (v := .agg #[.int .u8 y.id.n, .int .u16 y.id.l]) rfl rfl 58 rfl (Op.load 31 (Operand.tmp 57)) rfl (by kernel_rfl) (fun _ _ _ h => h) inv (fun W hS => by have c0 := cell_of hS.1 0 (.int .u8 y.id.n) rfl; have c1 := cell_of hS.1 1 (.int .u16 y.id.l) rfl; unfold bareO; go_simp) HS (fun inv => ?_)
              try simp only [Act.put, List.setIfInBounds_toArray, List.set_cons_zero, List.set_cons_succ]
              refine FirstH.go (i := 2) (v := .pointer (some ⟨ka, 0, none⟩)) rfl rfl 59 rfl (Op.fieldAddr 37 (Operand.tmp 8) 0) rfl (by kernel_rfl) (fun _ _ _ h => h) inv (fun W hS => by unfold bareO; go_simp) HS (fun inv => ?_)
              try simp only [Act.put, List.setIfInBounds_toArray, List.set_cons_zero, List.set_cons_succ]
              refine FirstH.go (i := 3) (v := .agg #[.int .u8 a.x.n, .int .u16 a.x.l]) rfl rfl 60 rfl (Op.load 31 (Operand.tmp 59)) rfl (by kernel_rfl) (fun _ _ _ h => h) inv (fun W hS => by have c0 := cell_of hS.2.1 0 (.int .u8 a.x.n) rfl; have c1 := cell_of hS.2.1 1 (.int .u16 a.x.l) rfl; unfold bareO; go_simp) HS (fun inv => ?_)
              try simp only [Act.put, List.setIfInBounds_toArray, List.set_cons_zero, List.set_cons_succ]
              refine FirstH.go (i := 4) (v := .bool false) rfl rfl 61 rfl (Op.binOp BinOp.eql 31 (Operand.tmp 58) (Operand.tmp 60) 31) rfl (by kernel_rfl) (fun _ _ _ h => h) inv (fun W hS => by have e := heq W; unfold bareO; go_simp) HS (fun inv => ?_)
              try simp only [Act.put, List.setIfInBounds_toArray, List.set_cons_zero, List.set_cons_succ]
              refine FirstH.go (i := 5) (v := .bool false) rfl rfl 62 rfl (Op.move (Operand.tmp 61)) rfl (by kernel_rfl) (fun _ _ _ h => h) inv (fun W hS => by unfold bareO; go_simp) HS (fun inv => ?_)
              try simp only [Act.put, List.setIfInBounds_toArray, List.set_cons_zero, List.set_cons_succ]
              refine FirstH.goS (i := 6) rfl (by rfl) 63 rfl (by kernel_rfl) (fun _ _ _ h => h) inv HS (fun inv => ?_)
              try simp only [Act.put, List.setIfInBounds_toArray, List.set_cons_zero, List.set_cons_succ]
              refine FirstH.goS (i := 7) rfl (by rfl) 64 rfl (by kernel_rfl) (fun _ _ _ h => h) inv HS (fun inv => ?_)
              try simp only [Act.put, List.setIfInBounds_toArray, List.set_cons_zero, List.set_cons_succ]
              refine FirstH.goS (i := 8) rfl (by rfl) 65 rfl (by kernel_rfl) (fun _ _ _ h => h) inv HS (fun inv => ?_)
              try simp only [Act.put, List.setIfInBounds_toArray, List.set_cons_zero, List.set_cons_succ]
              refine FirstH.go (i := 9) (v := .bool false) rfl rfl 66 rfl (Op.pick (Operand.tmp 62) (Operand.tmp 65) (Operand.const (Value.bool false))) rfl (by kernel_rfl) (fun _ _ _ h => h) inv (fun W hS => by unfold bareO; go_simp) HS (fun inv => ?_)
              try simp only [Act.put, List.setIfInBounds_toArray, List.set_cons_zero, List.set_cons_succ]
              refine FirstH.go (i := 10) (v := .bool false) rfl rfl 67 rfl (Op.move (Operand.tmp 66)) rfl (by kernel_rfl) (fun _ _ _ h => h) inv (fun W hS => by unfold bareO; go_simp) HS (fun inv => ?_)
              try simp only [Act.put, List.setIfInBounds_toArray, List.set_cons_zero, List.set_cons_succ]
              refine FirstH.goS (i := 11) rfl (by rfl) 68 rfl (by kernel_rfl) (fun _ _ _ h => h) inv HS (fun inv => ?_)
              try simp only [Act.put, List.setIfInBounds_toArray, List.set_cons_zero, List.set_cons_succ]
              refine FirstH.goS (i := 12) rfl (by rfl) 69 rfl (by kernel_rfl) (fun _ _ _ h => h) inv HS (fun inv => ?_)
              try simp only [Act.put, List.setIfInBounds_toArray, List.set_cons_zero, List.set_cons_succ]
              refine FirstH.goS (i := 13) rfl (by rfl) 70 rfl (by kernel_rfl) (fun _ _ _ h => h) inv HS (fun inv => ?_)
              try simp only [Act.put, List.setIfInBounds_toArray, List.set_cons_zero, List.set_cons_succ]
              refine FirstH.goS (i := 14) rfl (by rfl) 71 rfl (by kernel_rfl) (fun _ _ _ h => h) inv HS (fun inv => ?_)
              try simp only [Act.put, List.setIfInBounds_toArray, List.set_cons_zero, List.set_cons_succ]
              refine FirstH.goS (i := 15) rfl (by rfl) 72 rfl (by kernel_rfl) (fun _ _ _ h => h) inv HS (fun inv => ?_)
              try simp only [Act.put, List.setIfInBounds_toArray, List.set_cons_zero, List.set_cons_succ]
              refine FirstH.goS (i := 16) rfl (by rfl) 73 rfl (by kernel_rfl) (fun _ _ _ h => h) inv HS (fun inv => ?_)
              try simp only [Act.put, List.setIfInBounds_toArray, List.set_cons_zero, List.set_cons_succ]
              refine FirstH.goS (i := 17) rfl (by rfl) 74 rfl (by kernel_rfl) (fun _ _ _ h => h) inv HS (fun inv => ?_)
              try simp only [Act.put, List.setIfInBounds_toArray, List.set_cons_zero, List.set_cons_succ]
              refine FirstH.goS (i := 18) rfl (by rfl) 75 rfl (by kernel_rfl) (fun _ _ _ h => h) inv HS (fun inv => ?_)
              try simp only [Act.put, List.setIfInBounds_toArray, List.set_cons_zero, List.set_cons_succ]
              refine FirstH.goS (i := 19) rfl (by rfl) 76 rfl (by kernel_rfl) (fun _ _ _ h => h) inv HS (fun inv => ?_)
              try simp only [Act.put, List.setIfInBounds_toArray, List.set_cons_zero, List.set_cons_succ]
              refine FirstH.goS (i := 20) rfl (by rfl) 77 rfl (by kernel_rfl) (fun _ _ _ h => h) inv HS (fun inv => ?_)
              try simp only [Act.put, List.setIfInBounds_toArray, List.set_cons_zero, List.set_cons_succ]
              refine FirstH.goS (i := 21) rfl (by rfl) 78 rfl (by kernel_rfl) (fun _ _ _ h => h) inv HS (fun inv => ?_)
              try simp only [Act.put, List.setIfInBounds_toArray, List.set_cons_zero, List.set_cons_succ]
              refine FirstH.goS (i := 22) rfl (by rfl) 79 rfl (by kernel_rfl) (fun _ _ _ h => h) inv HS (fun inv => ?_)
              try simp only [Act.put, List.setIfInBounds_toArray, List.set_cons_zero, List.set_cons_succ]
              refine FirstH.goS (i := 23) rfl (by rfl) 80 rfl (by kernel_rfl) (fun _ _ _ h => h) inv HS (fun inv => ?_)
              try simp only [Act.put, List.setIfInBounds_toArray, List.set_cons_zero, List.set_cons_succ]
              refine FirstH.goS (i := 24) rfl (by rfl) 81 rfl (by kernel_rfl) (fun _ _ _ h => h) inv HS (fun inv => ?_)
              try simp only [Act.put, List.setIfInBounds_toArray, List.set_cons_zero, List.set_cons_succ]
              refine ⟨by kernel_rfl, ?_⟩
              simp only [List.drop_succ_cons, List.drop_zero]
              clear inv
              have hfw : few t2 a.x.n a.x.l y = false := HFW.out
              have hst : ((t2.L.take (j + 1)).filter (few t2 a.x.n a.x.l)).length = cn := by rw [HST.out, HCN.out, hfw]; rfl
              have HST2 := Lib.hid hst
              clear hst hfw
              go_wp2_with fail
              go_roundw
              case rel => exact ⟨j + 1, by have := HJN.out; omega, by go_num, by rw [HST2.out], BX⟩
              case measure => have := HJN.out; simp [intOf]; omega
          · have hjn' : ¬ (j : Int) < (na : Int) := by omega
            have hle : ¬ (mo : Int) < (cn : Int) := by
              have h1 := few_count P4.out.ok HF.out.1 a.x.n a.x.l
              have h2 := few_take (t := t2) (n := a.x.n) (l := a.x.l) j
              have h3 := HF.out.2
              have := HCN.out
              omega
            have PV := Lib.hid (P4.out.below BX.out)
            have BBV : Hid (Below w1.heap.size w1 v0) := Lib.hid (BB4.out.trans (BX.out.mono BB4.out.size))
            go_wp2_with fail
            exact ⟨⟨i + 1, t2, by have := HIN.out; omega, by go_num, PV, HF, BBV⟩, by have := HIN.out; simp [intOf]; omega⟩
      · obtain rfl : i = n := by omega
        have BZ : Hid (Below W.heap.size W u0) := Lib.hid (B1.out.trans (BB.out.mono B1.out.size))
        go_wp2_with fail
        go_ret
        exact ⟨rfl, BZ.out⟩

end Go.Proofs.Ytmdnnjffjhocfaa
