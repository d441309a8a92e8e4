/-
  The walk of the law WheelOnce: timers that are set once are each due once. No condition.
-/
import Derived.Test.YtfekkfphogjpeaaYol
namespace Go.Proofs.Ytfekkfphogjpeaa
set_option linter.unusedSimpArgs false
set_option linter.unusedVariables false
open Go.RowKit Go.Maps Go.Sort

theorem grown_set (W : World) (g i : Nat) (v : Value) : W.grownBy (W.setCell ⟨g, i, none⟩ v) (some g) :=
  ⟨rfl, rfl, rfl, by simp [World.setCell], fun k _ hk => Below.heap_setCell W _ v k (by simpa using hk)⟩

set_option maxRecDepth 100000 in
set_option maxHeartbeats 4000000 in
theorem walkOnce (A0 A1 : Option Addr) (L M : List Int) (c0 c1 : Nat) (W : World) (lc0 : L.length ≤ c0 ∧ c0 ≤ maxLen) (lc1 : M.length ≤ c1 ∧ c1 ≤ maxLen) (h0 : arg_intsR W A0 L) (h1 : arg_intsR W A1 M) :
    Calls Try.prog 5 #[.slice A0 L.length c0, .slice A1 M.length c1] W fun e W' => e = .returned (.bool true) ∧ Below W.heap.size W W' := by
  have KK := Lib.hid (fun w => knowsW w)
  have I0 := Lib.hid (fun (X : World) (hb : Below W.heap.size W X) (i : Nat) (a : Int) (ha : L[i]? = some a) => ints_at h0 hb ha)
  have I1 := Lib.hid (fun (X : World) (hb : Below W.heap.size W X) (i : Nat) (a : Int) (ha : M[i]? = some a) => ints_at h1 hb ha)
  have LC := Lib.hid (show L.length ≤ c0 ∧ M.length ≤ c1 ∧ c0 ≤ maxLen ∧ c1 ≤ maxLen from ⟨lc0.1, lc1.1, lc0.2, lc1.2⟩)
  clear h0 h1 lc0 lc1
  obtain ⟨n, hn⟩ : ∃ n, L.length = n := ⟨_, rfl⟩
  obtain ⟨m, hm⟩ : ∃ m, M.length = m := ⟨_, rfl⟩
  have HN := Lib.hid hn
  have HM := Lib.hid hm
  rw [hn, hm]
  clear hn hm
  by_cases hL : 60 < n
  · have g1 : (60 : Int) < (n : Int) := by omega
    go_enter Try.func5, Try.ntmps5
    go_wp2_with fail
    refine (KK.out _).mono ?_
    rintro e W2 ⟨rfl, b2⟩
    have B2 := Lib.hid b2
    clear b2
    go_wp2
    go_ret
    exact ⟨rfl, B2.out⟩
  by_cases hM : 60 < m
  · have g1 : ¬ (60 : Int) < (n : Int) := by omega
    have g2 : (60 : Int) < (m : Int) := by omega
    go_enter Try.func5, Try.ntmps5
    go_wp2_with fail
    refine (KK.out _).mono ?_
    rintro e W2 ⟨rfl, b2⟩
    have B2 := Lib.hid b2
    clear b2
    go_wp2
    go_ret
    exact ⟨rfl, B2.out⟩
  have g1 : ¬ (60 : Int) < (n : Int) := by omega
  have g2 : ¬ (60 : Int) < (m : Int) := by omega
  go_enter Try.func5, Try.ntmps5
  go_wp2_with fail
  refine (KK.out _).mono ?_
  rintro e W1 ⟨rfl, b1⟩
  have B1 := Lib.hid b1
  have K0 := Lib.hid (newW 100 W1)
  clear b1
  go_wp2_with fail
  refine K0.out.mono ?_
  rintro e W2 ⟨rfl, P2, b2⟩
  obtain ⟨mb, hmb⟩ : ∃ mb, W1.heap.size = mb := ⟨_, rfl⟩
  rw [hmb] at P2 ⊢
  obtain ⟨wb, hwb⟩ : ∃ wb, mb + 1 = wb := ⟨_, rfl⟩
  rw [hwb] at P2 ⊢
  have MB := Lib.hid (show W.heap.size ≤ mb by have := B1.out.size; omega)
  have PP2 := Lib.hid (show PW W2 wb mb 0 100 [] from P2)
  have B2 := Lib.hid (B1.out.trans (b2.mono B1.out.size))
  clear b2 P2 hmb hwb K0
  go_wp2
  go_loopw [6] (fun i wx => ∃ k : Nat, i = .int .i64 k ∧ k ≤ n ∧ ∃ T, Hid (SetJ L k T) ∧ Hid (PW wx wb mb k 100 T) ∧ Hid (Below W.heap.size W wx)) (fun i _ => n - (intOf i).toNat)
  case atStart => exact ⟨0, rfl, Nat.zero_le _, [], Lib.hid (SetJ.zero L), PP2, B2⟩
  case round =>
    obtain ⟨k, rfl, hk, T, SJ, PJ, BJ⟩ := hrel
    by_cases hlt : k < n
    · have l1 : (k : Int) < (n : Int) := by omega
      have hkL : k < L.length := by have := HN.out; omega
      obtain ⟨b0, o0, hA, cc⟩ := I0.out wr BJ.out k L[k] (List.getElem?_eq_getElem hkL)
      have hs := set_new wr wb mb k 100 T (kk k) L[k] (kk_rng k (by omega)) PJ.out (by omega) SJ.out.free (by rw [SJ.out.len]; omega)
      have sj := Lib.hid (SJ.out.succ (List.getElem?_eq_getElem hkL))
      obtain ⟨a, ha⟩ : ∃ a, L[k] = a := ⟨_, rfl⟩
      rw [ha] at cc hs sj
      have HA := Lib.hid hA
      subst hA
      unfold kk K13.cs at hs
      have SET := Lib.hid hs
      have hwr : ((k : Nat) : Int) % 256 = (k : Int) := by omega
      have hcc : (n : Int) ≤ (c0 : Int) := by have := LC.out.1; have := HN.out; omega
      clear hs ha hkL
      go_wp2_with fail
      refine SET.out.mono ?_
      rintro e w3 ⟨rfl, p3, g3⟩
      have PJ3 := Lib.hid p3
      have BJ3 := Lib.hid (below_grown BJ.out g3 (fun k e => by cases e; exact MB.out))
      clear SET p3 g3
      go_wp2_with (go_at_call 10; refine (numW _ _).mono ?_; rintro e w' ⟨rfl, rfl⟩)
      go_roundw
      case rel => exact ⟨k + 1, by go_num, by omega, _, sj, PJ3, BJ3⟩
      case measure => simp [intOf]; omega
    · obtain rfl : k = n := by omega
      have ON0 := Lib.hid (show OnJ L (fun _ => false) T from by
        have h := SJ.out
        rw [← HN.out] at h
        exact h.on (by have := HN.out; omega))
      have gb : Hid (mb < wr.heap.size ∧ wb < wr.heap.size) := Lib.hid ⟨PJ.out.ml, PJ.out.bl⟩
      obtain ⟨W3, hW3⟩ : ∃ X, wr.alloc (.cells #[.bool false, .bool false, .bool false, .bool false, .bool false, .bool false, .bool false, .bool false, .bool false, .bool false, .bool false, .bool false, .bool false, .bool false, .bool false, .bool false, .bool false, .bool false, .bool false, .bool false, .bool false, .bool false, .bool false, .bool false, .bool false, .bool false, .bool false, .bool false, .bool false, .bool false, .bool false, .bool false, .bool false, .bool false, .bool false, .bool false, .bool false, .bool false, .bool false, .bool false, .bool false, .bool false, .bool false, .bool false, .bool false, .bool false, .bool false, .bool false, .bool false, .bool false, .bool false, .bool false, .bool false, .bool false, .bool false, .bool false, .bool false, .bool false, .bool false, .bool false] 70) = X := ⟨_, rfl⟩
      have r3 : W3.heap[wr.heap.size]? = some (.cells #[.bool false, .bool false, .bool false, .bool false, .bool false, .bool false, .bool false, .bool false, .bool false, .bool false, .bool false, .bool false, .bool false, .bool false, .bool false, .bool false, .bool false, .bool false, .bool false, .bool false, .bool false, .bool false, .bool false, .bool false, .bool false, .bool false, .bool false, .bool false, .bool false, .bool false, .bool false, .bool false, .bool false, .bool false, .bool false, .bool false, .bool false, .bool false, .bool false, .bool false, .bool false, .bool false, .bool false, .bool false, .bool false, .bool false, .bool false, .bool false, .bool false, .bool false, .bool false, .bool false, .bool false, .bool false, .bool false, .bool false, .bool false, .bool false, .bool false, .bool false] 70 (0, 0)) := by rw [← hW3]; exact heap_alloc_new _ _
      have b3 : Below wr.heap.size wr W3 := by rw [← hW3]; exact (Below.refl _ _).alloc (Nat.le_refl _) _
      have R3 := Lib.hid (show W3.heap[wr.heap.size]? = some (.cells (metR fun _ => false) 70 (0, 0)) from r3)
      have P3 := Lib.hid (PJ.out.below b3)
      have B3 := Lib.hid (BJ.out.trans (b3.mono BJ.out.size))
      obtain ⟨g, hg⟩ : ∃ g, wr.heap.size = g := ⟨_, rfl⟩
      have HGW := Lib.hid (show W.heap.size ≤ g from hg ▸ BJ.out.size)
      rw [hg] at R3 gb
      have HG := Lib.hid hg
      have HW3 := Lib.hid hW3
      clear r3 b3 hW3 SJ PJ BJ hg
      go_wp2_with (rw [HW3.out])
      try rw [HW3.out]
      rw [HG.out]
      clear HW3 HG
      go_loopw [8] (fun z wx => ∃ q : Nat, z = .int .i64 q ∧ q ≤ m ∧ ∃ (f : Nat → Bool) (T : List Tm), Hid (OnJ L f T) ∧ Hid (PW wx wb mb k 100 T) ∧ Hid (wx.heap[g]? = some (.cells (metR f) 70 (0, 0))) ∧ Hid (Below W.heap.size W wx)) (fun z _ => m - (intOf z).toNat)
      case atStart => exact ⟨0, rfl, Nat.zero_le _, _, T, ON0, P3, R3, B3⟩
      clear ON0 P3 R3 B3
      case round =>
        obtain ⟨q, rfl, hq, f, T, ON, PX, RX, BX⟩ := hrel
        by_cases hlt : q < m
        · have l2 : (q : Int) < (m : Int) := by omega
          have hqM : q < M.length := by have := HM.out; omega
          have I1q := Lib.hid (fun X hb => I1.out X hb q M[q] (List.getElem?_eq_getElem hqM))
          obtain ⟨now, hnow⟩ : ∃ a, M[q] = a := ⟨_, rfl⟩
          rw [hnow] at I1q
          clear hnow hqM
          obtain ⟨b1, o1, hA1, cc⟩ := I1q.out wr BX.out
          have HA1 := Lib.hid hA1
          subst hA1
          have I1n : Hid (∀ X, Below W.heap.size W X → X.cell? ⟨b1, o1 + q, none⟩ = some (.int .i64 now)) := Lib.hid fun X hb => by
            obtain ⟨b, o, e, h⟩ := I1q.out X hb
            cases e
            exact h
          have hcm : (m : Int) ≤ (c1 : Int) := by have := LC.out.2.1; have := HM.out; omega
          have DU := Lib.hid (dueW wr wb mb k 100 T now PX.out (by have := ON.out.len; omega))
          have GX := Lib.hid (Array.getElem?_eq_some_iff.1 RX.out).1
          clear I1q
          go_wp2_with fail
          refine DU.out.mono ?_
          rintro e w4 ⟨v, S, rfl, hp, hsrt, hO, P4, g4⟩
          obtain ⟨A4, c4, rfl, a1, a2, a3, -⟩ := own_form hO
          have ONN := Lib.hid (ON.out.next PX.out.apart hp)
          have ONA := Lib.hid (fun (p : Nat) (t : Tm) (ht : S[p]? = some t) => ON.out.at_ PX.out.apart hp ht)
          have OND := Lib.hid (fun (j : Nat) (a : Int) (ha : L[j]? = some a) (hf : metF f S j = false) => ON.out.done hp ha hf)
          have LEN := Lib.hid (show S.length ≤ 60 by rw [hp.length_eq]; exact Nat.le_trans (List.length_filter_le _ _) ON.out.len)
          have SRT := Lib.hid hsrt
          have AD := Lib.hid (⟨a1, a2, a3⟩ : S.length ≤ c4 ∧ c4 ≤ maxLen ∧ (0 < S.length → ∃ g, A4 = some ⟨g, 0, none⟩ ∧ wr.heap.size ≤ g ∧ g < w4.heap.size))
          have R4 := Lib.hid ((g4.block g GX.out (by have := gb.out; simp; omega)).trans RX.out)
          have P4' := Lib.hid P4
          have O4 := Lib.hid hO
          have B4 := Lib.hid (below_grown BX.out g4 (fun k e => by cases e; exact MB.out))
          obtain ⟨s, hs⟩ : ∃ s, S.length = s := ⟨_, rfl⟩
          rw [hs] at O4 AD LEN ⊢
          have HSL := Lib.hid hs
          obtain ⟨base, hbase⟩ : ∃ b, wr.heap.size = b := ⟨_, rfl⟩
          rw [hbase] at O4 AD GX
          clear DU hp hsrt hO P4 g4 a1 a2 a3 ON PX RX BX hs hbase
          clear cc
          go_wp2
          go_loopw [10] (fun z wx => ∃ p : Nat, z = .int .i64 p ∧ p ≤ s ∧ Hid (PW wx wb mb k 100 (late now T)) ∧ Hid (wx.heap[g]? = some (.cells (metR (metF f (S.take p))) 70 (0, 0))) ∧ Hid (wx.ownsRow base 50 13 (.slice A4 s c4) s (cellsK (S.map (·.k)))) ∧ Hid (Below W.heap.size W wx)) (fun z _ => s - (intOf z).toNat)
          case atStart => exact ⟨0, rfl, Nat.zero_le _, P4', by rw [List.take_zero, metF_nil]; exact R4, O4, B4⟩
          clear P4' R4 O4 B4
          case round =>
            obtain ⟨p, rfl, hp, PX, RX, OX, BX⟩ := hrel
            by_cases hlt2 : p < s
            · have l3 : (p : Int) < (s : Int) := by omega
              have hpS : p < S.length := by have := HSL.out; omega
              obtain ⟨g5, hg5, -, -⟩ := AD.out.2.2 (by omega)
              subst hg5
              have hS := List.getElem?_eq_getElem hpS
              obtain ⟨j, hj, hk, hnow, hmet⟩ := ONA.out p _ hS
              have K0 := rowK_at OX.out hS
              have hj60 : j < k := by have := (List.getElem?_eq_some_iff.1 hj).1; have := HN.out; omega
              have LAST : Hid (∀ p1, p = p1 + 1 → ∃ j1 a1, L[j1]? = some a1 ∧ a1 ≤ S[p].at_ ∧ wr.cell? ⟨g5, p1 * 13, none⟩ = some (.int .u8 (j1 : Nat)) ∧ j1 < k) := Lib.hid fun p1 e => by
                subst e
                have hp1 : p1 < S.length := by omega
                have hS1 := List.getElem?_eq_getElem hp1
                obtain ⟨j1, h1, h2, _, _⟩ := ONA.out p1 _ hS1
                have K1 := rowK_at OX.out hS1
                rw [h2] at K1
                exact ⟨j1, _, h1, tcmp_at (List.pairwise_iff_getElem.1 SRT.out p1 (p1 + 1) hp1 hpS (by omega)), K1 0 _ rfl, by have := (List.getElem?_eq_some_iff.1 h1).1; have := HN.out; omega⟩
              have NXT : Hid (metF f (S.take (p + 1)) = fun i => metF f (S.take p) i || (i == j)) := Lib.hid (by
                have e1 : S.take (p + 1) = S.take p ++ [S[p]] := by rw [List.take_add_one, hS]; rfl
                rw [e1]
                exact metF_snoc _ _ _ _ (by rw [hk]; rfl))
              rw [hk] at K0
              obtain ⟨a, ha⟩ : ∃ a, S[p].at_ = a := ⟨_, rfl⟩
              rw [ha] at hj hnow LAST
              have cK : wr.cell? ⟨g5, p * 13, none⟩ = some (.int .u8 (j : Nat)) := K0 0 _ rfl
              obtain ⟨b0, o0, hA0, cL⟩ := I0.out wr BX.out j a hj
              have I0n : Hid (∀ j1 a1, L[j1]? = some a1 → wr.cell? ⟨b0, o0 + j1, none⟩ = some (.int .i64 a1)) := Lib.hid fun j1 a1 h => by
                obtain ⟨b, o, e, h⟩ := I0.out wr BX.out j1 a1 h
                rw [hA0] at e
                cases e
                exact h
              have HA0 := Lib.hid hA0
              subst hA0
              have cN := I1n.out wr BX.out
              have cM := cell_of RX.out j _ (metR_get _ (by omega))
              rw [hmet] at cM
              have z0 := frz_row j RX.out
              have hj1 : (j : Int) < (k : Int) := by omega
              have hj2 : ¬ (k : Int) ≤ (j : Int) := by omega
              have hj3 : (j : Int) < 60 := by omega
              have hn1 : ¬ now < a := by omega
              have hcc : (k : Int) ≤ (c0 : Int) := by have := LC.out.1; have := HN.out; omega
              have hc4 : (s : Int) ≤ (c4 : Int) := by have := AD.out.1; omega
              have hs60 : (s : Int) ≤ 60 := by have := LEN.out; omega
              clear hS hpS hj hk K0 ha hmet
              have hgW : W.heap.size ≤ g := HGW.out
              cases p with
              | zero =>
                clear LAST
                go_wp2
                have q0 := cell_regrown cL
                have q1 := cell_regrown cN
                have q2 := cell_regrown cM
                clear cL cN cM z0
                have dz0 : decide ((k : Int) ≤ (j : Int)) = false := by simpa using hj1
                have dz1 : decide ((j : Int) ≥ (k : Int)) = false := by simpa using hj1
                have dz4 : decide (k ≤ j) = false := by simp; omega
                have dz2 : decide (now < a) = false := by simpa using hnow
                have dz3 : decide (a > now) = false := by simpa using hnow
                refine wp_region_quiet_below (by kernel_rfl) (by kernel_rfl) ?_
                repeat (go_big_quiet_step (fail))
                refine wpQuiet_nil ?_
                rintro WE ⟨pp, rfl⟩
                have bE := below_regrown wr pp.d pp.os
                generalize grow (redrawn wr pp.d) pp.os = WE at *
                clear q0 q1 q2
                have rE := (bE.block g (by have := (Array.getElem?_eq_some_iff.1 RX.out).1; omega)).trans RX.out
                have cE := cell_of rE j _ (metR_get _ (by omega))
                have zE := frz_row j rE
                have gE : WE.grownBy (WE.setCell ⟨g, j, none⟩ (.bool true)) (some g) := grown_set WE g j _
                have PE := Lib.hid ((PX.out.below bE).grown gE (by have := gb.out; simp; omega) (by have := gb.out; simp; omega))
                have OE := Lib.hid (own_grown (own_grown OX.out (grown_of_below bE none) (fun k e => by cases e)) gE (fun k e => by cases e; exact GX.out))
                have BE := Lib.hid (below_grown (BX.out.trans (bE.mono BX.out.size)) gE (fun k e => by cases e; exact hgW))
                have RE := Lib.hid (show (WE.setCell ⟨g, j, none⟩ (.bool true)).heap[g]? = some (.cells (metR (metF f (S.take (0 + 1)))) 70 (0, 0)) from by
                  have := row_set (i := j) rE (.bool true)
                  rw [metR_set _ (by omega)] at this
                  rw [NXT.out]
                  exact this)
                clear rE gE bE
                go_wp2
                go_roundw
                case rel => exact ⟨0 + 1, by go_num, by omega, PE, RE, OE, BE⟩
                case measure => simp [intOf]; omega
              | succ p1 =>
                obtain ⟨j1, a1, hj1', ha1, cK1, hjk1⟩ := LAST.out p1 rfl
                have cL1 := I0n.out j1 a1 hj1'
                clear LAST hj1'
                go_wp2
                have q0 := cell_regrown cL
                have q1 := cell_regrown cN
                have q2 := cell_regrown cM
                have q3 := cell_regrown cK1
                have q4 := cell_regrown cL1
                have l5 : (p1 : Int) < (s : Int) := by omega
                have ha1n : ¬ a < a1 := by omega
                have hj4 : (j1 : Int) < (k : Int) := by omega
                clear cL cN cM z0
                have dz0 : decide ((k : Int) ≤ (j : Int)) = false := by simpa using hj1
                have dz1 : decide ((j : Int) ≥ (k : Int)) = false := by simpa using hj1
                have dz4 : decide (k ≤ j) = false := by simp; omega
                have dz2 : decide (now < a) = false := by simpa using hnow
                have dz3 : decide (a > now) = false := by simpa using hnow
                have dy0 : decide ((0 : Int) < (p1 : Int) + 1) = true := decide_eq_true (by omega)
                have dy1 : decide ((p1 : Int) + 1 > 0) = true := decide_eq_true (by omega)
                have dy2 : decide (a < a1) = false := by simpa using ha1
                have dy3 : decide (a1 > a) = false := by simpa using ha1
                refine wp_region_quiet_below (by kernel_rfl) (by kernel_rfl) ?_
                repeat (go_big_quiet_step (fail))
                refine wpQuiet_nil ?_
                rintro WE ⟨pp, rfl⟩
                have bE := below_regrown wr pp.d pp.os
                generalize grow (redrawn wr pp.d) pp.os = WE at *
                clear q0 q1 q2 q3 q4 cK1 cL1
                have rE := (bE.block g (by have := (Array.getElem?_eq_some_iff.1 RX.out).1; omega)).trans RX.out
                have cE := cell_of rE j _ (metR_get _ (by omega))
                have zE := frz_row j rE
                have gE : WE.grownBy (WE.setCell ⟨g, j, none⟩ (.bool true)) (some g) := grown_set WE g j _
                have PE := Lib.hid ((PX.out.below bE).grown gE (by have := gb.out; simp; omega) (by have := gb.out; simp; omega))
                have OE := Lib.hid (own_grown (own_grown OX.out (grown_of_below bE none) (fun k e => by cases e)) gE (fun k e => by cases e; exact GX.out))
                have BE := Lib.hid (below_grown (BX.out.trans (bE.mono BX.out.size)) gE (fun k e => by cases e; exact hgW))
                have RE := Lib.hid (show (WE.setCell ⟨g, j, none⟩ (.bool true)).heap[g]? = some (.cells (metR (metF f (S.take (p1 + 1 + 1)))) 70 (0, 0)) from by
                  have := row_set (i := j) rE (.bool true)
                  rw [metR_set _ (by omega)] at this
                  rw [NXT.out]
                  exact this)
                clear rE gE bE
                go_wp2
                go_roundw
                case rel => exact ⟨p1 + 1 + 1, by go_num, by omega, PE, RE, OE, BE⟩
                case measure => simp [intOf]; omega
            · obtain rfl : p = s := by omega
              have eT : S.take p = S := List.take_of_length_le (by have := HSL.out; omega)
              rw [eT] at RX
              have hcc : (k : Int) ≤ (c0 : Int) := by have := LC.out.1; have := HN.out; omega
              clear OX AD SRT ONA hlt2 hp
              go_wp2
              go_loopw [12] (fun z wx => ∃ j : Nat, z = .int .i64 j ∧ j ≤ k ∧ Hid (PW wx wb mb k 100 (late now T)) ∧ Hid (wx.heap[g]? = some (.cells (metR (metF f S)) 70 (0, 0))) ∧ Hid (Below W.heap.size W wx)) (fun z _ => k - (intOf z).toNat)
              case atStart => exact ⟨0, rfl, Nat.zero_le _, PX, RX, BX⟩
              clear PX RX BX
              case round =>
                obtain ⟨j, rfl, hj, PX, RX, BX⟩ := hrel
                by_cases hlt3 : j < k
                · have l4 : (j : Int) < (k : Int) := by omega
                  have hjL : j < L.length := by have := HN.out; omega
                  have hj3 : (j : Int) < 60 := by omega
                  have ha := List.getElem?_eq_getElem hjL
                  have cM := cell_of RX.out j _ (metR_get _ (by omega))
                  obtain ⟨mt, hmt⟩ : ∃ x, metF f S j = x := ⟨_, rfl⟩
                  rw [hmt] at cM
                  have OD := OND.out j _ ha
                  obtain ⟨b0, o0, hA0, cL⟩ := I0.out wr BX.out j _ ha
                  obtain ⟨a, haa⟩ : ∃ a, L[j] = a := ⟨_, rfl⟩
                  rw [haa] at cL OD
                  have HA0 := Lib.hid hA0
                  subst hA0
                  have cN := I1n.out wr BX.out
                  cases mt with
                  | true =>
                    clear hmt OD ha haa hjL
                    go_wp2
                    have q2 := cell_regrown cM
                    clear cL cN cM
                    refine wp_region_quiet_below (by kernel_rfl) (by kernel_rfl) ?_
                    repeat (go_big_quiet_step (fail))
                    refine wpQuiet_nil ?_
                    rintro WE ⟨pp, rfl⟩
                    have bE := below_regrown wr pp.d pp.os
                    generalize grow (redrawn wr pp.d) pp.os = WE at *
                    clear q2
                    have PE := Lib.hid (PX.out.below bE)
                    have RE := Lib.hid ((bE.block g (by have := (Array.getElem?_eq_some_iff.1 RX.out).1; omega)).trans RX.out)
                    have BE := Lib.hid (BX.out.trans (bE.mono BX.out.size))
                    clear bE
                    go_wp2
                    go_roundw
                    case rel => exact ⟨j + 1, by go_num, by omega, PE, RE, BE⟩
                    case measure => simp [intOf]; omega
                  | false =>
                    have hna : ¬ a ≤ now := by have := OD hmt; omega
                    clear hmt OD ha haa hjL
                    go_wp2
                    have q0 := cell_regrown cL
                    have q1 := cell_regrown cN
                    have q2 := cell_regrown cM
                    clear cL cN cM
                    refine wp_region_quiet_below (by kernel_rfl) (by kernel_rfl) ?_
                    repeat (go_big_quiet_step (fail))
                    refine wpQuiet_nil ?_
                    rintro WE ⟨pp, rfl⟩
                    have bE := below_regrown wr pp.d pp.os
                    generalize grow (redrawn wr pp.d) pp.os = WE at *
                    clear q0 q1 q2
                    have PE := Lib.hid (PX.out.below bE)
                    have RE := Lib.hid ((bE.block g (by have := (Array.getElem?_eq_some_iff.1 RX.out).1; omega)).trans RX.out)
                    have BE := Lib.hid (BX.out.trans (bE.mono BX.out.size))
                    clear bE
                    go_wp2
                    go_roundw
                    case rel => exact ⟨j + 1, by go_num, by omega, PE, RE, BE⟩
                    case measure => simp [intOf]; omega
                · obtain rfl : j = k := by omega
                  go_wp2
                  go_roundw
                  case rel => exact ⟨q + 1, by go_num, by omega, _, _, ONN, PX, RX, BX⟩
                  case measure => simp [intOf]; omega
        · obtain rfl : q = m := by omega
          go_wp2
          go_ret
          exact ⟨rfl, BX.out⟩

end Go.Proofs.Ytfekkfphogjpeaa
