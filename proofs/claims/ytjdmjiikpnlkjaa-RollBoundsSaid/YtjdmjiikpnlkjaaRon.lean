/-
  The law RollBounds walked: it answers true. Condition: the numbers are of 64 bits.
-/
import Derived.Test.YtjdmjiikpnlkjaaRom
import Derived.Deep.MidRow
import Derived.LoopN
namespace Go.Proofs.Ytjdmjiikpnlkjaa
set_option linter.unusedSimpArgs false
set_option linter.unusedVariables false
open Go.RowKit Go.Maps Go.Sort
open V (P2)

/-- the head alone, behind j adds. -/
structure HInv (j : Nat) (d : Rd) : Prop where
  M : d.M = [pr 0]
  me : d.me = pr 0
  sh : d.shut = false
  len : d.L.length = min j 400
  com : d.commit = min j 400
theorem HInv.lead {j : Nat} {d : Rd} (h : HInv j d) : d.lead = true := by simp [Rd.lead, h.M, h.me]
theorem HInv.addC {j : Nat} {d : Rd} (h : HInv j d) : d.addC true = if j < 400 then 0 else 11 := by
  unfold Rd.addC
  rw [h.lead, h.sh, h.len]
  by_cases e : j < 400
  · rw [if_pos e]
    have : ¬ 400 ≤ min j 400 := by omega
    simp [this]
  · rw [if_neg e]
    have : 400 ≤ min j 400 := by omega
    simp [this]
theorem HInv.addD {j : Nat} {d : Rd} (h : HInv j d) (v : EV) : HInv (j + 1) (d.addD true v) := by
  unfold Rd.addD
  rw [h.lead, h.sh, h.len]
  by_cases e : j < 400
  · rw [if_pos (by simp; omega)]
    have hl : (d.L ++ [v]).length = min (j + 1) 400 := by rw [List.length_append, h.len]; simp; omega
    refine ⟨h.M, h.me, rfl, hl, ?_⟩
    show max d.commit (Rd.top { g := d.g, N := d.N, M := d.M, me := d.me, L := d.L ++ [v], base := d.base, commit := d.commit, shut := false, T := d.T, k := d.k }) = min (j + 1) 400
    have ht : Rd.top { g := d.g, N := d.N, M := d.M, me := d.me, L := d.L ++ [v], base := d.base, commit := d.commit, shut := false, T := d.T, k := d.k } = min (j + 1) 400 := by
      unfold Rd.top
      refine topN_eq 400 (by omega) (.inr ?_) fun y hy _ => ?_
      · have e2 : Rd.cnt { g := d.g, N := d.N, M := d.M, me := d.me, L := d.L ++ [v], base := d.base, commit := d.commit, shut := false, T := d.T, k := d.k } (min (j + 1) 400) = 1 := by
          unfold Rd.cnt Rd.has
          simp only [h.M, h.me, hl]
          simp
        have e3 : Rd.maj { g := d.g, N := d.N, M := d.M, me := d.me, L := d.L ++ [v], base := d.base, commit := d.commit, shut := false, T := d.T, k := d.k } = 1 := by
          unfold Rd.maj
          simp only [h.M]
          rfl
        rw [e2, e3]
        rfl
      · have e2 : Rd.cnt { g := d.g, N := d.N, M := d.M, me := d.me, L := d.L ++ [v], base := d.base, commit := d.commit, shut := false, T := d.T, k := d.k } y = 0 := by
          unfold Rd.cnt Rd.has
          simp only [h.M, h.me, hl]
          have : decide (y ≤ min (j + 1) 400) = false := decide_eq_false (by omega)
          simp [this]
        have e3 : Rd.maj { g := d.g, N := d.N, M := d.M, me := d.me, L := d.L ++ [v], base := d.base, commit := d.commit, shut := false, T := d.T, k := d.k } = 1 := by
          unfold Rd.maj
          simp only [h.M]
          rfl
        rw [e2, e3]
        rfl
    rw [ht, h.com]
    omega
  · rw [if_neg (by simp; omega)]
    exact ⟨h.M, h.me, h.sh, by rw [h.len]; omega, by rw [h.com]; omega⟩
theorem HInv.start : HInv 0 (newD 0 1 (mem 1) (pr 0) []) := ⟨rfl, rfl, rfl, rfl, rfl⟩
theorem repl_ok (n : Nat) (W : World) : ∀ e ∈ List.replicate n (killE 3), LeO e W := fun e he => by
  rw [(List.mem_replicate.1 he).2]
  exact killE_ok 3 W
theorem wpList_bsK {ops : Array Oper} {rest : List Oper} {o : Oper} {a : Act} {w : World} {Q : Exit → Act → World → Prop} (hg : o.guard = none) (x : Operand) (ho : o.op = .buildSlice 37 1 #[(0, x)]) (e : Le) (hx : a.eval x = .agg e.cs)
    (h : wpList Try.prog ops Q rest (a.put o.dst (.slice (some ⟨w.heap.size, 0, none⟩) 1 1)) (w.alloc (.cells e.cs 63))) : wpList Try.prog ops Q (o :: rest) a w :=
  wpList_plain hg fun _ hK => wp_bsE x ho e hx (hK _ _ h)
set_option maxRecDepth 100000 in
set_option maxHeartbeats 2000000 in
theorem walkRB (x co : Int) (W : World) (hco : -9223372036854775808 ≤ co ∧ co ≤ 9223372036854775807) : Calls Try.prog 5 #[.int .i64 x, .int .i64 co] W fun e W' => e = .returned (.bool true) ∧ Below W.heap.size W W' := by
  obtain ⟨a, ha⟩ : ∃ a : Int, x.tmod 10 = a := ⟨_, rfl⟩
  have ha2 : -10 < a ∧ a < 10 := by rw [← ha]; exact ⟨by have := Int.lt_tmod_of_pos x (show (0 : Int) < 10 by decide); omega, Int.tmod_lt_of_pos x (by decide)⟩
  obtain ⟨nn, hnn⟩ : ∃ nn : Nat, (a + 10).tmod 10 = (nn : Int) := ⟨((a + 10).tmod 10).toNat, by have := Int.tmod_nonneg (a := a + 10) 10 (by omega); omega⟩
  have hnn10 : nn < 10 := by have := Int.tmod_lt_of_pos (a + 10) (show (0 : Int) < 10 by decide); omega
  have hw1 : IntKind.i64.wrap a = a := wrapI (by omega) (by omega)
  have HA := Lib.hid ha2
  obtain ⟨base, hb⟩ : ∃ z, W.heap.size = z := ⟨_, rfl⟩
  have HBS := Lib.hid hb
  rw [hb]
  have B0 : Hid (Below base W W) := Lib.hid (hb ▸ Below.refl _ _)
  have KKN := Lib.hid (fun u => knowsR u)
  have HNN := Lib.hid hnn10
  have HCO := Lib.hid hco
  clear hb
  go_enter Try.func5, Try.ntmps5
  go_wp2_with fail
  refine (viewC 1 (by omega) W).mono ?_
  rintro e w1 ⟨A, c, rfl, hr, hc, hm, b1⟩
  have B1 := Lib.hid (HBS.out ▸ b1 : Below base W w1)
  have HR := Lib.hid hr
  have HC := Lib.hid (And.intro hc hm)
  clear hr hc hm b1
  go_wp2_with fail
  refine (procC 0 (by omega) w1).mono ?_
  rintro e w2 ⟨rfl, b2⟩
  have B2 := Lib.hid (B1.out.trans (b2.mono (by have := B1.out.size; have := HBS.out; omega)))
  have KN := Lib.hid (newC 1 0 (by omega) (by omega) A c w2 (HR.out.below b2 (Nat.le_refl _) b2.size) HC.out.1 HC.out.2)
  have S2 : Hid (base ≤ w2.heap.size) := Lib.hid (by have := B2.out.size; have := HBS.out; omega)
  clear b2
  go_wp2_with fail
  refine KN.out.mono ?_
  rintro e w3 ⟨b, m, lb, rfl, hp, hb, hm, hl, b3⟩
  have B3 := Lib.hid (B2.out.trans (b3.mono S2.out))
  have HP3 : Hid (RP w3 b m lb (newD 0 1 (mem 1) (pr 0) [])) := Lib.hid hp
  have HBM : Hid (base ≤ b ∧ base ≤ m) := Lib.hid ⟨Nat.le_trans S2.out hb, Nat.le_trans S2.out hm⟩
  have HLB : Hid (∀ j, lb = some j → base ≤ j) := Lib.hid fun j hj => Nat.le_trans S2.out (hl j hj)
  clear hp hb hm hl b3
  obtain ⟨n, hn⟩ : ∃ n : Nat, 395 + nn = n := ⟨_, rfl⟩
  have HN := Lib.hid hn
  have hcast : (395 : Int) + (nn : Int) = (n : Int) := by omega
  have hn1 : n ≤ 404 ∧ 395 ≤ n := by have := HNN.out; omega
  have HN1 := Lib.hid hn1
  go_wp2_with fail
  try simp only [hcast]
  clear hcast hn hw1 hn1 ha hnn
  go_loopw [6, 7] (fun ok i wx => ∃ (j : Nat) (lb : Option Nat) (d : Rd), i = .int .i64 j ∧ ok = .int .i64 (min j 400 : Nat) ∧ j ≤ n ∧ Hid (RP wx b m lb d) ∧ Hid (HInv j d) ∧ Hid (∀ j, lb = some j → base ≤ j) ∧ Hid (Below base W wx)) (fun _ i _ => n - (intOf i).toNat)
  case atStart => exact ⟨0, lb, _, rfl, rfl, Nat.zero_le _, HP3, Lib.hid HInv.start, HLB, B3⟩
  case round =>
    obtain ⟨j, lb, d, rfl, rfl, hj, RR, HI, LB, BB⟩ := hrel
    obtain ⟨u, hu⟩ : ∃ z : World, z = wr := ⟨_, rfl⟩
    subst hu
    by_cases hjn : j < n
    · as_aux_lemma =>
      skip
      have hji : (j : Int) < (n : Int) := by omega
      have hmod : (j : Int).tmod 16 = ((j % 16 : Nat) : Int) := by rw [Int.tmod_eq_emod_of_nonneg (by omega)]; omega
      have HJ := Lib.hid (And.intro hj hjn)
      have hjb : j < 404 := by have := HN1.out; omega
      have SU : Hid (base ≤ u.heap.size) := Lib.hid (by have := BB.out.size; have := HBS.out; omega)
      clear hj hjn
      go_wp2_with fail
      refine (killC (j % 16) (by omega) u).mono ?_
      rintro e v1 ⟨rfl, b4⟩
      have B4 := Lib.hid (BB.out.trans (b4.mono SU.out))
      have S4 : Hid (base ≤ v1.heap.size) := Lib.hid (Nat.le_trans SU.out b4.size)
      have KA := Lib.hid (rAdd v1 b m lb d (RR.out.below b4) (killE (j % 16)) (killE_ok _ v1) true fun z _ => rightK (j % 16) (by omega) _ z)
      clear b4
      go_wp2_with fail
      refine KA.out.mono ?_
      rintro e v2 ⟨rfl, lb5, hp5, kp5, hl5⟩
      have B5 := Lib.hid (B4.out.trans (kp5.belowR S4.out HBM.out.1 HBM.out.2 LB.out))
      have HP5 := Lib.hid hp5
      have LB5 : Hid (∀ j, lb5 = some j → base ≤ j) := Lib.hid fun q hq => by
        rcases hl5 with h | ⟨q', h, hq'⟩
        · exact LB.out q (h ▸ hq)
        · rw [h] at hq
          injection hq with hq
          subst hq
          exact Nat.le_trans S4.out hq'
      have HI5 := Lib.hid (HI.out.addD (killV (j % 16)))
      rw [HI.out.addC]
      clear hp5 kp5 hl5
      by_cases h4 : j < 400
      · rw [if_pos h4]
        have KNU := Lib.hid (numC 0 v2)
        have hmin : min j 400 = j := by omega
        rw [hmin]
        have HMN : Hid (min (j + 1) 400 = j + 1) := Lib.hid (by omega)
        clear h4 hmin
        go_wp2_with (go_at_call 19; refine KNU.out.mono ?_; rintro e z ⟨rfl, rfl⟩)
        go_roundw
        case rel => exact ⟨j + 1, lb5, _, by have := HJ.out; go_num, by rw [HMN.out]; have := HJ.out; have := HN1.out; go_num, by have := HJ.out; omega, HP5, HI5, LB5, B5⟩
        case measure => have := HJ.out; simp [intOf]; omega
      · rw [if_neg h4]
        have KNU := Lib.hid (numC 11 v2)
        have HMN : Hid (min j 400 = min (j + 1) 400) := Lib.hid (by omega)
        rw [HMN.out]
        clear h4
        go_wp2_with (go_at_call 19; refine KNU.out.mono ?_; rintro e z ⟨rfl, rfl⟩)
        go_roundw
        case rel => exact ⟨j + 1, lb5, _, by have := HJ.out; have := HN1.out; go_num, rfl, by have := HJ.out; omega, HP5, HI5, LB5, B5⟩
        case measure => have := HJ.out; simp [intOf]; omega
    · obtain rfl : n = j := by omega
      have hk1 : ¬ (n : Int) < (n : Int) := by omega
      clear hj hjn
      have SU : Hid (base ≤ u.heap.size) := Lib.hid (by have := BB.out.size; have := HBS.out; omega)
      go_wp2_with fail
      obtain ⟨base2, hb2⟩ : ∃ z, u.heap.size = z := ⟨_, rfl⟩
      have HB2 := Lib.hid hb2
      clear hb2
      go_loopw [9, 10] (fun v i wx => ∃ (j : Nat), i = .int .i64 j ∧ j ≤ n ∧ Hid (wx.ownsRow base2 63 18 v j (cellsE (List.replicate j (killE 3)))) ∧ Hid (Below base2 u wx)) (fun _ i _ => n - (intOf i).toNat)
      case atStart => exact ⟨0, rfl, Nat.zero_le _, Lib.hid ⟨rfl, .inl ⟨rfl, rfl⟩⟩, Lib.hid (HB2.out ▸ Below.refl _ _)⟩
      case round =>
        obtain ⟨j, rfl, hj, O, B2'⟩ := hrel
        obtain ⟨x0, hx0⟩ : ∃ z : World, z = wr := ⟨_, rfl⟩
        subst hx0
        by_cases hjn : j < n
        · as_aux_lemma =>
          skip
          have hji : (j : Int) < (n : Int) := by omega
          have HJ := Lib.hid (And.intro hj hjn)
          have hjb : j < 404 := by have := HN1.out; omega
          have SX : Hid (base2 ≤ x0.heap.size) := Lib.hid (by have := B2'.out.size; have := HB2.out; omega)
          obtain ⟨i0, hi0, hz0, hz1, hz2⟩ := info_parts entI
          clear hj hjn
          go_wp2_with fail
          refine (killC 3 (by omega) x0).mono ?_
          rintro e x1 ⟨rfl, bx1⟩
          have BX1 := Lib.hid (B2'.out.trans (bx1.mono SX.out))
          have OX1 := Lib.hid (own_belowR O.out bx1)
          obtain ⟨ka, hka⟩ : ∃ z, x1.heap.size = z := ⟨_, rfl⟩
          have hsz : base2 ≤ ka := by have := bx1.size; have := SX.out; omega
          obtain ⟨x2, hx2⟩ : ∃ z, x1.alloc (.cells (killE 3).cs 63) = z := ⟨_, rfl⟩
          have bx2 : Below x1.heap.size x1 x2 := by rw [← hx2]; exact (Below.refl _ _).alloc (Nat.le_refl _) _
          have rx2 : x2.heap[ka]? = some (.cells (killE 3).cs 63 (0, 0)) := by rw [← hx2, ← hka]; exact heap_alloc_new _ _
          have BX2 := Lib.hid (BX1.out.trans (bx2.mono (by omega)))
          have OX2 := Lib.hid (own_belowR OX1.out bx2)
          have RX2 := Lib.hid rx2
          have HX2 := Lib.hid hx2
          have HKA := Lib.hid hka
          have SX2 : Hid (base2 ≤ x2.heap.size) := Lib.hid (Nat.le_trans (by omega) bx2.size)
          clear bx1 bx2 rx2 hx2 hka hsz
          go_wp2_with (first
            | (refine wpList_bsK rfl (.tmp 45) rfl (killE 3) (by rfl) ?_; rw [HX2.out, HKA.out])
            | (at_builtin
               refine wpList_append_own _ rfl (.tmp 44) (.tmp 46) 37 rfl base2 63 i0 _ 18 104 Try.underlying37 hi0 hz0 hz1 hz2 rfl (by decide) _ j _ rfl OX2.out ⟨ka, 0, none⟩ 1 1 (killE 3).cs.toList rfl rfl (fun q y hq => ?qc) (cellsE_one (killE 3)) (by have := HJ.out; have := HN1.out; unfold maxLen; omega) (by have := HJ.out; have := HN1.out; omega) SX2.out ?_
               case qc =>
                 rw [addr_add, Nat.zero_add, cell_of_row _ _ q _ _ _ RX2.out]
                 simpa using hq
               rintro v4 x4 o4 g4 -
               have O4 := Lib.hid o4
               have B4 : Hid (Below base2 u x4) := Lib.hid (BX2.out.grown g4 SX2.out fun q hq => (OX2.out.lt q hq).1)
               clear o4 g4)
            | fail)
          go_roundw
          case rel => exact ⟨j + 1, by have := HJ.out; have := HN1.out; go_num, by have := HJ.out; omega, Lib.hid (by
            have e : cellsE (List.replicate (j + 1) (killE 3)) = cellsE (List.replicate j (killE 3)) ++ (killE 3).cs.toList := by
              rw [List.replicate_succ', cellsE_append]
              simp [cellsE]
            rw [e]
            exact O4.out), B4⟩
          case measure => have := HJ.out; simp [intOf]; omega
        · obtain rfl : n = j := by omega
          clear hj hjn
          have SX : Hid (base2 ≤ x0.heap.size) := Lib.hid (by have := B2'.out.size; have := HB2.out; omega)
          go_wp2_with fail
          refine (viewC 2 (by omega) x0).mono ?_
          rintro e y1 ⟨A2, c2, rfl, hr, hc, hm, b1⟩
          have BY1 := Lib.hid (B2'.out.trans (b1.mono SX.out))
          have HR2 := Lib.hid hr
          have HC2 := Lib.hid (And.intro hc hm)
          have OY1 := Lib.hid (own_belowR O.out b1)
          have SY1 : Hid (base2 ≤ y1.heap.size) := Lib.hid (Nat.le_trans SX.out b1.size)
          clear hr hc hm b1
          go_wp2_with fail
          refine (procC 1 (by omega) y1).mono ?_
          rintro e y2 ⟨rfl, b2⟩
          have BY2 := Lib.hid (BY1.out.trans (b2.mono SY1.out))
          have OY2 := Lib.hid (own_belowR OY1.out b2)
          have KN2 := Lib.hid (newC 2 1 (by omega) (by omega) A2 c2 y2 (HR2.out.below b2 (Nat.le_refl _) b2.size) HC2.out.1 HC2.out.2)
          have SY2 : Hid (base2 ≤ y2.heap.size) := Lib.hid (Nat.le_trans SY1.out b2.size)
          clear b2
          go_wp2_with fail
          refine KN2.out.mono ?_
          rintro e y3 ⟨bb, mm, lbb, rfl, hp, hb, hm, hl, b3⟩
          have BY3 := Lib.hid (BY2.out.trans (b3.mono SY2.out))
          have OY3 := Lib.hid (own_belowR OY2.out b3)
          have HPY : Hid (RP y3 bb mm lbb (newD 0 1 (mem 2) (pr 1) [])) := Lib.hid hp
          have HBB : Hid (base2 ≤ bb ∧ base2 ≤ mm ∧ ∀ j, lbb = some j → base2 ≤ j) := Lib.hid ⟨Nat.le_trans SY2.out hb, Nat.le_trans SY2.out hm, fun j hj => Nat.le_trans SY2.out (hl j hj)⟩
          have SY3 : Hid (base2 ≤ y3.heap.size) := Lib.hid (Nat.le_trans SY2.out b3.size)
          clear hp hb hm hl b3
          obtain ⟨Av, cv, rfl, -, -, -⟩ := (RowO.of_owns O.out).slice
          have HEN : Hid (EnO y3 (.slice Av n cv) (List.replicate n (killE 3))) := Lib.hid ⟨by rw [List.length_replicate]; exact RowO.of_owns OY3.out, repl_ok n y3⟩
          have KT : Hid (Calls Try.prog 20 #[.pointer (some ⟨bb, 0, none⟩), .int .i64 0, .slice Av n cv, .int .i64 co] y3 fun e W' => e = .returned (.bool (decide (n ≤ 400))) ∧ After y3 W' bb mm lbb (Rd.take (newD 0 1 (mem 2) (pr 1) []) 0 ((List.replicate n (killE 3)).map Le.v) co)) := Lib.hid (by
            have := rTake y3 bb mm lbb _ HPY.out (by rw [lead_mem (by omega)]; rfl) 0 co (.slice Av n cv) _ HEN.out (by rw [List.length_replicate]; have := HN1.out; omega) (by omega)
            rw [List.length_replicate] at this
            have e : Rd.takeOk (newD 0 1 (mem 2) (pr 1) []) 0 n = decide (n ≤ 400) := by
              simp [Rd.takeOk, newD]
              try omega
            rw [e] at this
            exact this)
          go_wp2_with fail
          refine KT.out.mono ?_
          rintro e y4 ⟨rfl, lb4, hp4, kp4, -⟩
          have BY4 := Lib.hid (BY3.out.trans (kp4.belowR SY3.out HBB.out.1 HBB.out.2.1 HBB.out.2.2))
          have HP4 := Lib.hid hp4
          have HPH := Lib.hid (RR.out.below (HB2.out.symm ▸ BY4.out))
          have BF : Hid (Below base W y4) := Lib.hid (BB.out.trans (BY4.out.mono (by have := SU.out; have := HB2.out; omega)))
          clear hp4 kp4
          have KCH : Hid (Calls Try.prog 13 #[.pointer (some ⟨b, 0, none⟩)] y4 fun e W' => e = .returned (.int .i64 (min n 400 : Nat)) ∧ y4 = W') := Lib.hid (by have := rCommit y4 b m lb d HPH.out; rwa [HI.out.com] at this)
          have qmin4 : ∀ (W : World) (ty : TypeId), (Builtin.min_ #[3, 3] ty #[.int .i64 n, .int .i64 400]).run Try.prog W = .ok (.int .i64 (min n 400 : Nat)) W := fun W ty => by go_simp; try omega
          by_cases h400 : n ≤ 400
          · have hdn : decide (n ≤ 400) = true := decide_eq_true h400
            have hdi : decide ((n : Int) ≤ 400) = true := decide_eq_true (by omega)
            have HD4 : Hid (Rd.take (newD 0 1 (mem 2) (pr 1) []) 0 ((List.replicate n (killE 3)).map Le.v) co = Rd.heard (Rd.more (newD 0 1 (mem 2) (pr 1) []) ((List.replicate n (killE 3)).map Le.v)) co) := Lib.hid (by
              have e : Rd.takeOk (newD 0 1 (mem 2) (pr 1) []) 0 ((List.replicate n (killE 3)).map Le.v).length = true := by
                simp [Rd.takeOk, newD]
                try omega
              unfold Rd.take
              rw [if_pos e]
              congr 1
              unfold Rd.takeY
              rw [if_pos (by simp [newD]; have := HN1.out; omega)]
              simp [newD])
            have HL4 : Hid (Calls Try.prog 21 #[.pointer (some ⟨bb, 0, none⟩)] y4 fun e W' => e = .returned (.int .i64 n) ∧ y4 = W') := Lib.hid (by
              have := rLen y4 bb mm lb4 _ HP4.out
              rw [HD4.out] at this
              have e : (Rd.heard (Rd.more (newD 0 1 (mem 2) (pr 1) []) ((List.replicate n (killE 3)).map Le.v)) co).L.length = n := by simp [Rd.heard, Rd.more, newD]
              rwa [e] at this)
            have HC4 : Hid (Calls Try.prog 13 #[.pointer (some ⟨bb, 0, none⟩)] y4 fun e W' => e = .returned (.int .i64 (min co.toNat n : Nat)) ∧ y4 = W') := Lib.hid (by
              have := rCommit y4 bb mm lb4 _ HP4.out
              rw [HD4.out] at this
              have e : (Rd.heard (Rd.more (newD 0 1 (mem 2) (pr 1) []) ((List.replicate n (killE 3)).map Le.v)) co).commit = min co.toNat n := by simp [Rd.heard, Rd.more, newD]
              rwa [e] at this)
            have qm1 : ∀ (W : World) (ty : TypeId), (Builtin.min_ #[3, 3] ty #[.int .i64 n, .int .i64 co]).run Try.prog W = .ok (.int .i64 (min (n : Int) co)) W := fun W ty => by go_simp; try omega
            have qm2 : ∀ (W : World) (ty : TypeId), (Builtin.max_ #[3, 3] ty #[.int .i64 0, .int .i64 (min (n : Int) co)]).run Try.prog W = .ok (.int .i64 (min co.toNat n : Nat)) W := fun W ty => by go_simp; try omega
            clear h400
            rw [hdn]
            go_wp2_with (first
              | (go_at_call 13; first | (with_reducible refine KCH.out.mono ?_) | (with_reducible refine HC4.out.mono ?_)
                 rintro e z ⟨rfl, rfl⟩)
              | (go_at_call 21; refine HL4.out.mono ?_; rintro e z ⟨rfl, rfl⟩)
              | (go_at_call 7; refine (KKN.out _).mono ?_; rintro e z ⟨rfl, bz⟩; have BZ := Lib.hid (BF.out.trans (bz.mono (by have := BF.out.size; have := HBS.out; omega))); clear bz)
              | fail)
            go_ret
            exact ⟨rfl, BZ.out⟩
          · have hdn : decide (n ≤ 400) = false := decide_eq_false h400
            have hdi : decide ((n : Int) ≤ 400) = false := decide_eq_false (by omega)
            have HD4 : Hid (Rd.take (newD 0 1 (mem 2) (pr 1) []) 0 ((List.replicate n (killE 3)).map Le.v) co = newD 0 1 (mem 2) (pr 1) []) := Lib.hid (by
              have e : ¬ Rd.takeOk (newD 0 1 (mem 2) (pr 1) []) 0 ((List.replicate n (killE 3)).map Le.v).length = true := by
                simp [Rd.takeOk, newD]
                try omega
              unfold Rd.take
              rw [if_neg e])
            have HL4 : Hid (Calls Try.prog 21 #[.pointer (some ⟨bb, 0, none⟩)] y4 fun e W' => e = .returned (.int .i64 0) ∧ y4 = W') := Lib.hid (by
              have := rLen y4 bb mm lb4 _ HP4.out
              rw [HD4.out] at this
              exact this)
            clear h400
            rw [hdn]
            go_wp2_with (first
              | (go_at_call 13; with_reducible refine KCH.out.mono ?_; rintro e z ⟨rfl, rfl⟩)
              | (go_at_call 21; refine HL4.out.mono ?_; rintro e z ⟨rfl, rfl⟩)
              | (go_at_call 7; refine (KKN.out _).mono ?_; rintro e z ⟨rfl, bz⟩; have BZ := Lib.hid (BF.out.trans (bz.mono (by have := BF.out.size; have := HBS.out; omega))); clear bz)
              | fail)
            go_ret
            exact ⟨rfl, BZ.out⟩

end Go.Proofs.Ytjdmjiikpnlkjaa
