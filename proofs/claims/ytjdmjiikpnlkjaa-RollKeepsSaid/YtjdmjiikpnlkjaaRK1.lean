/-
  For every number of replicas, every list of steps before and behind the shut of a majority: the law RollKeeps answers true: the longest tail of the shut has all that anybody has committed, then and later; no condition; what was handed in reads as before.
-/
import Derived.Test.YtjdmjiikpnlkjaaRos
import Derived.Test.YtjdmjiikpnlkjaaRou
import Derived.Test.YtjdmjiikpnlkjaaRom
import Derived.Test.YtjdmjiikpnlkjaaRoar
import Derived.Deep.MidRow
import Derived.LoopN
import Derived.OwnWalk
import Derived.WalkKit
import Derived.ProofKit
import Derived.OpenShut
import Derived.ShutString
import Derived.ChangeOld
import Derived.Below
import Derived.HandedShaped
namespace Go.Proofs.Ytjdmjiikpnlkjaa
section
set_option linter.unusedSimpArgs false
set_option linter.unusedVariables false
open Go.RowKit Go.Maps Go.Sort
open V (P2)

/-- a row of bools. -/
def rowB (n : Nat) (S : Nat → Bool) : Array Value := ((List.range n).map fun i => Value.bool (S i)).toArray
theorem rowB_get {n : Nat} (S : Nat → Bool) {j : Nat} (h : j < n) : (rowB n S)[j]? = some (.bool (S j)) := by
  simp [rowB, h]
theorem rowB_size (n : Nat) (S : Nat → Bool) : (rowB n S).size = n := by simp [rowB]
theorem rowB_set {n : Nat} (S : Nat → Bool) {j : Nat} (h : j < n) : (rowB n S).setIfInBounds j (.bool true) = rowB n (up S j true) := by
  apply Array.ext
  · simp [rowB]
  · intro i h1 h2
    have h2' : i < n := by simpa [rowB] using h2
    rw [Array.getElem_setIfInBounds (by rw [rowB_size]; exact h2')]
    by_cases e : j = i
    · subst e; simp [rowB, up_same]
    · rw [if_neg e]
      simp [rowB, up_ne S true (Ne.symm e)]
theorem rowB_made (n : Nat) : madeCells #[.bool false] n = rowB n fun _ => false := by
  apply Array.ext
  · simp [rowB, madeCells]
  · intro i h1 h2
    simp [rowB, madeCells, Nat.mod_one]
theorem many_succ (n : Nat) (p : Nat → Bool) : many (n + 1) p = many n p + (if p n = true then 1 else 0) := by
  unfold many
  rw [List.range_succ, List.filter_append, List.length_append]
  by_cases h : p n = true <;> simp [h]
theorem many_congr {n : Nat} {p q : Nat → Bool} (h : ∀ i, i < n → p i = q i) : many n p = many n q :=
  Nat.le_antisymm (many_mono fun i hi e => by rw [← h i hi]; exact e) (many_mono fun i hi e => by rw [h i hi]; exact e)
theorem many_up {n x : Nat} {S : Nat → Bool} (hx : x < n) (h : S x = false) : many n (up S x true) = many n S + 1 := by
  induction n with
  | zero => omega
  | succ n ih =>
    rw [many_succ, many_succ]
    by_cases e : x = n
    · subst e
      rw [many_congr (q := S) (fun i hi => up_ne _ _ (by omega)), up_same, h]
      simp
    · rw [ih (by omega), up_ne _ _ (Ne.symm e)]
      omega
theorem many_none (n : Nat) : many n (fun _ => false) = 0 := by
  unfold many
  rw [List.filter_eq_nil_iff.2 (fun _ _ => by simp)]
  rfl
theorem many_le (n : Nat) (p : Nat → Bool) : many n p ≤ n := by
  unfold many
  exact Nat.le_trans (List.length_filter_le _ _) (by simp)
theorem boolI : (Try.prog.info? 4).map (fun i => (i.zero, i.size, i.bytes)) = some (some (.bool false), 1, 1) := by kernel_rfl
theorem wpList_makeB (w : World) {ops : Array Oper} {rest : List Oper} {o : Oper} {a : Act} {Q : Exit → Act → World → Prop} (hg : o.guard = none) (l c : Operand) (hop : o.op = Op.makeSlice 31 l c) (n : Nat) (hl : a.eval l = .int .i64 (n : Nat)) (hc : a.eval c = .int .i64 (n : Nat)) (hn : n ≤ 5)
    (hK : ∀ w', w'.heap[w.heap.size]? = some (.cells (rowB n fun _ => false) 4 (0, 0)) → Below w.heap.size w w' → wpList Try.prog ops Q rest (a.put o.dst (.slice (some ⟨w.heap.size, 0, none⟩) n n)) w') : wpList Try.prog ops Q (o :: rest) a w := by
  refine wpList_plain hg fun K hK' => ?_
  obtain ⟨i, hi, hz0, hz1, hz2⟩ := info_parts boolI
  have hb : (i.bytes : Int) * (n : Int) ≤ 281474976710656 := by rw [hz2]; omega
  have hrun := run_make (P := Try.prog) w 31 4 i (.bool false) Try.underlying31 hi hz0 .i64 .i64 n n (by omega) (Int.le_refl _) hb (by omega)
  simp only [Int.toNat_natCast, hz1, Nat.mul_one, Value.cells] at hrun
  rw [rowB_made] at hrun
  unfold Oper.wp
  simp [execOp, hop, hl, hc, hrun, Result.andThen]
  exact hK' _ _ (hK _ (heap_alloc_new _ _) ((Below.refl _ _).alloc (Nat.le_refl _) _))
theorem up_self {α : Type} (R : Nat → α) (x : Nat) : up R x (R x) = R := by
  funext i
  unfold up
  split
  · rename_i h; rw [h]
  · rfl
set_option maxRecDepth 100000 in
set_option maxHeartbeats 8000000 in
theorem walkRK (z : Int) (A0 : Option Addr) (L : List St4) (c0 : Nat) (A1 : Option Addr) (Y : List Int) (c1 : Nat) (A2 : Option Addr) (M : List St4) (c2 : Nat) (W : World) (lc0 : L.length ≤ c0 ∧ c0 ≤ maxLen) (lc1 : Y.length ≤ c1 ∧ c1 ≤ maxLen) (lc2 : M.length ≤ c2 ∧ c2 ≤ maxLen) (h0 : arg_stepsQ W A0 L) (h1 : arg_intsR W A1 Y) (h2 : arg_stepsQ W A2 M) :
    Calls Try.prog 4 #[.int .i64 z, .slice A0 L.length c0, .slice A1 Y.length c1, .slice A2 M.length c2] W fun e W' => e = .returned (.bool true) ∧ Below W.heap.size W W' := by
  have KK := Lib.hid (fun w => knowsR w)
  have I0 := Lib.hid (fun (X : World) (hb : Below W.heap.size W X) (i : Nat) (a : St4) (ha : L[i]? = some a) => steps_at h0 hb ha)
  have I1 := Lib.hid (fun (X : World) (hb : Below W.heap.size W X) (i : Nat) (a : Int) (ha : Y[i]? = some a) => ints_at h1 hb ha)
  have I2 := Lib.hid (fun (X : World) (hb : Below W.heap.size W X) (i : Nat) (a : St4) (ha : M[i]? = some a) => steps_at h2 hb ha)
  have LC := Lib.hid (show (L.length ≤ c0 ∧ c0 ≤ maxLen) ∧ (Y.length ≤ c1 ∧ c1 ≤ maxLen) ∧ (M.length ≤ c2 ∧ c2 ≤ maxLen) from ⟨lc0, lc1, lc2⟩)
  clear h0 h1 h2 lc0 lc1 lc2
  obtain ⟨n, hn⟩ : ∃ n, L.length = n := ⟨_, rfl⟩
  have HN := Lib.hid hn
  rw [hn]
  clear hn
  obtain ⟨y, hy⟩ : ∃ n, Y.length = n := ⟨_, rfl⟩
  have HY := Lib.hid hy
  rw [hy]
  clear hy
  obtain ⟨m, hm⟩ : ∃ n, M.length = n := ⟨_, rfl⟩
  have HM := Lib.hid hm
  rw [hm]
  clear hm
  obtain ⟨base, hb⟩ : ∃ z, W.heap.size = z := ⟨_, rfl⟩
  have HBS := Lib.hid hb
  rw [hb] at I0 I1 I2 ⊢
  have B0 : Hid (Below base W W) := Lib.hid (hb ▸ Below.refl _ _)
  clear hb
  by_cases hL : 100 < n
  · skip
    have g1 : (100 : Int) < (n : Int) := by omega
    go_enter Try.func4, Try.ntmps4
    go_wp2_with fail
    refine (KK.out _).mono ?_
    rintro e W2 ⟨rfl, b2⟩
    have B2 := Lib.hid (HBS.out ▸ b2 : Below base W W2)
    clear b2
    go_wp2
    go_ret
    exact ⟨rfl, B2.out⟩
  by_cases hM : 100 < m
  · skip
    have g1 : ¬ (100 : Int) < (n : Int) := by omega
    have g2 : (100 : Int) < (m : Int) := by omega
    go_enter Try.func4, Try.ntmps4
    go_wp2_with fail
    refine (KK.out _).mono ?_
    rintro e W2 ⟨rfl, b2⟩
    have B2 := Lib.hid (HBS.out ▸ b2 : Below base W W2)
    clear b2
    go_wp2
    go_ret
    exact ⟨rfl, B2.out⟩
  by_cases hY : 20 < y
  · skip
    have g1 : ¬ (100 : Int) < (n : Int) := by omega
    have g2 : ¬ (100 : Int) < (m : Int) := by omega
    have g3 : (20 : Int) < (y : Int) := by omega
    go_enter Try.func4, Try.ntmps4
    go_wp2_with fail
    refine (KK.out _).mono ?_
    rintro e W2 ⟨rfl, b2⟩
    have B2 := Lib.hid (HBS.out ▸ b2 : Below base W W2)
    clear b2
    go_wp2
    go_ret
    exact ⟨rfl, B2.out⟩
  have g1 : ¬ (100 : Int) < (n : Int) := by omega
  have g2 : ¬ (100 : Int) < (m : Int) := by omega
  have g3 : ¬ (20 : Int) < (y : Int) := by omega
  go_enter Try.func4, Try.ntmps4
  go_wp2_with fail
  refine (KK.out _).mono ?_
  rintro e W1 ⟨rfl, b1⟩
  have B1 := Lib.hid (HBS.out ▸ b1 : Below base W W1)
  have KM := Lib.hid (madeF z W1)
  have SM : Hid (n ≤ 100 ∧ m ≤ 100 ∧ y ≤ 20) := Lib.hid (by omega)
  clear b1 hL hM hY
  go_wp2_with fail
  refine KM.out.mono ?_
  rintro e W2 ⟨a0, R0, rfl, hF0, hI0, hk0, b2⟩
  obtain ⟨bs, hbs⟩ : ∃ q, W1.heap.size = q := ⟨_, rfl⟩
  rw [hbs] at hF0 b2
  obtain ⟨bf, hbf⟩ : ∃ q, a0.bf = q := ⟨_, rfl⟩
  have HBF := Lib.hid hbf
  rw [hbf]
  have HF0 := Lib.hid hF0
  have HI0 := Lib.hid hI0
  have HK0 := Lib.hid hk0
  have SB : Hid (base ≤ bs) := Lib.hid (by have := B1.out.size; have := HBS.out; omega)
  have S2 : Hid (bs ≤ W2.heap.size) := Lib.hid (hbs ▸ b2.size)
  have B2 := Lib.hid (B1.out.trans (b2.mono SB.out))
  clear b2 hbs hbf hF0 hI0 hk0 KM
  go_wp2_with fail
  go_loopw [10] (fun i wx => ∃ (k : Nat) (a : Fa) (R : Nat → Rd) (F : List Tl) (c : Nat), i = .int .i64 k ∧ k ≤ n ∧ Hid (FM bs wx a R F c) ∧ Hid (a.bf = bf) ∧ Hid (Inv a.n R (F.map Tl.p)) ∧ Hid (∀ i, i < a.n → (R i).k ≤ k) ∧ Hid (c ≤ k) ∧ Hid (Below base W wx) ∧ Hid (bs ≤ wx.heap.size)) (fun i _ => n - (intOf i).toNat)
  case atStart => exact ⟨0, a0, R0, [], 0, rfl, Nat.zero_le _, HF0, HBF, HI0, Lib.hid (fun i hi => Nat.le_of_eq (HK0.out i hi)), Lib.hid (Nat.le_refl _), B2, S2⟩
  clear HF0 HI0 HK0 HBF B2 S2
  case round =>
    obtain ⟨k, a, R, F, c, rfl, hk, FF, EB, II, KQ, CQ, BB, SS⟩ := hrel
    by_cases hlt : k < n
    · as_aux_lemma =>
      skip
      have l1 : (k : Int) < (n : Int) := by omega
      have hkL : k < L.length := by have := HN.out; omega
      have hx := List.getElem?_eq_getElem hkL
      obtain ⟨ab, ao, hA, -, cc⟩ := I0.out wr BB.out k _ hx
      obtain ⟨s, hs⟩ : ∃ s, L[k] = s := ⟨_, rfl⟩
      rw [hs] at cc
      obtain ⟨kd, X, N, I⟩ := s
      have KB := Lib.hid (show k ≤ 100 by have := SM.out; omega)
      have HJ := Lib.hid hlt
      have HA := Lib.hid hA
      subst hA
      have hcc : (n : Int) ≤ (c0 : Int) := by have := LC.out.1.1; have := HN.out; omega
      unfold St4.cs at cc
      have c0_ : wr.cell? ⟨ab, ao + k * 4, none⟩ = _ := cc 0 _ rfl
      have c1_ : wr.cell? ⟨ab, ao + k * 4 + 1, none⟩ = _ := cc 1 _ rfl
      have c2_ : wr.cell? ⟨ab, ao + k * 4 + 2, none⟩ = _ := cc 2 _ rfl
      have c3_ : wr.cell? ⟨ab, ao + k * 4 + 3, none⟩ = _ := cc 3 _ rfl
      clear cc hx hs hk hlt
      have KS : Hid (Calls Try.prog 9 #[.pointer (some ⟨bf, 0, none⟩), .agg #[.int .i64 kd, .int .i64 X, .int .i64 N, .int .i64 I]] wr fun e W' => e = .returned (.tuple #[]) ∧ StepR bs wr W' a R c) := Lib.hid (by
        rw [← EB.out]
        exact stepC bs wr a R F c FF.out II.out kd X N I (fun i hi => by have := KQ.out i hi; have := KB.out; have := SM.out; omega) (by have := CQ.out; have := KB.out; have := SM.out; omega) SS.out)
      go_wp2_with fail
      refine KS.out.mono ?_
      rintro e W3 ⟨rfl, a', R', F', c', hF', hB', hn', hI', hH', hc', b'⟩
      have B3 := Lib.hid (BB.out.trans (b'.mono SB.out))
      have S3 : Hid (bs ≤ W3.heap.size) := Lib.hid (Nat.le_trans SS.out b'.size)
      have F3 := Lib.hid hF'
      have E3 := Lib.hid (hB'.trans EB.out)
      have I3 : Hid (Inv a'.n R' (F'.map Tl.p)) := Lib.hid (hn'.symm ▸ hI')
      have K3 : Hid (∀ i, i < a'.n → (R' i).k ≤ k + 1) := Lib.hid fun i hi => Nat.le_trans (hH' i (hn' ▸ hi)).2 (Nat.succ_le_succ (KQ.out i (hn' ▸ hi)))
      have C3 : Hid (c' ≤ k + 1) := Lib.hid (Nat.le_trans hc' (Nat.succ_le_succ CQ.out))
      clear b' hF' hB' hn' hI' hH' hc' c0_ c1_ c2_ c3_ KS
      go_wp2_with fail
      go_roundw
      case rel => exact ⟨k + 1, a', R', F', c', by have := KB.out; go_num, by have := HJ.out; omega, F3, E3, I3, K3, C3, B3, S3⟩
      case measure => have := HJ.out; have := KB.out; simp [intOf]; omega
    · obtain rfl : n = k := by omega
      have l1 : ¬ (n : Int) < (n : Int) := by omega
      clear hk hlt
      obtain ⟨u, hu⟩ : ∃ z : World, z = wr := ⟨_, rfl⟩
      subst hu
      obtain ⟨q, hq⟩ : ∃ q, a.n = q := ⟨_, rfl⟩
      obtain ⟨gr, ro, rc, hvr, hrc, hrm⟩ := FF.out.rs II.out.pos
      have k0 : u.cell? ⟨bf, 0, none⟩ = some (.slice (some ⟨gr, ro, none⟩) q rc) := by
        have h := cell_of FF.out.fld 0 a.vr rfl
        rw [hvr, EB.out, hq] at h
        exact h
      have Q5 : Hid (0 < q ∧ q ≤ 5) := Lib.hid (by have := II.out.pos; have := II.out.five; omega)
      have EQ := Lib.hid hq
      clear hvr hrc hrm hq
      go_wp2_with (at_make; refine wpList_makeB _ rfl _ _ rfl q rfl rfl Q5.out.2 ?_)
      intro u1 hg1 b1
      obtain ⟨g, hg⟩ : ∃ z, u.heap.size = z := ⟨_, rfl⟩
      rw [hg] at hg1 b1 ⊢
      have HG := Lib.hid hg
      have G1 := Lib.hid hg1
      have BG1 := Lib.hid b1
      clear hg hg1 b1 k0
      go_wp2_with fail
      go_loopw [12, 13] (fun co i wx => ∃ (j : Nat) (S : Nat → Bool), i = .int .i64 j ∧ co = .int .i64 (many q S : Nat) ∧ j ≤ y ∧ Hid (wx.heap[g]? = some (.cells (rowB q S) 4 (0, 0))) ∧ Hid (Below g u wx)) (fun _ i _ => y - (intOf i).toNat)
      case atStart => exact ⟨0, fun _ => false, rfl, by rw [many_none]; rfl, Nat.zero_le _, G1, BG1⟩
      clear G1 BG1
      case round =>
        obtain ⟨j, S, rfl, rfl, hj, GS, BG⟩ := hrel
        by_cases hlt : j < y
        · as_aux_lemma =>
          skip
          have l2 : (j : Int) < (y : Int) := by omega
          have hjY : j < Y.length := by have := HY.out; omega
          have hx := List.getElem?_eq_getElem hjY
          have BW : Hid (Below base W wr) := Lib.hid (BB.out.trans (BG.out.mono (by have := HG.out; have := BB.out.size; have := HBS.out; omega)))
          obtain ⟨ab, ao, hA, cc⟩ := I1.out wr BW.out j _ hx
          obtain ⟨s, hs⟩ : ∃ s, Y[j] = s := ⟨_, rfl⟩
          rw [hs] at cc
          have KB := Lib.hid (show j ≤ 20 by have := SM.out; omega)
          have HJ := Lib.hid hlt
          have HA := Lib.hid hA
          subst hA
          have hcc : (y : Int) ≤ (c1 : Int) := by have := LC.out.2.1.1; have := HY.out; omega
          have h0n := Q5.out.1
          have h5 := Q5.out.2
          obtain ⟨r1, x, hr1, hra, hrb, hx2, hxn⟩ := rem_in s q h0n
          have hw1 : IntKind.i64.wrap r1 = r1 := wrapI (by omega) (by omega)
          have hw2 : IntKind.i64.wrap (r1 + (q : Int)) = r1 + (q : Int) := wrapI (by omega) (by omega)
          have hw3 : IntKind.i64.wrap (x : Int) = (x : Int) := wrapI (by omega) (by omega)
          have hn0 : ¬ ((q : Int) = 0) := by omega
          have hxq : (x : Int) < (q : Int) := by omega
          have HX := Lib.hid hxn
          have cS := cell_of GS.out x _ (rowB_get S hxn)
          have z0 := frz_row x GS.out
          clear hx hs hlt hj hjY
          cases hS : S x with
          | true =>
            rw [hS] at cS
            go_wp2_with fail
            go_roundw
            case rel => exact ⟨j + 1, S, by have := KB.out; go_num, rfl, by have := HJ.out; omega, GS, BG⟩
            case measure => have := HJ.out; have := KB.out; simp [intOf]; omega
          | false =>
            rw [hS] at cS
            have MU := Lib.hid (many_up (n := q) HX.out hS)
            have ML := Lib.hid (many_le q S)
            obtain ⟨ct, hct⟩ : ∃ w, many q S = w := ⟨_, rfl⟩
            rw [hct] at MU ML ⊢
            have MB := Lib.hid (show ct ≤ 5 by have := ML.out; have := Q5.out; omega)
            have hcb : (ct : Int) ≤ 5 := by have := MB.out; omega
            clear hct
            have G2 : Hid ((wr.setCell ⟨g, x, none⟩ (.bool true)).heap[g]? = some (.cells (rowB q (up S x true)) 4 (0, 0))) := Lib.hid ((row_set (i := x) GS.out _).trans (by rw [rowB_set S HX.out]))
            have BG2 : Hid (Below g u (wr.setCell ⟨g, x, none⟩ (.bool true))) := Lib.hid (BG.out.trans ((KP.set (S := fun r => r = g) wr g x _ rfl).below (by have := BG.out.size; have := HG.out; omega) fun k hk => Nat.le_of_eq (Eq.symm hk)))
            go_wp2_with fail
            go_roundw
            case rel => exact ⟨j + 1, up S x true, by have := KB.out; go_num, by rw [MU.out]; have := MB.out; go_num, by have := HJ.out; omega, G2, BG2⟩
            case measure => have := HJ.out; have := KB.out; simp [intOf]; omega
        · obtain rfl : y = j := by omega
          have l2 : ¬ (y : Int) < (y : Int) := by omega
          clear hj hlt
          have FV := Lib.hid (FF.out.below (W' := wr) (by rw [HG.out]; exact BG.out))
          have BV : Hid (Below base W wr) := Lib.hid (BB.out.trans (BG.out.mono (by have := HG.out; have := BB.out.size; have := HBS.out; omega)))
          have SV : Hid (bs ≤ wr.heap.size) := Lib.hid (Nat.le_trans SS.out BG.out.size)
          have IV : Hid (Inv q R (F.map Tl.p)) := Lib.hid (EQ.out ▸ II.out)
          have KV : Hid (∀ i, i < q → (R i).k ≤ n) := Lib.hid (fun i hi => KQ.out i (by rw [EQ.out]; exact hi))
          obtain ⟨ct, hct⟩ : ∃ w, many q S = w := ⟨_, rfl⟩
          have HCT := Lib.hid hct
          rw [hct]
          have hcb : (ct : Int) ≤ 5 := by have := many_le q S; have := Q5.out; omega
          have hmw : IntKind.i64.wrap (2 * (ct : Int)) = 2 * (ct : Int) := wrapI (by omega) (by omega)
          clear hct FF BB SS II KQ BG HG
          by_cases hmj : 2 * ct ≤ q
          · have hmi : 2 * (ct : Int) ≤ (q : Int) := by omega
            have hmd : ¬ (q : Int) < 2 * (ct : Int) := by omega
            go_wp2_with fail
            go_ret
            exact ⟨rfl, BV.out⟩
          have hmi : ¬ 2 * (ct : Int) ≤ (q : Int) := by omega
          have hmd : (q : Int) < 2 * (ct : Int) := by omega
          have HMJ : Hid (q < 2 * many q S) := Lib.hid (by rw [HCT.out]; omega)
          go_wp2_with fail
          clear hmi hmd hmw hcb hmj HCT
          go_loopw [15, 16] (fun lgv i wx => ∃ (j : Nat) (a : Fa) (R : Nat → Rd) (lg : Nat), i = .int .i64 j ∧ lgv = .int .i64 lg ∧ j ≤ q ∧ Hid (FM bs wx a R F c) ∧ Hid (a.bf = bf) ∧ Hid (a.n = q) ∧ Hid (Inv q R (F.map Tl.p)) ∧ Hid (∀ i, i < q → (R i).k ≤ n) ∧ Hid (∀ i, i < j → S i = true → (R i).shut = true ∧ (R i).L.length ≤ lg) ∧ Hid (wx.heap[g]? = some (.cells (rowB q S) 4 (0, 0))) ∧ Hid (Below base W wx) ∧ Hid (bs ≤ wx.heap.size)) (fun _ i _ => q - (intOf i).toNat)
          case atStart => exact ⟨0, a, R, 0, rfl, rfl, Nat.zero_le _, FV, EB, EQ, IV, KV, Lib.hid (fun i hi => absurd hi (Nat.not_lt_zero _)), GS, BV, SV⟩
          clear FV EB EQ IV KV GS BV SV
          case round =>
            obtain ⟨j, a, R, lg, rfl, rfl, hj, FF, EB, EQ, II, KQ, AL, GS, BB, SS⟩ := hrel
            by_cases hlt : j < q
            · as_aux_lemma =>
              skip
              have l3 : (j : Int) < (q : Int) := by omega
              have HJ := Lib.hid hlt
              have hq5 : (q : Int) ≤ 5 := by have := Q5.out; omega
              have cS := cell_of GS.out j _ (rowB_get S hlt)
              cases hS : S j with
              | false =>
                rw [hS] at cS
                have AL2 : Hid (∀ i, i < j + 1 → S i = true → (R i).shut = true ∧ (R i).L.length ≤ lg) := Lib.hid fun i hi hs => by
                  by_cases e : i = j
                  · rw [e, hS] at hs
                    cases hs
                  · exact AL.out i (by omega) hs
                clear hS hlt hj
                go_wp2_with fail
                go_roundw
                case rel => exact ⟨j + 1, a, R, lg, by have := HJ.out; have := Q5.out; go_num, rfl, by have := HJ.out; omega, FF, EB, EQ, II, KQ, AL2, GS, BB, SS⟩
                case measure => have := HJ.out; have := Q5.out; simp [intOf]; omega
              | true =>
                rw [hS] at cS
                have HJN : Hid (j < a.n) := Lib.hid (by rw [EQ.out]; exact HJ.out)
                obtain ⟨gr, ro, rc, hvr, hrc, hrm⟩ := FF.out.rs (by have := HJN.out; omega)
                have HVR := Lib.hid hvr
                obtain ⟨bx, hbx⟩ : ∃ z, a.bs j = z := ⟨_, rfl⟩
                have HBX := Lib.hid hbx
                have hqr : (q : Int) ≤ (rc : Int) := by rw [EQ.out] at hrc; omega
                have k0 : wr.cell? ⟨bf, 0, none⟩ = some (.slice (some ⟨gr, ro, none⟩) q rc) := by
                  have h := cell_of FF.out.fld 0 a.vr rfl
                  rw [hvr, EB.out, EQ.out] at h
                  exact h
                have kp : wr.cell? ⟨gr, ro + j, none⟩ = some (.pointer (some ⟨bx, 0, none⟩)) := by
                  have h := FF.out.ptr hvr HJN.out
                  rwa [hbx] at h
                have KS := Lib.hid (HBX.out ▸ rShut wr (a.bs j) (a.ms j) (a.lbs j) (R j) (FF.out.rolls j HJN.out) : Calls Try.prog 11 #[.pointer (some ⟨bx, 0, none⟩)] wr fun e W' => e = .returned (.tuple #[]) ∧ RP W' bx (a.ms j) (a.lbs j) (R j).closed ∧ KP (fun j => j = bx) wr W')
                clear hS hlt hj hvr hbx hrc hrm
                go_wp2_with fail
                refine KS.out.mono ?_
                rintro e w1 ⟨rfl, hp1, kp1⟩
                have HP1 := Lib.hid hp1
                have kf : KP (FR (a.bs j) (a.ms j) (a.lbs j)) wr w1 := kp1.mono fun i e => .inl (e.trans HBX.out.symm)
                have F1 := Lib.hid (FF.out.roll HJN.out (a.lbs j) (R j).closed kf (by rw [HBX.out]; exact hp1) (.inl rfl) SS.out)
                have B1 := Lib.hid (BB.out.trans ((FF.out.belowR HJN.out kf SS.out).mono SB.out))
                have S1 : Hid (bs ≤ w1.heap.size) := Lib.hid (Nat.le_trans SS.out kp1.size)
                have I1' := Lib.hid (II.out.shut j HJ.out)
                have G1 : Hid (w1.heap[g]? = some (.cells (rowB q S) 4 (0, 0))) := Lib.hid ((kp1.block g (heap_lt GS.out) fun e => by
                  obtain ⟨w, -, hw⟩ := FF.out.rolls j HJN.out
                  have h2 := hw.blk
                  rw [HBX.out, ← e] at h2
                  exact absurd (heap_ty h2 GS.out) (by decide)).trans GS.out)
                obtain ⟨a1, ha1⟩ : ∃ z : Fa, { a with lbs := up a.lbs j (a.lbs j) } = z := ⟨_, rfl⟩
                have E1 : Hid (a1.bf = bf ∧ a1.n = q ∧ a1.vr = a.vr ∧ a1.bs = a.bs) := Lib.hid (by rw [← ha1]; exact ⟨EB.out, EQ.out, rfl, rfl⟩)
                rw [ha1] at F1
                have k0 : w1.cell? ⟨bf, 0, none⟩ = some (.slice (some ⟨gr, ro, none⟩) q rc) := by
                  have h := cell_of F1.out.fld 0 a1.vr rfl
                  rw [E1.out.2.2.1, HVR.out, E1.out.1, EQ.out] at h
                  exact h
                have kp : w1.cell? ⟨gr, ro + j, none⟩ = some (.pointer (some ⟨bx, 0, none⟩)) := by
                  have h := F1.out.ptr (i := j) (g := gr) (o := ro) (cp := rc) (by rw [E1.out.2.2.1, HVR.out, E1.out.2.1, EQ.out]) (by rw [E1.out.2.1]; exact HJ.out)
                  rwa [E1.out.2.2.2, HBX.out] at h
                have KT := Lib.hid (rTail w1 bx (a.ms j) (a.lbs j) (R j).closed HP1.out)
                have R1 : Hid (∀ i, i < q → ((up R j (R j).closed) i).k ≤ n) := Lib.hid fun i hi => by
                  by_cases e : i = j
                  · subst e
                    rw [up_same]
                    exact KQ.out i hi
                  · rw [up_ne _ _ e]
                    exact KQ.out i hi
                clear KS hp1 kp1 kf FF BB SS GS ha1 cS
                go_wp2_with fail
                refine KT.out.mono ?_
                rintro e w2 ⟨v, rfl, L', hL', hv, -, b2⟩
                obtain ⟨At, tc, rfl, -, -, -⟩ := RowO.slice hv.row
                have hlen : L'.length = (R j).L.length := by
                  have h := congrArg List.length hL'
                  have hb : (R j).closed.base = 0 := (II.out.M j HJ.out).2.2
                  rw [hb] at h
                  simpa [Rd.closed] using h
                rw [hlen]
                obtain ⟨le, hle⟩ : ∃ z, (R j).L.length = z := ⟨_, rfl⟩
                rw [hle]
                have F2 := Lib.hid (F1.out.below b2)
                have B2 := Lib.hid (B1.out.trans (b2.mono (Nat.le_trans SB.out S1.out)))
                have S2 : Hid (bs ≤ w2.heap.size) := Lib.hid (Nat.le_trans S1.out b2.size)
                have G2 : Hid (w2.heap[g]? = some (.cells (rowB q S) 4 (0, 0))) := Lib.hid ((b2.block g (heap_lt G1.out)).trans G1.out)
                have AL2 : Hid (∀ i, i < j + 1 → S i = true → ((up R j (R j).closed) i).shut = true ∧ ((up R j (R j).closed) i).L.length ≤ max lg le) := Lib.hid fun i hi hs => by
                  by_cases e : i = j
                  · subst e
                    rw [up_same]
                    exact ⟨rfl, by show (R i).L.length ≤ _; rw [hle]; omega⟩
                  · rw [up_ne _ _ e]
                    have h := AL.out i (by omega) hs
                    exact ⟨h.1, by omega⟩
                have E11 := Lib.hid E1.out.1
                have E12 := Lib.hid E1.out.2.1
                clear hL' hv b2 hlen hle KT F1 B1 S1 G1 HP1 k0 kp
                have q2 : ∀ (W : World) (ty : TypeId), (Builtin.max_ #[3, 3] ty #[.int .i64 lg, .int .i64 le]).run Try.prog W = .ok (.int .i64 (max lg le : Nat)) W := fun W ty => by go_simp; omega
                go_wp2_with (rw [q2])
                go_roundw
                case rel => exact ⟨j + 1, a1, _, max lg le, by have := HJ.out; have := Q5.out; go_num, rfl, by have := HJ.out; omega, F2, E11, E12, I1', R1, AL2, G2, B2, S2⟩
                case measure => have := HJ.out; have := Q5.out; simp [intOf]; omega
            · obtain rfl : q = j := by omega
              have l3 : ¬ (q : Int) < (q : Int) := by omega
              clear hj hlt
              have IA : Hid (Inv a.n R (F.map Tl.p)) := Lib.hid (EQ.out.symm ▸ II.out)
              have KA : Hid (∀ i, i < a.n → (R i).k ≤ n) := Lib.hid (fun i hi => KQ.out i (by rw [← EQ.out]; exact hi))
              go_wp2_with fail
              go_loopw [17] (fun i wx => ∃ (k : Nat) (a : Fa) (R : Nat → Rd) (F : List Tl) (c : Nat), i = .int .i64 k ∧ k ≤ m ∧ Hid (FM bs wx a R F c) ∧ Hid (a.bf = bf) ∧ Hid (a.n = q) ∧ Hid (Inv a.n R (F.map Tl.p)) ∧ Hid (∀ i, i < a.n → (R i).k ≤ n + k) ∧ Hid (c ≤ n + k) ∧ Hid (∀ i, i < q → S i = true → (R i).shut = true ∧ (R i).L.length ≤ lg) ∧ Hid (Below base W wx) ∧ Hid (bs ≤ wx.heap.size)) (fun i _ => m - (intOf i).toNat)
              case atStart => exact ⟨0, a, R, F, c, rfl, Nat.zero_le _, FF, EB, EQ, IA, KA, CQ, AL, BB, SS⟩
              clear FF EB EQ IA KA CQ AL BB SS II KQ GS
              case round =>
                obtain ⟨k, a, R, F, c, rfl, hk, FF, EB, EQ, II, KQ, CQ, AL, BB, SS⟩ := hrel
                by_cases hlt : k < m
                · as_aux_lemma =>
                  skip
                  have l1 : (k : Int) < (m : Int) := by omega
                  have hkL : k < M.length := by have := HM.out; omega
                  have hx := List.getElem?_eq_getElem hkL
                  obtain ⟨ab, ao, hA, -, cc⟩ := I2.out wr BB.out k _ hx
                  obtain ⟨s, hs⟩ : ∃ s, M[k] = s := ⟨_, rfl⟩
                  rw [hs] at cc
                  obtain ⟨kd, X, N, I⟩ := s
                  have KB := Lib.hid (show k ≤ 100 by have := SM.out; omega)
                  have HJ := Lib.hid hlt
                  have HA := Lib.hid hA
                  subst hA
                  have hcc : (m : Int) ≤ (c2 : Int) := by have := LC.out.2.2.1; have := HM.out; omega
                  unfold St4.cs at cc
                  have c0_ : wr.cell? ⟨ab, ao + k * 4, none⟩ = _ := cc 0 _ rfl
                  have c1_ : wr.cell? ⟨ab, ao + k * 4 + 1, none⟩ = _ := cc 1 _ rfl
                  have c2_ : wr.cell? ⟨ab, ao + k * 4 + 2, none⟩ = _ := cc 2 _ rfl
                  have c3_ : wr.cell? ⟨ab, ao + k * 4 + 3, none⟩ = _ := cc 3 _ rfl
                  clear cc hx hs hk hlt
                  have KS : Hid (Calls Try.prog 9 #[.pointer (some ⟨bf, 0, none⟩), .agg #[.int .i64 kd, .int .i64 X, .int .i64 N, .int .i64 I]] wr fun e W' => e = .returned (.tuple #[]) ∧ StepR bs wr W' a R c) := Lib.hid (by
                    rw [← EB.out]
                    exact stepC bs wr a R F c FF.out II.out kd X N I (fun i hi => by have := KQ.out i hi; have := KB.out; have := SM.out; omega) (by have := CQ.out; have := KB.out; have := SM.out; omega) SS.out)
                  go_wp2_with fail
                  refine KS.out.mono ?_
                  rintro e W3 ⟨rfl, a', R', F', c', hF', hB', hn', hI', hH', hc', b'⟩
                  have B3 := Lib.hid (BB.out.trans (b'.mono SB.out))
                  have S3 : Hid (bs ≤ W3.heap.size) := Lib.hid (Nat.le_trans SS.out b'.size)
                  have F3 := Lib.hid hF'
                  have E3 := Lib.hid (hB'.trans EB.out)
                  have I3 : Hid (Inv a'.n R' (F'.map Tl.p)) := Lib.hid (hn'.symm ▸ hI')
                  have K3 : Hid (∀ i, i < a'.n → (R' i).k ≤ n + k + 1) := Lib.hid fun i hi => Nat.le_trans (hH' i (hn' ▸ hi)).2 (Nat.succ_le_succ (KQ.out i (hn' ▸ hi)))
                  have C3 : Hid (c' ≤ n + k + 1) := Lib.hid (Nat.le_trans hc' (Nat.succ_le_succ CQ.out))
                  have N3 := Lib.hid (hn'.trans EQ.out)
                  have A3 : Hid (∀ i, i < q → S i = true → (R' i).shut = true ∧ (R' i).L.length ≤ lg) := Lib.hid fun i hi hs => by
                    have h := AL.out i hi hs
                    have h2 := (hH' i (by rw [EQ.out]; exact hi)).1 h.1
                    exact ⟨h2.1, by rw [h2.2]; exact h.2⟩
                  clear b' hF' hB' hn' hI' hH' hc' c0_ c1_ c2_ c3_ KS
                  go_wp2_with fail
                  go_roundw
                  case rel => exact ⟨k + 1, a', R', F', c', by have := KB.out; go_num, by have := HJ.out; omega, F3, E3, N3, I3, K3, C3, A3, B3, S3⟩
                  case measure => have := HJ.out; have := KB.out; simp [intOf]; omega
                · obtain rfl : m = k := by omega
                  have l4 : ¬ (m : Int) < (m : Int) := by omega
                  clear hk hlt
                  obtain ⟨u2, hu2⟩ : ∃ z : World, z = wr := ⟨_, rfl⟩
                  subst hu2
                  obtain ⟨gr, ro, rc, hvr, hrc, hrm⟩ := FF.out.rs II.out.pos
                  have HVR := Lib.hid hvr
                  have k0 : u2.cell? ⟨bf, 0, none⟩ = some (.slice (some ⟨gr, ro, none⟩) q rc) := by
                    have h := cell_of FF.out.fld 0 a.vr rfl
                    rw [hvr, EB.out, EQ.out] at h
                    exact h
                  have hqr : (q : Int) ≤ (rc : Int) := by rw [EQ.out] at hrc; omega
                  have hq5 : (q : Int) ≤ 5 := by have := Q5.out; omega
                  clear hvr hrc hrm
                  go_wp2_with fail
                  go_loopw [18] (fun i wx => ∃ (j : Nat), i = .int .i64 j ∧ j ≤ q ∧ wx = u2) (fun i _ => q - (intOf i).toNat)
                  case atStart => exact ⟨0, rfl, Nat.zero_le _, rfl⟩
                  case round =>
                    obtain ⟨j, rfl, hj, rfl⟩ := hrel
                    by_cases hlt : j < q
                    · as_aux_lemma =>
                      skip
                      have l5 : (j : Int) < (q : Int) := by omega
                      have HJ := Lib.hid hlt
                      have HJN : Hid (j < a.n) := Lib.hid (by rw [EQ.out]; exact HJ.out)
                      obtain ⟨bx, hbx⟩ : ∃ z, a.bs j = z := ⟨_, rfl⟩
                      have kp : wr.cell? ⟨gr, ro + j, none⟩ = some (.pointer (some ⟨bx, 0, none⟩)) := by
                        have h := FF.out.ptr HVR.out HJN.out
                        rwa [hbx] at h
                      obtain ⟨cm, hcm⟩ : ∃ z, (R j).commit = z := ⟨_, rfl⟩
                      have KC := Lib.hid (hcm ▸ hbx ▸ rCommit wr (a.bs j) (a.ms j) (a.lbs j) (R j) (FF.out.rolls j HJN.out) : Calls Try.prog 13 #[.pointer (some ⟨bx, 0, none⟩)] wr fun e W' => e = .returned (.int .i64 cm) ∧ wr = W')
                      have hno : ¬ (lg : Int) < (cm : Int) := by
                        have h := II.out.keeps S lg (by rw [EQ.out]; exact HMJ.out) (fun i hi hs => (AL.out i (by rw [← EQ.out]; exact hi) hs).2) j HJN.out
                        rw [hcm] at h
                        omega
                      have hno2 : (cm : Int) ≤ (lg : Int) := by omega
                      clear hbx hcm hlt hj
                      go_wp2_with fail
                      refine KC.out.mono ?_
                      rintro e z ⟨rfl, rfl⟩
                      go_wp2_with fail
                      go_roundw
                      case rel => exact ⟨j + 1, by have := HJ.out; have := Q5.out; go_num, by have := HJ.out; omega, by first | trivial | rfl⟩
                      case measure => have := HJ.out; have := Q5.out; simp [intOf]; omega
                    · obtain rfl : q = j := by omega
                      have l5 : ¬ (q : Int) < (q : Int) := by omega
                      have KR : Hid (Calls Try.prog 10 #[.pointer (some ⟨bf, 0, none⟩)] wr fun e W' => e = .returned (.bool true) ∧ Below wr.heap.size wr W') := Lib.hid (by
                        rw [← EB.out]
                        exact rightC bs wr a R F c FF.out _ II.out)
                      clear hj hlt
                      go_wp2_with fail
                      refine KR.out.mono ?_
                      rintro e W4 ⟨rfl, b4⟩
                      have B4 := Lib.hid (BB.out.trans (b4.mono (Nat.le_trans SB.out SS.out)))
                      clear b4 KR
                      go_wp2
                      go_ret
                      exact ⟨rfl, B4.out⟩
end

section
set_option linter.unusedSimpArgs false
set_option linter.unusedVariables false
open Go.ChangeShapes Go.WideShapes Go.ChangeAt Go.RowKit

theorem rollKeeps_own : ownKnob Try.prog.godebug = none := by kernel_rfl
theorem rollKeeps_laidOut : laidOutB Try.prog = true := by kernel_rfl

set_option maxRecDepth 100000 in
theorem rollKeeps_lifted (os : Os) (started : os.Started) (H : Type) (enc : TypeId × Value → H) :
    ReturnsInHanded {} Try.checked os 4 .any (Rows.rollKeepsSpec.pre6 enc Try.prog Try.f4 Rows.rollKeepsRow.domain false) (Rows.rollKeepsSpec.post enc Try.prog Try.f4 false true false false) := by
  refine returnsInHanded_of_change_shaped (C := Try.checked) rollKeeps_own started (by kernel_rfl) Try.func4
    (ChangeSpec.witness6 (enc := enc) (C := Try.checked) false ⟨#[], #[.int .i64 0, .slice none 0 0, .slice none 0 0, .slice none 0 0], []⟩ 8 (by kernel_rfl) (by kernel_rfl) (by kernel_rfl) (by kernel_rfl)) ?_
  intro W base args ds gs before hval0 hW _ hsz _ _
  have hval : ∀ (j : Nat) t v, Try.f4.params[j]? = some t → args[j]? = some v → Value.okWide Try.prog W .any base t v := hval0
  have hW' := hW
  obtain ⟨p, q, hA0, hV, rfl, _, _⟩ := hW
  have hA : DataW.TrodAll enc Try.prog W 0 (fun _ => true) true Try.f4.params.toList args.toList ds p := hA0
  rw [Try.params4] at hA hval hsz
  obtain ⟨v0, vs0, d0, ds0, p0, q0, hargs, rfl, rfl, h0, r0⟩ := trodAll_cons hA
  obtain ⟨v1, vs1, d1, ds1, p1, q1, rfl, rfl, rfl, h1, r1⟩ := trodAll_cons r0
  obtain ⟨v2, vs2, d2, ds2, p2, q2, rfl, rfl, rfl, h2, r2⟩ := trodAll_cons r1
  obtain ⟨v3, vs3, d3, ds3, p3, q3, rfl, rfl, rfl, h3, r3⟩ := trodAll_cons r2
  obtain ⟨rfl, rfl, rfl⟩ := trodAll_nil r3
  obtain rfl : args = #[v0, v1, v2, v3] := by cases args; simp_all
  obtain ⟨rfl, rfl⟩ := trodVars_none hV
  have k0 := h0
  have lt0 : ∀ x ∈ p0, x.block < W.heap.size := by obtain ⟨m, hm⟩ := k0; exact DataW.trod_lt m _ _ _ hm
  obtain ⟨n0, rfl, w0⟩ := arg_intG Try.underlying3 (hval 0 3 v0 rfl rfl) h0
  have b0 := bounds_i64 w0
  have k1 := h1
  have lt1 : ∀ x ∈ p1, x.block < W.heap.size := by obtain ⟨m, hm⟩ := k1; exact DataW.trod_lt m _ _ _ hm
  obtain ⟨A1, L1, c1, rfl, lc1, cm1, hx1⟩ := arg_stepsL (hval 1 22 v1 rfl rfl) h1
  have k2 := h2
  have lt2 : ∀ x ∈ p2, x.block < W.heap.size := by obtain ⟨m, hm⟩ := k2; exact DataW.trod_lt m _ _ _ hm
  obtain ⟨A2, L2, c2, rfl, lc2, cm2, hx2⟩ := arg_intsL (hval 2 30 v2 rfl rfl) h2
  have k3 := h3
  have lt3 : ∀ x ∈ p3, x.block < W.heap.size := by obtain ⟨m, hm⟩ := k3; exact DataW.trod_lt m _ _ _ hm
  obtain ⟨A3, L3, c3, rfl, lc3, cm3, hx3⟩ := arg_stepsL (hval 3 22 v3 rfl rfl) h3
  clear hA0 hval0
  refine (walkRK n0 A1 L1 c1 A2 L2 c2 A3 L3 c3 W ⟨lc1, cm1⟩ ⟨lc2, cm2⟩ ⟨lc3, cm3⟩ hx1 hx2 hx3).mono fun e W' ⟨he, bel⟩ => ?_
  subst he
  exact ⟨_, rfl, _, _, _, [], _, [], hW', trodAll_mk1 (shut_bool Try.underlying4 _), (trodAll_cons_mk (Below.trod rollKeeps_laidOut (by kernel_rfl) (of_decide_eq_true (by kernel_rfl)) k0 bel lt0) (trodAll_cons_mk (Below.trod rollKeeps_laidOut (by kernel_rfl) (of_decide_eq_true (by kernel_rfl)) k1 bel lt1) (trodAll_cons_mk (Below.trod rollKeeps_laidOut (by kernel_rfl) (of_decide_eq_true (by kernel_rfl)) k2 bel lt2) (trodAll_cons_mk (Below.trod rollKeeps_laidOut (by kernel_rfl) (of_decide_eq_true (by kernel_rfl)) k3 bel lt3) trodAll_mk0)))), rfl, bel.frame _, fun h => by cases h⟩

theorem rollKeeps_over : Rows.rollKeepsRow.holds Try.pinned (OpenSpec.ofChange Rows.rollKeepsSpec) :=
  OpenClaim.holds_of_wide 4 Try.f4 rfl rfl rfl rfl rfl rfl rfl ⟨rfl, rfl, rfl, rfl, rfl⟩ rfl rfl rfl rfl rfl (by kernel_rfl) Try.func4 (by kernel_rfl)
    (of_decide_eq_true (by kernel_rfl)) (by unfold Func.isWrapper; first | (rw [if_pos (by decide +kernel)]; kernel_rfl) | (rw [if_neg (by decide +kernel)]; exact ⟨rfl, rfl⟩))
    (fun os started H enc _ => rollKeeps_lifted os started H enc)

/-- The statement. -/
theorem rollKeeps_holds : Rows.RollKeepsSaid := rollKeeps_over
#print axioms rollKeeps_holds
end
end Go.Proofs.Ytjdmjiikpnlkjaa
