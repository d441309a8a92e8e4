/-
  For every number of replicas and every list of steps: the law RollOne answers true: every replica of an order holds a beginning of one log; no condition; what was handed in reads as before.
-/
import Derived.Test.YtjdmjiikpnlkjaaRos
import Derived.Test.YtjdmjiikpnlkjaaRou
import Derived.Test.YtjdmjiikpnlkjaaRom
import Derived.Test.YtjdmjiikpnlkjaaRoar
import Derived.Deep.MidRow
import Derived.LoopN
import Derived.WalkKit
import Derived.ProofKit
import Derived.OpenShut
import Derived.ShutString
import Derived.ChangeOld
import Derived.Below
import Derived.HandedShaped
namespace Go.Proofs.Ytjdmjiikpnlkjaa
section
set_option linter.unusedSimpArgs false
set_option linter.unusedVariables false
open Go.RowKit Go.Maps Go.Sort
open V (P2)

set_option maxRecDepth 100000 in
set_option maxHeartbeats 2000000 in
theorem walkRO (z : Int) (A0 : Option Addr) (L : List St4) (c0 : Nat) (W : World) (lc0 : L.length ≤ c0 ∧ c0 ≤ maxLen) (h0 : arg_stepsQ W A0 L) :
    Calls Try.prog 3 #[.int .i64 z, .slice A0 L.length c0] W fun e W' => e = .returned (.bool true) ∧ Below W.heap.size W W' := by
  have KK := Lib.hid (fun w => knowsR w)
  have I0 := Lib.hid (fun (X : World) (hb : Below W.heap.size W X) (i : Nat) (a : St4) (ha : L[i]? = some a) => steps_at h0 hb ha)
  have LC := Lib.hid (show L.length ≤ c0 ∧ c0 ≤ maxLen from lc0)
  clear h0 lc0
  obtain ⟨n, hn⟩ : ∃ n, L.length = n := ⟨_, rfl⟩
  have HN := Lib.hid hn
  rw [hn]
  clear hn
  obtain ⟨base, hb⟩ : ∃ z, W.heap.size = z := ⟨_, rfl⟩
  have HBS := Lib.hid hb
  rw [hb] at I0 ⊢
  have B0 : Hid (Below base W W) := Lib.hid (hb ▸ Below.refl _ _)
  clear hb
  by_cases hL : 120 < n
  · have g1 : (120 : Int) < (n : Int) := by omega
    go_enter Try.func3, Try.ntmps3
    go_wp2_with fail
    refine (KK.out _).mono ?_
    rintro e W2 ⟨rfl, b2⟩
    have B2 := Lib.hid (HBS.out ▸ b2 : Below base W W2)
    clear b2
    go_wp2
    go_ret
    exact ⟨rfl, B2.out⟩
  have g1 : ¬ (120 : Int) < (n : Int) := by omega
  go_enter Try.func3, Try.ntmps3
  go_wp2_with fail
  refine (KK.out _).mono ?_
  rintro e W1 ⟨rfl, b1⟩
  have B1 := Lib.hid (HBS.out ▸ b1 : Below base W W1)
  have KM := Lib.hid (madeF z W1)
  clear b1
  go_wp2_with fail
  refine KM.out.mono ?_
  rintro e W2 ⟨a0, R0, rfl, hF0, hI0, hk0, b2⟩
  obtain ⟨bs, hbs⟩ : ∃ q, W1.heap.size = q := ⟨_, rfl⟩
  rw [hbs] at hF0 b2
  obtain ⟨bf, hbf⟩ : ∃ q, a0.bf = q := ⟨_, rfl⟩
  have HBF := Lib.hid hbf
  rw [hbf]
  have HF0 := Lib.hid hF0
  have HI0 := Lib.hid hI0
  have HK0 := Lib.hid hk0
  have SB : Hid (base ≤ bs) := Lib.hid (by have := B1.out.size; have := HBS.out; omega)
  have S2 : Hid (bs ≤ W2.heap.size) := Lib.hid (hbs ▸ b2.size)
  have B2 := Lib.hid (B1.out.trans (b2.mono SB.out))
  clear b2 hbs hbf hF0 hI0 hk0 KM
  go_wp2_with fail
  go_loopw [6] (fun i wx => ∃ (k : Nat) (a : Fa) (R : Nat → Rd) (F : List Tl) (c : Nat), i = .int .i64 k ∧ k ≤ n ∧ Hid (FM bs wx a R F c) ∧ Hid (a.bf = bf) ∧ Hid (Inv a.n R (F.map Tl.p)) ∧ Hid (∀ i, i < a.n → (R i).k ≤ k) ∧ Hid (c ≤ k) ∧ Hid (Below base W wx) ∧ Hid (bs ≤ wx.heap.size)) (fun i _ => n - (intOf i).toNat)
  case atStart => exact ⟨0, a0, R0, [], 0, rfl, Nat.zero_le _, HF0, HBF, HI0, Lib.hid (fun i hi => Nat.le_of_eq (HK0.out i hi)), Lib.hid (Nat.le_refl _), B2, S2⟩
  case round =>
    obtain ⟨k, a, R, F, c, rfl, hk, FF, EB, II, KQ, CQ, BB, SS⟩ := hrel
    by_cases hlt : k < n
    · as_aux_lemma =>
      skip
      have l1 : (k : Int) < (n : Int) := by omega
      have hkL : k < L.length := by have := HN.out; omega
      have hx := List.getElem?_eq_getElem hkL
      obtain ⟨ab, ao, hA, -, cc⟩ := I0.out wr BB.out k _ hx
      obtain ⟨s, hs⟩ : ∃ s, L[k] = s := ⟨_, rfl⟩
      rw [hs] at cc
      obtain ⟨kd, X, N, I⟩ := s
      have KB := Lib.hid (show k ≤ 120 by omega)
      have HJ := Lib.hid hlt
      have HA := Lib.hid hA
      subst hA
      have hcc : (n : Int) ≤ (c0 : Int) := by have := LC.out.1; have := HN.out; omega
      unfold St4.cs at cc
      have c0_ : wr.cell? ⟨ab, ao + k * 4, none⟩ = _ := cc 0 _ rfl
      have c1_ : wr.cell? ⟨ab, ao + k * 4 + 1, none⟩ = _ := cc 1 _ rfl
      have c2_ : wr.cell? ⟨ab, ao + k * 4 + 2, none⟩ = _ := cc 2 _ rfl
      have c3_ : wr.cell? ⟨ab, ao + k * 4 + 3, none⟩ = _ := cc 3 _ rfl
      clear cc hx hs hk hlt
      have KS : Hid (Calls Try.prog 9 #[.pointer (some ⟨bf, 0, none⟩), .agg #[.int .i64 kd, .int .i64 X, .int .i64 N, .int .i64 I]] wr fun e W' => e = .returned (.tuple #[]) ∧ StepR bs wr W' a R c) := Lib.hid (by
        rw [← EB.out]
        exact stepC bs wr a R F c FF.out II.out kd X N I (fun i hi => by have := KQ.out i hi; have := KB.out; omega) (by have := CQ.out; have := KB.out; omega) SS.out)
      go_wp2_with fail
      refine KS.out.mono ?_
      rintro e W3 ⟨rfl, a', R', F', c', hF', hB', hn', hI', hH', hc', b'⟩
      have B3 := Lib.hid (BB.out.trans (b'.mono SB.out))
      have S3 : Hid (bs ≤ W3.heap.size) := Lib.hid (Nat.le_trans SS.out b'.size)
      have F3 := Lib.hid hF'
      have E3 := Lib.hid (hB'.trans EB.out)
      have I3 : Hid (Inv a'.n R' (F'.map Tl.p)) := Lib.hid (hn'.symm ▸ hI')
      have K3 : Hid (∀ i, i < a'.n → (R' i).k ≤ k + 1) := Lib.hid fun i hi => Nat.le_trans (hH' i (hn' ▸ hi)).2 (Nat.succ_le_succ (KQ.out i (hn' ▸ hi)))
      have C3 : Hid (c' ≤ k + 1) := Lib.hid (Nat.le_trans hc' (Nat.succ_le_succ CQ.out))
      clear b' hF' hB' hn' hI' hH' hc' c0_ c1_ c2_ c3_ KS
      have KR : Hid (Calls Try.prog 10 #[.pointer (some ⟨bf, 0, none⟩)] W3 fun e W' => e = .returned (.bool true) ∧ Below W3.heap.size W3 W') := Lib.hid (by
        rw [← E3.out]
        exact rightC bs W3 a' R' F' c' F3.out _ I3.out)
      go_wp2_with fail
      refine KR.out.mono ?_
      rintro e W4 ⟨rfl, b4⟩
      have B4 := Lib.hid (B3.out.trans (b4.mono (Nat.le_trans SB.out S3.out)))
      have F4 := Lib.hid (F3.out.below b4)
      have S4 : Hid (bs ≤ W4.heap.size) := Lib.hid (Nat.le_trans S3.out b4.size)
      clear b4 KR
      go_wp2
      go_roundw
      case rel => exact ⟨k + 1, a', R', F', c', by have := KB.out; go_num, by have := HJ.out; omega, F4, E3, I3, K3, C3, B4, S4⟩
      case measure => have := HJ.out; have := KB.out; simp [intOf]; omega
    · obtain rfl : n = k := by omega
      have l1 : ¬ (n : Int) < (n : Int) := by omega
      go_wp2
      go_ret
      exact ⟨rfl, BB.out⟩
end

section
set_option linter.unusedSimpArgs false
set_option linter.unusedVariables false
open Go.ChangeShapes Go.WideShapes Go.ChangeAt Go.RowKit

theorem rollOne_own : ownKnob Try.prog.godebug = none := by kernel_rfl
theorem rollOne_laidOut : laidOutB Try.prog = true := by kernel_rfl

set_option maxRecDepth 100000 in
theorem rollOne_lifted (os : Os) (started : os.Started) (H : Type) (enc : TypeId × Value → H) :
    ReturnsInHanded {} Try.checked os 3 .any (Rows.rollOneSpec.pre6 enc Try.prog Try.f3 Rows.rollOneRow.domain false) (Rows.rollOneSpec.post enc Try.prog Try.f3 false true false false) := by
  refine returnsInHanded_of_change_shaped (C := Try.checked) rollOne_own started (by kernel_rfl) Try.func3
    (ChangeSpec.witness6 (enc := enc) (C := Try.checked) false ⟨#[], #[.int .i64 0, .slice none 0 0], []⟩ 8 (by kernel_rfl) (by kernel_rfl) (by kernel_rfl) (by kernel_rfl)) ?_
  intro W base args ds gs before hval0 hW _ hsz _ _
  have hval : ∀ (j : Nat) t v, Try.f3.params[j]? = some t → args[j]? = some v → Value.okWide Try.prog W .any base t v := hval0
  have hW' := hW
  obtain ⟨p, q, hA0, hV, rfl, _, _⟩ := hW
  have hA : DataW.TrodAll enc Try.prog W 0 (fun _ => true) true Try.f3.params.toList args.toList ds p := hA0
  rw [Try.params3] at hA hval hsz
  obtain ⟨v0, vs0, d0, ds0, p0, q0, hargs, rfl, rfl, h0, r0⟩ := trodAll_cons hA
  obtain ⟨v1, vs1, d1, ds1, p1, q1, rfl, rfl, rfl, h1, r1⟩ := trodAll_cons r0
  obtain ⟨rfl, rfl, rfl⟩ := trodAll_nil r1
  obtain rfl : args = #[v0, v1] := by cases args; simp_all
  obtain ⟨rfl, rfl⟩ := trodVars_none hV
  have k0 := h0
  have lt0 : ∀ x ∈ p0, x.block < W.heap.size := by obtain ⟨m, hm⟩ := k0; exact DataW.trod_lt m _ _ _ hm
  obtain ⟨n0, rfl, w0⟩ := arg_intG Try.underlying3 (hval 0 3 v0 rfl rfl) h0
  have b0 := bounds_i64 w0
  have k1 := h1
  have lt1 : ∀ x ∈ p1, x.block < W.heap.size := by obtain ⟨m, hm⟩ := k1; exact DataW.trod_lt m _ _ _ hm
  obtain ⟨A1, L1, c1, rfl, lc1, cm1, hx1⟩ := arg_stepsL (hval 1 22 v1 rfl rfl) h1
  clear hA0 hval0
  refine (walkRO n0 A1 L1 c1 W ⟨lc1, cm1⟩ hx1).mono fun e W' ⟨he, bel⟩ => ?_
  subst he
  exact ⟨_, rfl, _, _, _, [], _, [], hW', trodAll_mk1 (shut_bool Try.underlying4 _), (trodAll_cons_mk (Below.trod rollOne_laidOut (by kernel_rfl) (of_decide_eq_true (by kernel_rfl)) k0 bel lt0) (trodAll_cons_mk (Below.trod rollOne_laidOut (by kernel_rfl) (of_decide_eq_true (by kernel_rfl)) k1 bel lt1) trodAll_mk0)), rfl, bel.frame _, fun h => by cases h⟩

theorem rollOne_over : Rows.rollOneRow.holds Try.pinned (OpenSpec.ofChange Rows.rollOneSpec) :=
  OpenClaim.holds_of_wide 3 Try.f3 rfl rfl rfl rfl rfl rfl rfl ⟨rfl, rfl, rfl, rfl, rfl⟩ rfl rfl rfl rfl rfl (by kernel_rfl) Try.func3 (by kernel_rfl)
    (of_decide_eq_true (by kernel_rfl)) (by unfold Func.isWrapper; first | (rw [if_pos (by decide +kernel)]; kernel_rfl) | (rw [if_neg (by decide +kernel)]; exact ⟨rfl, rfl⟩))
    (fun os started H enc _ => rollOne_lifted os started H enc)

/-- The statement. -/
theorem rollOne_holds : Rows.RollOneSaid := rollOne_over
#print axioms rollOne_holds
end
end Go.Proofs.Ytjdmjiikpnlkjaa
