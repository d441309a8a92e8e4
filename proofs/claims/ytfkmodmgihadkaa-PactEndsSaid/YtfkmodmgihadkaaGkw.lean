/-
  What must come: the wish of one who is alone: knows answers true. No condition.
-/
import Derived.Test.YtfkmodmgihadkaaGp5
import Derived.Test.YtfkmodmgihadkaaGp7
namespace Go.Proofs.Ytfkmodmgihadkaa
set_option linter.unusedSimpArgs false
set_option linter.unusedVariables false
open Go.RowKit Go.Maps Go.Sort
open V (P2)

set_option maxRecDepth 100000 in
set_option maxHeartbeats 2000000 in
theorem procC (n : Int) (h : 0 ≤ n ∧ n ≤ 255) (W : World) :
    Calls Try.prog 14 #[.int .i64 n] W fun e W' => e = .returned (.agg #[.int .u8 n, .int .u16 1]) ∧ Below W.heap.size W W' := by
  have hw : IntKind.u8.wrap n = n := by
    unfold IntKind.wrap
    simp [IntKind.signed, IntKind.bits]
    omega
  go_enter Try.func14, Try.ntmps14
  go_wp2
  refine bodyPost_ret (v := .agg #[.int .u8 n, .int .u16 1]) (by simp [results, Try.results14, go_sem]; try go_simp) rfl ⟨rfl, ?_⟩
  repeat (first | (with_reducible exact Below.refl _ _) | (with_reducible refine Below.setCell ?_ (by first | omega | (simp; done) | (simp; omega)) _) | (with_reducible refine Below.drew ?_) | (with_reducible refine Below.alloc ?_ (by first | omega | (simp; done) | (simp; omega)) _))
theorem ballot12 (W : World) : Calls Try.prog 15 #[.int .u32 1, .int .u8 2] W fun e W' => e = .returned (.int .u64 258) ∧ W = W' := by
  go_enter Try.func15, Try.ntmps15
  go_wp2
  go_ret
  exact ⟨rfl, rfl⟩
def Pq0 : P2 := ⟨0, 1⟩
def Pq3 : P2 := ⟨3, 1⟩
theorem pq0_rg : Rg2 Pq0 := by unfold Rg2 Pq0; exact ⟨⟨by decide, by decide⟩, by decide, by decide⟩
theorem row1 (W : World) (x : P2) : PrO (W.alloc (.cells #[.int .u8 x.n, .int .u16 x.l] 54)) (.slice (some ⟨W.heap.size, 0, none⟩) 1 1) [x] := by
  refine ⟨rfl, .inr ⟨W.heap.size, 0, 1, _, rfl, heap_alloc_new _ _, Nat.le_refl _, by unfold maxLen; omega, by simp, fun j u hu => ?_⟩⟩
  rw [Nat.zero_add, ← Array.getElem?_toList]
  simpa [V.cellsV, V.P2.cells] using hu
theorem row2 (W : World) (x y : P2) : PrO (W.alloc (.cells #[.int .u8 x.n, .int .u16 x.l, .int .u8 y.n, .int .u16 y.l] 54)) (.slice (some ⟨W.heap.size, 0, none⟩) 2 2) [x, y] := by
  refine ⟨rfl, .inr ⟨W.heap.size, 0, 2, _, rfl, heap_alloc_new _ _, Nat.le_refl _, by unfold maxLen; omega, by simp, fun j u hu => ?_⟩⟩
  rw [Nat.zero_add, ← Array.getElem?_toList]
  simpa [V.cellsV, V.P2.cells] using hu
def Kd0 : Pd := Pd.init 0 1 [Pq0] 258
def Kd1 : Pd := Kd0.promise Pq0 [] 0 ([], []) false
theorem kd1_ready : Kd1.ready = true := by decide
theorem kd1_choose : Kd1.choose [Pq0, Pq3] = ([Pq0, Pq3], []) := rfl
def Kd2 : Pd := Kd1.propose [Pq0, Pq3]
def Kd3 : Pd := Kd2.accepted Pq0
theorem kd3_ph : Kd3.ph = 2 := by decide
theorem kd3_bal : Kd3.bal = 258 := by decide
theorem kvR : V.vR 0 1 [Pq0] = true := by decide
set_option maxRecDepth 100000 in
set_option maxHeartbeats 2000000 in
theorem knowsC (W : World) : Calls Try.prog 5 #[] W fun e W' => e = .returned (.bool true) ∧ Below W.heap.size W W' := by
  have KP0 := Lib.hid (fun w => procC 0 (by omega) w)
  have KP3 := Lib.hid (fun w => procC 3 (by omega) w)
  go_enter Try.func5, Try.ntmps5
  go_wp2_with fail
  refine (KP0.out _).mono ?_
  rintro e w1 ⟨rfl, b1⟩
  obtain ⟨w2, hw2⟩ : ∃ z, w1.alloc (.cells #[.int .u8 0, .int .u16 1] 54) = z := ⟨_, rfl⟩
  have P2 : PrO w2 (.slice (some ⟨w1.heap.size, 0, none⟩) 1 1) [Pq0] := by rw [← hw2]; exact row1 w1 Pq0
  obtain ⟨k, hk⟩ : ∃ k, w1.heap.size = k := ⟨_, rfl⟩
  rw [hk] at P2
  have b12 : Below w1.heap.size w1 w2 := by rw [← hw2]; exact (Below.refl _ _).alloc (Nat.le_refl _) _
  have B2 := Lib.hid (b1.trans (b12.mono b1.size))
  obtain ⟨A2, c2, e2, r2, l2, m2, -⟩ := P2.rows
  cases e2
  have KS := Lib.hid (pStartYes 0 1 258 _ [Pq0] 1 w2 r2 l2 m2 kvR (by decide))
  have HW2 := Lib.hid hw2
  have HK := Lib.hid hk
  clear P2 b12 b1 hw2 hk r2 l2 m2
  go_wp2_with (rw [HW2.out, HK.out])
  refine (ballot12 _).mono ?_
  rintro e w3 ⟨rfl, rfl⟩
  go_wp2_with fail
  refine KS.out.mono ?_
  rintro e w3 ⟨b, rfl, m, hp3, b3⟩
  have B3 := Lib.hid (B2.out.trans (b3.mono B2.out.size))
  have HP3 := Lib.hid hp3
  clear b3 hp3
  go_wp2_with fail
  refine (KP0.out _).mono ?_
  rintro e w4 ⟨rfl, b4⟩
  have B4 := Lib.hid (B3.out.trans (b4.mono B3.out.size))
  have HP4 := Lib.hid (HP3.out.below b4)
  clear b4
  go_wp2_with fail
  refine (pPromise _ w4 b m Kd0 HP4.out Pq0 pq0_rg (.slice none 0 0) [] (EnO.nil _) (by simp) 0 V0 (V0.ok _) false).mono ?_
  rintro e w5 ⟨rfl, hp5, k5⟩
  have hfoot : ∀ k, FP b m k → W.heap.size ≤ k := fun k hk => by
    obtain ⟨w, h⟩ := HP4.out
    exact Nat.le_trans B2.out.size (h.foot k hk)
  have HF := Lib.hid hfoot
  have B5 := Lib.hid (B4.out.trans (k5.below B4.out.size HF.out))
  have HP5 : Hid (PP _ w5 b m Kd1) := Lib.hid hp5
  clear hp5 k5 hfoot
  go_wp2_with fail
  refine (pReady _ w5 b m Kd1 HP5.out).mono ?_
  rintro e w6 ⟨rfl, b6⟩
  have B6 := Lib.hid (B5.out.trans (b6.mono B5.out.size))
  have HP6 := Lib.hid (HP5.out.below b6)
  clear b6
  rw [kd1_ready]
  go_wp2_with fail
  refine (KP0.out _).mono ?_
  rintro e w7 ⟨rfl, b7⟩
  have B7 := Lib.hid (B6.out.trans (b7.mono B6.out.size))
  have HP7 := Lib.hid (HP6.out.below b7)
  clear b7
  go_wp2_with fail
  refine (KP3.out _).mono ?_
  rintro e w8 ⟨rfl, b8⟩
  obtain ⟨w9, hw9⟩ : ∃ z, w8.alloc (.cells #[.int .u8 0, .int .u16 1, .int .u8 3, .int .u16 1] 54) = z := ⟨_, rfl⟩
  have P9 : PrO w9 (.slice (some ⟨w8.heap.size, 0, none⟩) 2 2) [Pq0, Pq3] := by rw [← hw9]; exact row2 w8 Pq0 Pq3
  obtain ⟨k9, hk9⟩ : ∃ k, w8.heap.size = k := ⟨_, rfl⟩
  rw [hk9] at P9
  have b9 : Below w8.heap.size w8 w9 := by rw [← hw9]; exact (Below.refl _ _).alloc (Nat.le_refl _) _
  have b79 := b8.trans (b9.mono b8.size)
  have B9 := Lib.hid (B7.out.trans (b79.mono B7.out.size))
  have HP9 := Lib.hid (HP7.out.below b79)
  have HW9 := Lib.hid hw9
  have HK9 := Lib.hid hk9
  have HR9 := Lib.hid P9
  clear P9 b9 b79 b8 hw9 hk9
  go_wp2_with (rw [HW9.out, HK9.out])
  refine (pPropose _ w9 b m Kd1 HP9.out _ [Pq0, Pq3] HR9.out (by simp)).mono ?_
  rintro e w10 ⟨x, rfl, ok, hd, hp10, k10⟩
  rw [kd1_ready] at hd hp10
  have B10 := Lib.hid (B9.out.trans (k10.below B9.out.size HF.out))
  have HP10 : Hid (PP _ w10 b m Kd2) := Lib.hid hp10
  obtain ⟨A, c, e1, -, -, -, -⟩ := ok.m.rows
  obtain ⟨A', c', e2, -, -, -, -⟩ := ok.t.rows
  obtain ⟨mv, X, tv, L⟩ := x
  dsimp only at e1 e2
  subst e1 e2
  have hX : X = [Pq0, Pq3] := congrArg Prod.fst hd
  subst hX
  obtain ⟨nl, hnl⟩ : ∃ n, L.length = n := ⟨_, rfl⟩
  dsimp only [Vl.cs]
  rw [kd1_ready, hnl]
  clear hd hp10 k10 ok hnl
  obtain ⟨w11, hw11⟩ : ∃ z, w10.alloc (.cells #[.slice none 0 0, .slice none 0 0] 32) = z := ⟨_, rfl⟩
  obtain ⟨kv, hkv⟩ : ∃ k, w10.heap.size = k := ⟨_, rfl⟩
  have r11 : w11.heap[kv]? = some (.cells #[.slice none 0 0, .slice none 0 0] 32 (0, 0)) := by rw [← hw11, ← hkv]; exact heap_alloc_new _ _
  obtain ⟨w12, hw12⟩ : ∃ z, w11.setRow kv #[.slice A 2 c, .slice A' nl c'] = z := ⟨_, rfl⟩
  have r12 : w12.heap[kv]? = some (.cells #[.slice A 2 c, .slice A' nl c'] 32 (0, 0)) := by rw [← hw12]; exact setRow_heapG _ _ _ _ _ _ r11
  have b12 : Below w10.heap.size w10 w12 := by
    rw [← hw12, ← hw11, ← hkv]
    exact ((Below.refl _ _).alloc (Nat.le_refl _) _).trans ⟨rfl, rfl, rfl, by simp [World.setRow], fun k hk => setRow_other _ w10.heap.size k _ (by omega)⟩
  have B12 := Lib.hid (B10.out.trans (b12.mono B10.out.size))
  have HP12 := Lib.hid (HP10.out.below b12)
  have R11 := Lib.hid r11
  have R12 := Lib.hid r12
  have HW11 := Lib.hid hw11
  have HW12 := Lib.hid hw12
  have HKV := Lib.hid hkv
  clear hw11 hkv r11 hw12 r12 b12
  go_wp2_with (first
    | (rw [HW11.out, HKV.out])
    | (have R11x := R11.out
       refine wpList_store_row rfl 32 (.tmp 3) (.tmp 23) rfl kv #[.slice A 2 c, .slice A' nl c'] (by rfl) (by rfl) 32 _ R11x (by kernel_rfl) rfl (by simp [Value.oneCell']) ?_
       rw [HW12.out])
    | fail)
  refine (KP0.out _).mono ?_
  rintro e w13 ⟨rfl, b13⟩
  have B13 := Lib.hid (B12.out.trans (b13.mono B12.out.size))
  have HP13 := Lib.hid (HP12.out.below b13)
  have R13 := Lib.hid ((b13.block kv (heap_lt R12.out)).trans R12.out)
  clear b13
  go_wp2_with fail
  refine (pAccepted _ w13 b m Kd2 HP13.out Pq0 pq0_rg).mono ?_
  rintro e w14 ⟨rfl, hp14, k14⟩
  have B14 := Lib.hid (B13.out.trans (k14.below B13.out.size HF.out))
  have HP14 : Hid (PP _ w14 b m Kd3) := Lib.hid hp14
  have R14 : Hid (w14.heap[kv]? = some (.cells #[.slice A 2 c, .slice A' nl c'] 32 (0, 0))) := Lib.hid (by
    refine (k14.block kv (heap_lt R13.out) ?_).trans R13.out
    obtain ⟨w, h⟩ := HP10.out
    obtain ⟨es, cl, hm⟩ := h.ct.lt
    have h1 := heap_lt h.blk
    have h2 := heap_lt hm
    rintro (e | e)
    · rw [← HKV.out] at e; omega
    · rw [← HKV.out] at e; omega)
  have c3 := cell_of R14.out 0 (.slice A 2 c) rfl
  have KB := Lib.hid (pBallot _ w14 b m Kd3 HP14.out)
  have KPh := Lib.hid (pPhase _ w14 b m Kd3 HP14.out)
  rw [kd3_bal] at KB
  rw [kd3_ph] at KPh
  rw [show ((Kd2.accepted Pq0).ph) = 2 from kd3_ph]
  clear hp14 k14
  go_wp2_with (first
    | (go_at_call 20; refine KB.out.mono ?_; rintro e u ⟨rfl, rfl⟩)
    | (go_at_call 8; refine KPh.out.mono ?_; rintro e u ⟨rfl, rfl⟩))
  go_ret
  exact ⟨rfl, B14.out⟩

end Go.Proofs.Ytfkmodmgihadkaa
