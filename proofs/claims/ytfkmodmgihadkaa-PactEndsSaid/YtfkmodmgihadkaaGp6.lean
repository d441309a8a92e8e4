/-
  The program's proposer: Accepted, Value, Start, by exact answers. Condition: it lies in memory.
-/
import Derived.Test.YtfkmodmgihadkaaGp3
import Derived.Test.YtfkmodmgihadkaaVfi
import Derived.Deep.MidRow
namespace Go.Proofs.Ytfkmodmgihadkaa
set_option linter.unusedSimpArgs false
set_option linter.unusedVariables false
open Go.RowKit Go.Maps Go.Sort
open V (P2)

theorem Pd.acc_no {d : Pd} {x : P2} (h : ¬ d.ph = 1) : d.accepted x = d := by simp [Pd.accepted, Pd.accept1, h]
theorem Pd.acc_out {d : Pd} {x : P2} (h : d.cnt x = false) : d.accepted x = d := by simp [Pd.accepted, Pd.accept1, h]
theorem Pd.acc_few {d : Pd} {x : P2} (p : d.ph = 1) (h : d.cnt x = true) (k : (d.add x).enough = false) : d.accepted x = d.add x := by simp [Pd.accepted, Pd.accept1, h, k, p]
theorem Pd.acc_yes {d : Pd} {x : P2} (p : d.ph = 1) (h : d.cnt x = true) (k : (d.add x).enough = true) : d.accepted x = { d.add x with ph := 2 } := by simp [Pd.accepted, h, k, p]
set_option maxRecDepth 100000 in
set_option maxHeartbeats 2000000 in
theorem pAccepted (base : Nat) (W : World) (b m : Nat) (d : Pd) (h : PP base W b m d) (x : P2) (rx : Rg2 x) :
    Calls Try.prog 19 #[.pointer (some ⟨b, 0, none⟩), .agg #[.int .u8 x.n, .int .u16 x.l]] W fun e W' => e = .returned (.bool (decide ((d.accepted x).ph = 2))) ∧ PP base W' b m (d.accepted x) ∧ KP (FP b m) W W' := by
  obtain ⟨k, hk⟩ : ∃ k, W.heap.size = k := ⟨_, rfl⟩
  obtain ⟨w1, hw1⟩ : ∃ z, W.alloc (.cells #[.int .u8 x.n, .int .u16 x.l] 54) = z := ⟨_, rfl⟩
  have b1 : Below W.heap.size W w1 := by rw [← hw1]; exact (Below.refl _ _).alloc (Nat.le_refl _) _
  have r1 : w1.heap[k]? = some (.cells #[.int .u8 x.n, .int .u16 x.l] 54 (0, 0)) := by rw [← hw1, ← hk]; exact heap_alloc_new _ _
  have HP := Lib.hid (h.below b1)
  have HKP : Hid (KP (FP b m) W w1) := Lib.hid (KP.of_below b1)
  have KI1 := Lib.hid (pIn base w1 b m d HP.out 1)
  have KI2 := Lib.hid (pIn base w1 b m d HP.out 2)
  have KC := Lib.hid (pCount base w1 b m d HP.out x rx)
  have x0 := cell_of r1 0 (.int .u8 x.n) rfl
  have x1 := cell_of r1 1 (.int .u16 x.l) rfl
  have HW1 := Lib.hid hw1
  have HK := Lib.hid hk
  clear h b1 r1 hw1 hk
  by_cases hp : d.ph = 1
  · rw [decide_eq_true hp] at KI1
    have HPH := Lib.hid hp
    clear hp KI2
    obtain ⟨cn, hcn⟩ : ∃ z, d.cnt x = z := ⟨_, rfl⟩
    obtain ⟨en, hen⟩ : ∃ z, (d.add x).enough = z := ⟨_, rfl⟩
    rw [hcn] at KC
    have HCN := Lib.hid hcn
    have HEN := Lib.hid hen
    clear hcn hen
    cases cn with
    | false =>
      have HE : Hid (d.accepted x = d) := Lib.hid (Pd.acc_out HCN.out)
      go_enter Try.func19, Try.ntmps19
      go_wp2_with (first
        | (rw [HW1.out, HK.out])
        | (go_at_call 30
           have KI1x := KI1.out
           refine KI1x.mono ?_; rintro e u ⟨rfl, rfl⟩; have GONE := Lib.hid True.intro; clear KI1)
        | (go_at_call 31; refine KC.out.mono ?_; rintro e u ⟨rfl, hpu, hku⟩
           rw [Pd.counted_no HCN.out] at hpu
           have KE := Lib.hid (pEnough base u b m _ hpu)
           have KI3 := Lib.hid (pIn base u b m _ hpu 2)
           have HPU := Lib.hid hpu
           have HKU := Lib.hid (HKP.out.trans hku fun _ _ h => h)
           clear hpu hku)
        | (go_at_call 30
           have KI3x := KI3.out
           refine KI3x.mono ?_; rintro e u8 ⟨rfl, rfl⟩)
        | fail)
      go_ret
      exact ⟨by rw [HE.out]; try rfl, by rw [HE.out]; exact HPU.out, HKU.out⟩
    | true =>
      cases en with
      | false =>
        have HE : Hid (d.accepted x = d.add x) := Lib.hid (Pd.acc_few HPH.out HCN.out HEN.out)
        go_enter Try.func19, Try.ntmps19
        go_wp2_with (first
          | (rw [HW1.out, HK.out])
          | (go_at_call 30
             have KI1x := KI1.out
             refine KI1x.mono ?_; rintro e u ⟨rfl, rfl⟩; have GONE := Lib.hid True.intro; clear KI1)
          | (go_at_call 31; refine KC.out.mono ?_; rintro e u ⟨rfl, hpu, hku⟩
             rw [Pd.counted_yes HCN.out] at hpu
             have KE := Lib.hid (pEnough base u b m _ hpu)
             have KI3 := Lib.hid (pIn base u b m _ hpu 2)
             have HPU := Lib.hid hpu
             have HKU := Lib.hid (HKP.out.trans hku fun _ _ h => h)
             clear hpu hku)
          | (go_at_call 33
             have KEx := KE.out
             rw [HEN.out] at KEx
             refine KEx.mono ?_; rintro e u2 ⟨rfl, b2⟩
             have HPU2 := Lib.hid (HPU.out.below b2)
             have HKU2 := Lib.hid (HKU.out.trans (KP.of_below (S := FP b m) b2) fun _ _ h => h)
             have KI4 := Lib.hid (pIn base u2 b m _ HPU2.out 2)
             clear b2)
          | (go_at_call 30
             have KI4x := KI4.out
             refine KI4x.mono ?_; rintro e u8 ⟨rfl, rfl⟩)
          | fail)
        go_ret
        exact ⟨by rw [HE.out]; try rfl, by rw [HE.out]; exact HPU2.out, HKU2.out⟩
      | true =>
        have HE : Hid (d.accepted x = { d.add x with ph := 2 }) := Lib.hid (Pd.acc_yes HPH.out HCN.out HEN.out)
        go_enter Try.func19, Try.ntmps19
        go_wp2_with (first
          | (rw [HW1.out, HK.out])
          | (go_at_call 30
             have KI1x := KI1.out
             refine KI1x.mono ?_; rintro e u ⟨rfl, rfl⟩; have GONE := Lib.hid True.intro; clear KI1)
          | (go_at_call 31; refine KC.out.mono ?_; rintro e u ⟨rfl, hpu, hku⟩
             rw [Pd.counted_yes HCN.out] at hpu
             have KE := Lib.hid (pEnough base u b m _ hpu)
             have KI3 := Lib.hid (pIn base u b m _ hpu 2)
             have HPU := Lib.hid hpu
             have HKU := Lib.hid (HKP.out.trans hku fun _ _ h => h)
             clear hpu hku)
          | (go_at_call 33
             have KEx := KE.out
             rw [HEN.out] at KEx
             refine KEx.mono ?_; rintro e u2 ⟨rfl, b2⟩
             have HPU2 := Lib.hid (HPU.out.below b2)
             have HKU2 := Lib.hid (HKU.out.trans (KP.of_below (S := FP b m) b2) fun _ _ h => h)
             obtain ⟨w9, hq9⟩ := HPU2.out
             have q4 := cell_of hq9.blk 4 (.int .i64 d.ph) rfl
             have f4 := frz_row 4 hq9.blk
             have hq10 := hq9.setPh 2
             obtain ⟨u3, hu3⟩ : ∃ z, u2.setCell ⟨b, 4, none⟩ (.int .i64 2) = z := ⟨_, rfl⟩
             rw [hu3] at hq10
             have kp3 : KP (fun j => j = b) u2 u3 := by rw [← hu3]; exact KP.set (S := fun j => j = b) u2 b 4 _ rfl
             have HPU3 : Hid (PP base u3 b m { d.add x with ph := 2 }) := Lib.hid ⟨_, hq10⟩
             have KI4 := Lib.hid (pIn base u3 b m _ HPU3.out 2)
             have HKU3 := Lib.hid (HKU2.out.trans (kp3.mono fun i e => .inl e) fun _ _ h => h)
             have HU3 := Lib.hid hu3
             clear b2 hq9 hq10 kp3 hu3)
          | (rw [HU3.out])
          | (go_at_call 30
             have KI4x := KI4.out
             refine KI4x.mono ?_; rintro e u8 ⟨rfl, rfl⟩)
          | fail)
        go_ret
        exact ⟨by rw [HE.out]; try rfl, by rw [HE.out]; exact HPU3.out, HKU3.out⟩
  · rw [decide_eq_false hp] at KI1
    have HE : Hid (d.accepted x = d) := Lib.hid (Pd.acc_no hp)
    clear hp KC
    go_enter Try.func19, Try.ntmps19
    go_wp2_with (first
      | (rw [HW1.out, HK.out])
      | (go_at_call 30
         have KI1x := KI1.out
         refine KI1x.mono ?_; rintro e u ⟨rfl, rfl⟩; have GONE := Lib.hid True.intro; clear KI1)
      | (go_at_call 30
         have KI2x := KI2.out
         refine KI2x.mono ?_; rintro e u8 ⟨rfl, rfl⟩)
      | fail)
    go_ret
    exact ⟨by rw [HE.out]; try rfl, by rw [HE.out]; exact HP.out, HKP.out⟩

set_option maxRecDepth 100000 in
set_option maxHeartbeats 2000000 in
theorem pValue (base : Nat) (W : World) (b m : Nat) (d : Pd) (h : PP base W b m d) :
    Calls Try.prog 9 #[.pointer (some ⟨b, 0, none⟩)] W fun e W' => ∃ x : Vl, e = .returned (.agg x.cs) ∧ x.Ok W' ∧ x.d = d.vd ∧ Below W.heap.size W W' := by
  obtain ⟨w, h⟩ := h
  obtain ⟨k, hk⟩ : ∃ k, W.heap.size = k := ⟨_, rfl⟩
  obtain ⟨w1, hw1⟩ : ∃ z, W.alloc (.cells #[.slice none 0 0, .slice none 0 0] 32) = z := ⟨_, rfl⟩
  have b1 : Below W.heap.size W w1 := by rw [← hw1]; exact (Below.refl _ _).alloc (Nat.le_refl _) _
  have r1 : w1.heap[k]? = some (.cells #[.slice none 0 0, .slice none 0 0] 32 (0, 0)) := by rw [← hw1, ← hk]; exact heap_alloc_new _ _
  have h1 := h.below b1
  have KM := Lib.hid (pMade base w1 b m d ⟨w, h1⟩)
  have KV := Lib.hid (valClone w.vl w1 h1.vl)
  have HVD := Lib.hid h1.vld
  obtain ⟨A3, c3, e3, -, -, -, -⟩ := h1.vl.m.rows
  obtain ⟨A4, c4, e4, -, -, -, -⟩ := h1.vl.t.rows
  have q11 := cell_of h1.blk 11 w.vl.m rfl
  have q12 := cell_of h1.blk 12 w.vl.t rfl
  rw [e3] at q11
  rw [e4] at q12
  have HCS : Hid (w.vl.cs = #[.slice A3 w.vl.X.length c3, .slice A4 w.vl.L.length c4]) := Lib.hid (by unfold Vl.cs; rw [e3, e4])
  rw [HCS.out] at KV
  obtain ⟨n3, hn3⟩ : ∃ z, w.vl.X.length = z := ⟨_, rfl⟩
  obtain ⟨n4, hn4⟩ : ∃ z, w.vl.L.length = z := ⟨_, rfl⟩
  rw [hn3] at q11
  rw [hn4] at q12
  rw [hn3, hn4] at KV
  have HW1 := Lib.hid hw1
  have HK := Lib.hid hk
  have B1 := Lib.hid b1
  have R1 := Lib.hid r1
  clear h h1 hw1 b1 r1 hk e3 e4 HCS hn3 hn4
  go_enter Try.func9, Try.ntmps9
  go_wp2_with (first
    | (rw [HW1.out, HK.out])
    | (go_at_call 24; refine KM.out.mono ?_; rintro e u ⟨rfl, rfl⟩)
    | (go_at_call 25
       refine KV.out.mono ?_
       rintro e u9 ⟨⟨m9, X9, t9, L9⟩, rfl, ok9, d9, b9⟩
       have r9 := (b9.block k (heap_lt R1.out)).trans R1.out
       obtain ⟨A9, c9, e9, -, -, -, -⟩ := ok9.m.rows
       obtain ⟨A10, c10, e10, -, -, -, -⟩ := ok9.t.rows
       dsimp only at e9 e10
       subst e9 e10
       dsimp only [Vl.cs]
       obtain ⟨n9, hn9⟩ : ∃ z, X9.length = z := ⟨_, rfl⟩
       obtain ⟨n10, hn10⟩ : ∃ z, L9.length = z := ⟨_, rfl⟩
       simp only [hn9, hn10] at ok9 d9 ⊢
       obtain ⟨u10, hu10⟩ : ∃ z, u9.setRow k #[.slice A9 n9 c9, .slice A10 n10 c10] = z := ⟨_, rfl⟩
       have kp10 : KP (fun j => j = k) u9 u10 := by rw [← hu10]; exact KP.setRow u9 k _ rfl
       have ks10 : Keeps u9 u10 := Keeps.of_KP kp10 fun g cur t hg ht => apart_of hg r9 (by
         intro e
         rw [e] at ht
         revert ht
         simp [Ty])
       have B9 := B1.out.trans (b9.mono B1.out.size)
       have B10 := Lib.hid (B9.trans (kp10.below B9.size fun j hj => by rw [hj, HK.out]; exact Nat.le_refl _))
       have OK10 := Lib.hid (ok9.keep ks10)
       have HD9 := Lib.hid d9
       have R9 := Lib.hid r9
       have R10 : Hid (u10.heap[k]? = some (.cells #[.slice A9 n9 c9, .slice A10 n10 c10] 32 (0, 0))) := Lib.hid (by rw [← hu10]; exact setRow_heapG _ _ _ _ _ _ r9)
       have HU10 := Lib.hid hu10
       clear r9 kp10 ks10 hu10 ok9 d9 b9 hn9 hn10 B9)
    | (have R9x := R9.out
       refine wpList_store_row rfl 32 (.tmp 2) (.tmp 11) rfl k #[.slice A9 n9 c9, .slice A10 n10 c10] (by rfl) (by rfl) 32 _ R9x (by kernel_rfl) rfl (by simp [Value.oneCell']) ?_
       rw [HU10.out])
    | fail)
  refine bodyPost_ret (v := .agg #[.slice A9 n9 c9, .slice A10 n10 c10]) (by
    have c0 := cell_of R10.out 0 (.slice A9 n9 c9) rfl
    have c1 := cell_of R10.out 1 (.slice A10 n10 c10) rfl
    simp [results, Try.results9, go_sem]
    try go_simp) rfl ⟨⟨.slice A9 n9 c9, X9, .slice A10 n10 c10, L9⟩, rfl, OK10.out, HD9.out.trans HVD.out, B10.out⟩

end Go.Proofs.Ytfkmodmgihadkaa
