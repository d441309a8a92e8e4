/-
  The walk of the law BagNil. Condition: the act lies in memory.
-/
import Derived.Test.YteaafpgkifmdeaaBkn
import Derived.Test.YteaafpgkifmdeaaBar
namespace Go.Proofs.Yteaafpgkifmdeaa
set_option linter.unusedSimpArgs false
set_option linter.unusedVariables false
open Go.RowKit Go.Sort

theorem noBag_new (w : World) : NoBag (w.alloc (.cells #[.pointer none] 64)) (some ⟨w.heap.size, 0, none⟩) := .inr ⟨_, rfl, heap_alloc_new _ _⟩
set_option maxRecDepth 100000 in
set_option maxHeartbeats 4000000 in
theorem walkNil (a : Ac) (W : World) (hx : a.x.In W) : Calls Try.prog 6 #[.agg a.cs.toArray] W fun e W' => e = .returned (.bool true) ∧ Below W.heap.size W W' := by
  obtain ⟨kd, ai, aat, am, x⟩ := a
  obtain ⟨cs, hcs⟩ : ∃ cs, (Ac.mk kd ai aat am x).cs.toArray = cs := ⟨_, rfl⟩
  rw [hcs]
  obtain ⟨W1, hW1⟩ : ∃ X, W.alloc (.cells cs 38) = X := ⟨_, rfl⟩
  have b1 : Below W.heap.size W W1 := by rw [← hW1]; exact (Below.refl _ _).alloc (Nat.le_refl _) _
  have r1 : W1.heap[W.heap.size]? = some (.cells cs 38 (0, 0)) := by rw [← hW1]; exact heap_alloc_new _ _
  have hcs' : cs = #[.int .i64 kd, .int .i64 ai, .int .i64 aat, .int .u32 am, .int .u8 x.p.fn, .int .u16 x.p.fl, .int .u8 x.p.tn, .int .u16 x.p.tl, .slice x.A x.p.B.length x.c, .bool x.p.bad] := hcs.symm
  obtain ⟨n, hn⟩ : ∃ n, x.p.B.length = n := ⟨_, rfl⟩
  rw [hn] at hcs'
  have cell : ∀ (w : World), Below W1.heap.size W1 w → ∀ j u, cs[j]? = some u → w.cell? ⟨W.heap.size, j, none⟩ = some u := fun w hb j u hu => (cell_of_row _ _ j _ _ _ ((hb.block _ (Array.getElem?_eq_some_iff.1 r1).1).trans r1)).trans hu
  have HC := Lib.hid cell
  have HW := Lib.hid hW1
  have B1 := Lib.hid b1
  have X1 := Lib.hid (hx.below b1)
  have HCS := Lib.hid hcs'
  have HN := Lib.hid hn
  have HM := Lib.hid hx.mx
  have HLE := Lib.hid hx.le
  have KK := Lib.hid (fun w => knowsB w)
  have c8 : W1.cell? ⟨W.heap.size, 8, none⟩ = some (.slice x.A n x.c) := cell W1 (Below.refl _ _) 8 _ (by rw [hcs']; rfl)
  have ecs : ∀ (w : World), w.heap.size = w.heap.size := fun _ => rfl
  clear hcs hcs' hW1 b1 r1 hx hn cell ecs
  by_cases hl : 2000 < n
  · have hl' : (2000 : Int) < (n : Int) := by omega
    go_enter Try.func6, Try.ntmps6
    go_wp2_with (refine wpList_bx rfl 38 (.tmp 0) rfl 1 rfl cs rfl ?_; rw [HW.out])
    refine (KK.out _).mono ?_
    rintro e w2 ⟨rfl, b2⟩
    have B2 := Lib.hid (B1.out.trans (b2.mono B1.out.size))
    clear b2
    go_wp2
    go_ret
    exact ⟨rfl, B2.out⟩
  · have hl' : ¬ (2000 : Int) < (n : Int) := by omega
    have HL := Lib.hid hl
    clear hl
    go_enter Try.func6, Try.ntmps6
    go_wp2_with (refine wpList_bx rfl 38 (.tmp 0) rfl 1 rfl cs rfl ?_; rw [HW.out])
    go_loopw [3, 4] (fun p i wx => ∃ k : Nat, k ≤ 2 ∧ i = .int .i64 k ∧ ∃ po, p = .pointer po ∧ Hid (NoBag wx po) ∧ Hid (Below W1.heap.size W1 wx)) (fun _ i _ => 2 - (intOf i).toNat)
    case atStart => exact ⟨0, by omega, rfl, none, rfl, Lib.hid (.inl rfl), Lib.hid (Below.refl _ _)⟩
    case round =>
      obtain ⟨k, hk, rfl, po, rfl, N0, B0⟩ := hrel
      by_cases hk2 : k < 2
      · have hk2' : (k : Int) < 2 := by omega
        have d1 := HC.out wr B0.out 1 (.int .i64 ai) (by rw [HCS.out]; rfl)
        go_wp2_with fail
        refine (look_none po ai wr N0.out).mono ?_
        rintro e w1 ⟨rfl, b1⟩
        unfold Z6
        have B1 := Lib.hid (B0.out.trans (b1.mono B0.out.size))
        have N1 := Lib.hid (N0.out.below b1)
        clear b1 d1
        obtain ⟨w1a, hw1a⟩ : ∃ x, w1.alloc (.cells #[.int .u8 0, .int .u16 0, .int .u8 0, .int .u16 0, .slice none 0 0, .bool false] 45) = x := ⟨_, rfl⟩
        have r1a : w1a.heap[w1.heap.size]? = some (.cells #[.int .u8 0, .int .u16 0, .int .u8 0, .int .u16 0, .slice none 0 0, .bool false] 45 (0, 0)) := by rw [← hw1a]; exact heap_alloc_new _ _
        obtain ⟨w2, hw2⟩ : ∃ x, w1a.setRow w1.heap.size #[.int .u8 0, .int .u16 0, .int .u8 0, .int .u16 0, .slice none 0 0, .bool false] = x := ⟨_, rfl⟩
        have b2 : Below w1.heap.size w1 w2 := by rw [← hw2, ← hw1a]; exact below_row ((Below.refl _ _).alloc (Nat.le_refl _) _) (Nat.le_refl _) _
        have RA2 := Lib.hid r1a
        have HA2 := Lib.hid hw1a
        have HB2 := Lib.hid hw2
        have B2 := Lib.hid (B1.out.trans (b2.mono B1.out.size))
        have N2 := Lib.hid (N1.out.below b2)
        clear hw1a r1a hw2 b2
        have d1 := HC.out w2 B2.out 1 (.int .i64 ai) (by rw [HCS.out]; rfl)
        go_wp2_with (first
          | (rw [HA2.out])
          | (refine wpList_store_row rfl 45 (.tmp 5) (.tmp 24) rfl w1.heap.size #[.int .u8 0, .int .u16 0, .int .u8 0, .int .u16 0, .slice none 0 0, .bool false] (by rfl) (by rfl) 45 #[.int .u8 0, .int .u16 0, .int .u8 0, .int .u16 0, .slice none 0 0, .bool false] RA2.out (by kernel_rfl) rfl (by simp [Value.oneCell']) ?_; rw [HB2.out]))
        refine (take_none po ai w2 N2.out).mono ?_
        rintro e w3 ⟨rfl, b3⟩
        unfold Z6
        have B3 := Lib.hid (B2.out.trans (b3.mono B2.out.size))
        have N3 := Lib.hid (N2.out.below b3)
        clear b3 d1 HA2 HB2 RA2 N1
        obtain ⟨w3a, hw3a⟩ : ∃ x, w3.alloc (.cells #[.int .u8 0, .int .u16 0, .int .u8 0, .int .u16 0, .slice none 0 0, .bool false] 45) = x := ⟨_, rfl⟩
        have r3a : w3a.heap[w3.heap.size]? = some (.cells #[.int .u8 0, .int .u16 0, .int .u8 0, .int .u16 0, .slice none 0 0, .bool false] 45 (0, 0)) := by rw [← hw3a]; exact heap_alloc_new _ _
        obtain ⟨w4, hw4⟩ : ∃ x, w3a.setRow w3.heap.size #[.int .u8 0, .int .u16 0, .int .u8 0, .int .u16 0, .slice none 0 0, .bool false] = x := ⟨_, rfl⟩
        have b4 : Below w3.heap.size w3 w4 := by rw [← hw4, ← hw3a]; exact below_row ((Below.refl _ _).alloc (Nat.le_refl _) _) (Nat.le_refl _) _
        have RA4 := Lib.hid r3a
        have HA4 := Lib.hid hw3a
        have HB4 := Lib.hid hw4
        have B4 := Lib.hid (B3.out.trans (b4.mono B3.out.size))
        have N4 := Lib.hid (N3.out.below b4)
        clear hw3a r3a hw4 b4
        have d4 := HC.out w4 B4.out 4 (.int .u8 x.p.fn) (by rw [HCS.out]; rfl)
        have d5 := HC.out w4 B4.out 5 (.int .u16 x.p.fl) (by rw [HCS.out]; rfl)
        have d6 := HC.out w4 B4.out 6 (.int .u8 x.p.tn) (by rw [HCS.out]; rfl)
        have d7 := HC.out w4 B4.out 7 (.int .u16 x.p.tl) (by rw [HCS.out]; rfl)
        have d8 := HC.out w4 B4.out 8 (.slice x.A n x.c) (by rw [HCS.out]; rfl)
        have d9 := HC.out w4 B4.out 9 (.bool x.p.bad) (by rw [HCS.out]; rfl)
        have KO := Lib.hid (ownL x w4 (X1.out.at_.below B4.out (Nat.le_refl _) B4.out.size) (by have := HN.out; have := HL.out; omega) X1.out.nn)
        have xcs : x.cs = #[.int .u8 x.p.fn, .int .u16 x.p.fl, .int .u8 x.p.tn, .int .u16 x.p.tl, .slice x.A n x.c, .bool x.p.bad] := by unfold Lp.cs; rw [HN.out]
        rw [xcs] at KO
        clear xcs
        go_wp2_with (first
          | (rw [HA4.out])
          | (refine wpList_store_row rfl 45 (.tmp 7) (.tmp 31) rfl w3.heap.size #[.int .u8 0, .int .u16 0, .int .u8 0, .int .u16 0, .slice none 0 0, .bool false] (by rfl) (by rfl) 45 #[.int .u8 0, .int .u16 0, .int .u8 0, .int .u16 0, .slice none 0 0, .bool false] RA4.out (by kernel_rfl) rfl (by simp [Value.oneCell']) ?_; rw [HB4.out]))
        refine KO.out.mono ?_
        rintro e w5 ⟨y, rfl, -, -, b5⟩
        have B5 := Lib.hid (B4.out.trans (b5.mono B4.out.size))
        have N5 := Lib.hid (N4.out.below b5)
        have KP := Lib.hid (put_none po y w5 N5.out)
        obtain ⟨ys, hys⟩ : ∃ ys, y.cs = ys := ⟨_, rfl⟩
        rw [hys] at KP ⊢
        clear b5 d4 d5 d6 d7 d8 d9 HA4 HB4 RA4 KO hys
        go_wp2_with fail
        refine KP.out.mono ?_
        rintro e w6 ⟨rfl, b6⟩
        have B6 := Lib.hid (B5.out.trans (b6.mono B5.out.size))
        have N6 := Lib.hid (N5.out.below b6)
        have d1 := HC.out w6 B6.out 1 (.int .i64 ai) (by rw [HCS.out]; rfl)
        have d2 := HC.out w6 B6.out 2 (.int .i64 aat) (by rw [HCS.out]; rfl)
        have d3 := HC.out w6 B6.out 3 (.int .u32 am) (by rw [HCS.out]; rfl)
        clear b6 KP
        have K2 := Lib.hid (twice_none po ai w6 N6.out)
        have K3 := Lib.hid (spoil_none po ai aat am w6 N6.out)
        have K4 := Lib.hid (len_none po w6 N6.out)
        have K5 := Lib.hid (all_none po w6 N6.out)
        obtain ⟨w7, hw7⟩ : ∃ X, w6.alloc (.cells #[.pointer none] 64) = X := ⟨_, rfl⟩
        have b7 : Below w6.heap.size w6 w7 := by rw [← hw7]; exact (Below.refl _ _).alloc (Nat.le_refl _) _
        have B7 := Lib.hid (B6.out.trans (b7.mono B6.out.size))
        have N7 : Hid (NoBag w7 (some ⟨w6.heap.size, 0, none⟩)) := Lib.hid (by rw [← hw7]; exact noBag_new w6)
        have HW7 := Lib.hid hw7
        clear hw7 b7 N0 N2 N3 N4 N5 N6 B1 B2 B3 B4 B5 B6
        go_wp2_with (first
          | (go_at_call 14; refine (numE 1 _).mono ?_; rintro e2 w2 ⟨rfl, rfl⟩)
          | (go_at_call 20; refine K2.out.mono ?_; rintro e3 w3 ⟨rfl, rfl⟩)
          | (go_at_call 21; refine K3.out.mono ?_; rintro e3 w3 ⟨rfl, rfl⟩)
          | (go_at_call 12; refine K4.out.mono ?_; rintro e3 w3 ⟨rfl, rfl⟩)
          | (go_at_call 24; refine K5.out.mono ?_; rintro e3 w3 ⟨rfl, rfl⟩)
          | (rw [HW7.out]))
        go_roundw
        case rel => exact ⟨k + 1, by omega, by go_num, _, rfl, N7, B7⟩
        case measure => simp [intOf]; omega
      · obtain rfl : k = 2 := by omega
        go_wp2_with fail
        refine (KK.out _).mono ?_
        rintro e w2 ⟨rfl, b2⟩
        have B2 := Lib.hid (B1.out.trans ((B0.out.mono B1.out.size).trans (b2.mono (by have := B0.out.size; have := B1.out.size; omega))))
        clear b2
        go_wp2
        go_ret
        exact ⟨rfl, B2.out⟩

end Go.Proofs.Yteaafpgkifmdeaa
