/-
  Which views may be: the program's Right, by an exact answer. Condition: the members lie in memory.
-/
import Derived.Test.YtfkmodmgihadkaaVpl
import Derived.Test.YtfkmodmgihadkaaVmat
import Derived.Lib.QuietBelow
namespace Go.Proofs.Ytfkmodmgihadkaa.V
set_option linter.unusedSimpArgs false
set_option linter.unusedVariables false
open Go.RowKit

theorem RowsV.take {W : World} {B : Nat} {A : Option Addr} {X : List P2} (h : RowsV W B A X) (k : Nat) : RowsV W B A (X.take k) := fun hx => by
  have hX : X ≠ [] := by rintro rfl; simp at hx
  obtain ⟨b, o, e, hb, hc⟩ := h hX
  refine ⟨b, o, e, hb, fun i x hi => hc i x ?_⟩
  have hik : i < k := by
    have := (List.getElem?_eq_some_iff.1 hi).1
    simp at this
    omega
  rwa [List.getElem?_take_of_lt hik] at hi

set_option maxRecDepth 100000 in
set_option maxHeartbeats 1000000 in
theorem rightO1 (g N : Int) (A : Option Addr) (V : List P2) (c : Nat) (w : World) (hr : RowsV w w.heap.size A V) (hc : V.length ≤ c) (hm : c ≤ maxLen) :
    Calls Try.prog 28 #[.agg #[.int .u8 g, .int .u32 N, .slice A V.length c]] w fun e w' => e = .returned (.bool (vR g N V)) ∧ Below w.heap.size w w' := by
  have b0 : Hid (Below w.heap.size w (w.alloc (.cells #[.int .u8 g, .int .u32 N, .slice A V.length c] 57))) := Lib.hid ((Below.refl _ _).alloc (Nat.le_refl _) _)
  have r0 : Hid ((w.alloc (.cells #[.int .u8 g, .int .u32 N, .slice A V.length c] 57)).heap[w.heap.size]? = some (.cells #[.int .u8 g, .int .u32 N, .slice A V.length c] 57 (0, 0))) := Lib.hid (heap_alloc_new w _)
  have K1 : Hid (∀ W (x : P2), Calls Try.prog 38 #[.agg #[.int .u8 x.n, .int .u16 x.l]] W fun e w' => e = .returned (.bool x.r) ∧ Below W.heap.size W w') := Lib.hid (fun W x => (opRight x W).mono fun e w' h => ⟨h.1, by rw [← h.2]; exact (Below.refl _ _).alloc (Nat.le_refl _) _⟩)
  have K2 : Hid (∀ W (k : Nat) (n : Int), k ≤ V.length → Below w.heap.size w W → Calls Try.prog 39 #[.slice A k c, .int .u8 n] W fun e w' => e = .returned (.int .i64 (fi (V.take k) n)) ∧ Below W.heap.size W w') := Lib.hid (fun W k n hk hw => by
    have h := placeO A (V.take k) c n W ((hr.below (C := w.heap.size) hw (Nat.le_refl _) hw.size).take k) (by simp; omega) hm
    rwa [show (V.take k).length = k by simp; omega] at h)
  unfold maxLen at hm
  by_cases hg : g < 4 ∧ 1 ≤ N ∧ 1 ≤ V.length ∧ V.length ≤ 8
  · obtain ⟨g1, g2, g3, g4⟩ := hg
    have hv : Hid (vR g N V = okV V) := Lib.hid (by simp [vR, g1, g2, g3, g4])
    have g3i : (1 : Int) ≤ (V.length : Int) := by omega
    have g4i : (V.length : Int) ≤ 8 := by omega
    go_enter Try.func28, Try.ntmps28
    go_wp2
    go_loopw [28] (fun i wx => ∃ k : Nat, k ≤ V.length ∧ i = .int .i64 k ∧ Hid (∀ (i : Nat) (x : P2), i < k → V[i]? = some x → x.r = true ∧ ∀ (j : Nat) (y : P2), j < i → V[j]? = some y → y.n ≠ x.n) ∧ Hid (Below w.heap.size w wx) ∧ Hid (wx.heap[w.heap.size]? = some (.cells #[.int .u8 g, .int .u32 N, .slice A V.length c] 57 (0, 0)))) (fun i _ => V.length - (intOf i).toNat)
    case atStart => exact ⟨0, by omega, rfl, Lib.hid (fun j x hj => absurd hj (by omega)), b0, r0⟩
    case round =>
      clear b0 r0
      obtain ⟨k, hk, rfl, T, B1, R⟩ := hrel
      by_cases hlt : k < V.length
      · obtain ⟨b, o, rfl, hb, C⟩ := hr.at_ hlt
        obtain ⟨c0, c1⟩ := C.below B1.out hb
        have HX := Lib.hid (show V[k]? = some V[k] from List.getElem?_eq_getElem hlt)
        generalize V[k] = x at *
        clear hr C
        have hji : (k : Int) < (V.length : Int) := by omega
        have hj0 : (0 : Int) ≤ (k : Int) := by omega
        have hci : (V.length : Int) ≤ (c : Int) := by omega
        go_wp2
        have HW0 : Below w.heap.size w (wr.alloc (.cells #[.int .u8 x.n, .int .u16 x.l] 54)) := B1.out.alloc B1.out.size _
        have RW0 : (wr.alloc (.cells #[.int .u8 x.n, .int .u16 x.l] 54)).heap[w.heap.size]? = some (.cells #[.int .u8 g, .int .u32 N, .slice (some ⟨b, o, none⟩) V.length c] 57 (0, 0)) := (((Below.refl wr.heap.size wr).alloc (Nat.le_refl _) _).block _ (by obtain ⟨h, _⟩ := Array.getElem?_eq_some_iff.1 R.out; exact h)).trans R.out
        have f0 : (wr.alloc (.cells #[.int .u8 x.n, .int .u16 x.l] 54)).cell? ⟨wr.heap.size, 0, none⟩ = some (.int .u8 x.n) := by simp
        have f1 : (wr.alloc (.cells #[.int .u8 x.n, .int .u16 x.l] 54)).cell? ⟨wr.heap.size, 1, none⟩ = some (.int .u16 x.l) := by simp
        have f2 : (wr.alloc (.cells #[.int .u8 x.n, .int .u16 x.l] 54)).cell? ⟨w.heap.size, 2, none⟩ = some (.slice (some ⟨b, o, none⟩) V.length c) := (cell_of_row _ _ 2 _ _ _ RW0).trans rfl
        have HW := Lib.hid HW0
        have RW := Lib.hid RW0
        clear HW0 RW0 c0 c1 R B1
        generalize wr.alloc (.cells #[.int .u8 x.n, .int .u16 x.l] 54) = W at *
        have k0 := cell_regrown f0
        have k1 := cell_regrown f1
        have k2 := cell_regrown f2
        have hkl : k ≤ V.length := by omega
        have KP := Lib.hid (fun d os => K2.out (Go.Sort.grow (redrawn W d) os) k x.n hkl (HW.out.trans ((below_regrown W d os).mono HW.out.size)))
        have KR := Lib.hid (fun W => K1.out W x)
        rcases (show (x.r = false) ∨ (x.r = true ∧ fi (V.take k) x.n < 0) ∨ (x.r = true ∧ 0 ≤ fi (V.take k) x.n) by
          cases x.r <;> simp; omega) with hxr | ⟨hxr, hfi⟩ | ⟨hxr, hfi⟩
        · have HF := Lib.hid (okV_bad HX.out hxr)
          rw [hxr] at KR
          clear hxr
          refine wp_region_quiet_below (by kernel_rfl) (by kernel_rfl) ?_
          repeat (go_big_quiet_step (first | (go_at_call 38; exact Calls.regrown_of (KR.out _))))
          refine wpQuiet_nil ?_
          intro W9 hW
          obtain ⟨p9, rfl⟩ := hW
          go_wp2
          go_ret
          exact ⟨by rw [hv.out, HF.out]; rfl, HW.out.trans ((below_regrown _ _ _).mono HW.out.size)⟩
        · have HT : Hid (∀ (j : Nat) (y : P2), j < k → V[j]? = some y → y.n ≠ x.n) := Lib.hid (by
            rcases fi_is (V.take k) x.n with ⟨_, h⟩ | ⟨k', _, h, _⟩
            · intro j y hj hy
              exact h j y (by rw [List.getElem?_take_of_lt hj]; exact hy)
            · omega)
          have HXR := Lib.hid hxr
          rw [hxr] at KR
          clear hxr
          generalize fi (V.take k) x.n = z at *
          refine wp_region_quiet_below (by kernel_rfl) (by kernel_rfl) ?_
          repeat (go_big_quiet_step (first | (go_at_call 38; exact Calls.regrown_of (KR.out _)) | (go_at_call 39; exact Calls.regrown_of (KP.out _ _))))
          refine wpQuiet_nil ?_
          intro W9 hW
          obtain ⟨p9, rfl⟩ := hW
          go_wp2
          go_roundw
          case rel => exact ⟨k + 1, by omega, by go_num, Lib.hid (fun i z (hi : i < k + 1) hz => by
            by_cases e : i = k
            · subst e
              rw [HX.out] at hz
              cases hz
              exact ⟨HXR.out, HT.out⟩
            · exact T.out i z (by omega) hz), Lib.hid (HW.out.trans ((below_regrown _ _ _).mono HW.out.size)), Lib.hid (((below_regrown W _ _).block _ (by obtain ⟨h, _⟩ := Array.getElem?_eq_some_iff.1 RW.out; exact h)).trans RW.out)⟩
          case measure => simp [intOf]; omega
        · have HF : Hid (okV V = false) := Lib.hid (by
            rcases fi_is (V.take k) x.n with ⟨h, _⟩ | ⟨k', y, _, hy, hn, _⟩
            · omega
            · have hlk : k' < k := by
                have := (List.getElem?_eq_some_iff.1 hy).1
                simp at this
                omega
              rw [List.getElem?_take_of_lt hlk] at hy
              exact okV_two hlk HX.out hy hn)
          rw [hxr] at KR
          clear hxr
          generalize fi (V.take k) x.n = z at *
          refine wp_region_quiet_below (by kernel_rfl) (by kernel_rfl) ?_
          repeat (go_big_quiet_step (first | (go_at_call 38; exact Calls.regrown_of (KR.out _)) | (go_at_call 39; exact Calls.regrown_of (KP.out _ _))))
          refine wpQuiet_nil ?_
          intro W9 hW
          obtain ⟨p9, rfl⟩ := hW
          go_wp2
          go_ret
          exact ⟨by rw [hv.out, HF.out]; rfl, HW.out.trans ((below_regrown _ _ _).mono HW.out.size)⟩
      · have hkk : k = V.length := by omega
        subst hkk
        have HT := Lib.hid (okV_true (V := V) fun i x hx => T.out i x (List.getElem?_eq_some_iff.1 hx).1 hx)
        go_wp2
        go_ret
        exact ⟨by rw [hv.out, HT.out]; rfl, B1.out⟩
  · have hv : vR g N V = false := by
      unfold vR
      by_cases g1 : g < 4 <;> by_cases g2 : 1 ≤ N <;> by_cases g3 : 1 ≤ V.length <;> by_cases g4 : V.length ≤ 8 <;> simp [*] at hg ⊢
    rw [hv]
    rcases (show 4 ≤ g ∨ (g < 4 ∧ N < 1) ∨ (g < 4 ∧ 1 ≤ N ∧ (V.length : Int) < 1) ∨ (g < 4 ∧ 1 ≤ N ∧ 1 ≤ (V.length : Int) ∧ 8 < (V.length : Int)) by omega) with h | ⟨h, h2⟩ | ⟨h, h2, h3⟩ | ⟨h, h2, h3, h4⟩
    all_goals
      clear hg hv
      go_enter Try.func28, Try.ntmps28
      go_wp2
      go_ret
      exact ⟨rfl, b0.out⟩

end Go.Proofs.Ytfkmodmgihadkaa.V
