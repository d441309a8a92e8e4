/-
  Two views held against each other; which views may be: the document's SameProcs, Same and Right, by exact answers. Condition: the lists lie in memory.
-/
import Derived.Test.YtmhgopaekpnhoaaVrnk
namespace Go.Proofs.Ytmhgopaekpnhoaa.V
set_option linter.unusedSimpArgs false
set_option linter.unusedVariables false
open Go.RowKit

set_option maxRecDepth 100000 in
set_option maxHeartbeats 1000000 in
theorem sameProcs (A B : Option Addr) (X Y : List P2) (c d : Nat) (w : World) (hr : RowsV w w.heap.size A X) (hs : RowsV w w.heap.size B Y) (hc : X.length ≤ c) (hm : c ≤ maxLen) (hd : Y.length ≤ d) (hn : d ≤ maxLen) :
    Calls Try.prog 40 #[.slice A X.length c, .slice B Y.length d] w fun e w' => e = .returned (.bool (decide (X = Y))) ∧ Below w.heap.size w w' := by
  unfold maxLen at hm hn
  by_cases hl : X.length = Y.length
  · have hli : (X.length : Int) = (Y.length : Int) := by omega
    go_enter Try.func40, Try.ntmps40
    go_wp2
    go_loopw [5] (fun i wx => ∃ k : Nat, k ≤ X.length ∧ i = .int .i64 k ∧ Hid (∀ j : Nat, j < k → X[j]? = Y[j]?) ∧ Hid (Below w.heap.size w wx)) (fun i _ => X.length - (intOf i).toNat)
    case atStart => exact ⟨0, by omega, rfl, Lib.hid (fun j hj => absurd hj (by omega)), Lib.hid (Below.refl _ _)⟩
    case round =>
      obtain ⟨k, hk, rfl, T, B⟩ := hrel
      by_cases hlt : k < X.length
      · obtain ⟨b, o, rfl, hb, C⟩ := hr.at_ hlt
        obtain ⟨b2, o2, rfl, hb2, C2⟩ := hs.at_ (k := k) (by omega)
        obtain ⟨c0, c1⟩ := C.below B.out hb
        obtain ⟨d0, d1⟩ := C2.below B.out hb2
        have hlt2 : k < Y.length := by omega
        have HX := Lib.hid (show X[k]? = some X[k] from List.getElem?_eq_getElem hlt)
        have HY := Lib.hid (show Y[k]? = some Y[k] from List.getElem?_eq_getElem hlt2)
        generalize X[k] = x at *
        generalize Y[k] = y at *
        clear hr hs C C2
        have hji : (k : Int) < (X.length : Int) := by omega
        have hji2 : (k : Int) < (Y.length : Int) := by omega
        have hj0 : (0 : Int) ≤ (k : Int) := by omega
        have hci : (X.length : Int) ≤ (c : Int) := by omega
        have hdi : (Y.length : Int) ≤ (d : Int) := by omega
        have hne := neRP x y
        by_cases he : x = y
        · rw [decide_eq_true he] at hne
          have HE := Lib.hid he
          clear he
          go_wp2
          go_quiet (fail)
          clear hne
          go_wp2
          go_roundw
          case rel => exact ⟨k + 1, by omega, by go_num, Lib.hid (fun j (hj : j < k + 1) => by
            by_cases e : j = k
            · subst e
              rw [HX.out, HY.out, HE.out]
            · exact T.out j (by omega)), Lib.hid (by repeat (first | (with_reducible exact B.out) | (with_reducible exact Below.refl _ _) | (with_reducible refine Below.setCell ?_ (by first | omega | (simp; done) | (simp; omega)) _) | (with_reducible refine Below.drew ?_) | (with_reducible refine Below.drewsN ?_) | (with_reducible refine Below.alloc ?_ (by first | omega | (simp; done) | (simp; omega)) _)))⟩
          case measure => simp [intOf]; omega
        · rw [decide_eq_false he] at hne
          have HE : Hid (decide (X = Y) = false) := Lib.hid (decide_eq_false (fun e => he (by
            have h1 := HX.out
            rw [e, HY.out] at h1
            exact (Option.some.inj h1).symm)))
          clear he
          go_wp2
          go_quiet (fail)
          clear hne
          go_wp2
          go_ret
          exact ⟨by rw [HE.out]; rfl, (by repeat (first | (with_reducible exact B.out) | (with_reducible exact Below.refl _ _) | (with_reducible refine Below.setCell ?_ (by first | omega | (simp; done) | (simp; omega)) _) | (with_reducible refine Below.drew ?_) | (with_reducible refine Below.drewsN ?_) | (with_reducible refine Below.alloc ?_ (by first | omega | (simp; done) | (simp; omega)) _)))⟩
      · have hkk : k = X.length := by omega
        subst hkk
        have HE : Hid (decide (X = Y) = true) := Lib.hid (decide_eq_true (List.ext_getElem? fun i => by
          by_cases hi : i < X.length
          · exact T.out i hi
          · rw [List.getElem?_eq_none (by omega), List.getElem?_eq_none (by omega)]))
        go_wp2
        go_ret
        exact ⟨by rw [HE.out]; rfl, (by repeat (first | (with_reducible exact B.out) | (with_reducible exact Below.refl _ _) | (with_reducible refine Below.setCell ?_ (by first | omega | (simp; done) | (simp; omega)) _) | (with_reducible refine Below.drew ?_) | (with_reducible refine Below.drewsN ?_) | (with_reducible refine Below.alloc ?_ (by first | omega | (simp; done) | (simp; omega)) _)))⟩
  · have hli : ¬ (X.length : Int) = (Y.length : Int) := by omega
    rw [decide_eq_false (show ¬ X = Y from fun e => hl (by rw [e]))]
    go_enter Try.func40, Try.ntmps40
    go_wp2
    go_ret
    exact ⟨rfl, Below.refl _ _⟩

theorem rowA (w : World) (c1 c2 : Array Value) (t1 t2 : TypeId) : ((w.alloc (.cells c1 t1)).alloc (.cells c2 t2)).heap[w.heap.size]? = some (.cells c1 t1 (0, 0)) :=
  (((Below.refl (w.heap.size + 1) (w.alloc (.cells c1 t1))).alloc (by simp) (.cells c2 t2)).block w.heap.size (by omega)).trans (heap_alloc_new w _)
theorem rowB (w : World) (c1 c2 : Array Value) (t1 t2 : TypeId) : ((w.alloc (.cells c1 t1)).alloc (.cells c2 t2)).heap[w.heap.size + 1]? = some (.cells c2 t2 (0, 0)) := by
  have hg := heap_alloc_new (w.alloc (.cells c1 t1)) (.cells c2 t2)
  have e : (w.alloc (.cells c1 t1)).heap.size = w.heap.size + 1 := by simp
  rw [e] at hg
  exact hg
theorem two_below (w : World) (c1 c2 : Array Value) (t1 t2 : TypeId) : Below w.heap.size w ((w.alloc (.cells c1 t1)).alloc (.cells c2 t2)) := ((Below.refl _ _).alloc (Nat.le_refl _) _).alloc (by simp) _

/-- may there be such members? -/
def okV (V : List P2) : Bool := V.all P2.r && decide (V.Pairwise fun a b => a.n ≠ b.n)
/-- may there be such a view? -/
def vR (g N : Int) (V : List P2) : Bool := decide (g < 4) && decide (1 ≤ N) && decide (1 ≤ V.length) && decide (V.length ≤ 8) && okV V
theorem okV_true {V : List P2} (h : ∀ (i : Nat) (x : P2), V[i]? = some x → x.r = true ∧ ∀ (j : Nat) (y : P2), j < i → V[j]? = some y → y.n ≠ x.n) : okV V = true := by
  have h1 : V.all P2.r = true := by
    rw [List.all_eq_true]
    intro x hx
    obtain ⟨j, hj⟩ := List.getElem?_of_mem hx
    exact (h j x hj).1
  have h2 : V.Pairwise fun a b => a.n ≠ b.n := by
    rw [List.pairwise_iff_getElem]
    intro i j hi hj hij
    exact (h j _ (List.getElem?_eq_getElem hj)).2 i _ hij (List.getElem?_eq_getElem hi)
  simp [okV, h1, h2]
theorem okV_bad {V : List P2} {i : Nat} {x : P2} (hi : V[i]? = some x) (hr : x.r = false) : okV V = false := by
  have : V.all P2.r = false := by
    rw [List.all_eq_false]
    exact ⟨x, List.mem_of_getElem? hi, by simp [hr]⟩
  simp [okV, this]
theorem okV_two {V : List P2} {i j : Nat} {x y : P2} (hj : j < i) (hi : V[i]? = some x) (h2 : V[j]? = some y) (he : y.n = x.n) : okV V = false := by
  have : ¬ V.Pairwise fun a b => a.n ≠ b.n := by
    rw [List.pairwise_iff_getElem]
    intro h
    have hi' := List.getElem?_eq_some_iff.1 hi
    have hj' := List.getElem?_eq_some_iff.1 h2
    have := h j i hj'.1 hi'.1 hj
    rw [hi'.2, hj'.2] at this
    exact this he
  simp [okV, this]

set_option maxRecDepth 100000 in
set_option maxHeartbeats 1000000 in
theorem rightR (g N : Int) (A : Option Addr) (V : List P2) (c : Nat) (w : World) (hr : RowsV w w.heap.size A V) (hc : V.length ≤ c) (hm : c ≤ maxLen) :
    Calls Try.prog 53 #[.agg #[.int .u8 g, .int .u32 N, .slice A V.length c]] w fun e w' => e = .returned (.bool (vR g N V)) ∧ Below w.heap.size w w' := by
  have b0 : Hid (Below w.heap.size w (w.alloc (.cells #[.int .u8 g, .int .u32 N, .slice A V.length c] 58))) := Lib.hid ((Below.refl _ _).alloc (Nat.le_refl _) _)
  have r0 : Hid ((w.alloc (.cells #[.int .u8 g, .int .u32 N, .slice A V.length c] 58)).heap[w.heap.size]? = some (.cells #[.int .u8 g, .int .u32 N, .slice A V.length c] 58 (0, 0))) := Lib.hid (heap_alloc_new w _)
  have K1 : Hid (∀ W (x : P2), Calls Try.prog 74 #[.agg #[.int .u8 x.n, .int .u16 x.l]] W fun e w' => e = .returned (.bool x.r) ∧ Below W.heap.size W w') := Lib.hid (fun W x => (rpRight x W).mono fun e w' h => ⟨h.1, by rw [← h.2]; exact (Below.refl _ _).alloc (Nat.le_refl _) _⟩)
  unfold maxLen at hm
  by_cases hg : g < 4 ∧ 1 ≤ N ∧ 1 ≤ V.length ∧ V.length ≤ 8
  · obtain ⟨g1, g2, g3, g4⟩ := hg
    have hv : Hid (vR g N V = okV V) := Lib.hid (by simp [vR, g1, g2, g3, g4])
    have g3i : (1 : Int) ≤ (V.length : Int) := by omega
    have g4i : (V.length : Int) ≤ 8 := by omega
    go_enter Try.func53, Try.ntmps53
    go_wp2
    go_loopw [3] (fun i wx => ∃ k : Nat, k ≤ V.length ∧ i = .int .i64 k ∧ Hid (∀ (i : Nat) (x : P2), i < k → V[i]? = some x → x.r = true ∧ ∀ (j : Nat) (y : P2), j < i → V[j]? = some y → y.n ≠ x.n) ∧ Hid (Below w.heap.size w wx) ∧ Hid (wx.heap[w.heap.size]? = some (.cells #[.int .u8 g, .int .u32 N, .slice A V.length c] 58 (0, 0)))) (fun i _ => V.length - (intOf i).toNat)
    case atStart => exact ⟨0, by omega, rfl, Lib.hid (fun j x hj => absurd hj (by omega)), b0, r0⟩
    case round =>
      clear b0 r0
      obtain ⟨k, hk, rfl, T, B1, R⟩ := hrel
      have e2 : wr.cell? ⟨w.heap.size, 2, none⟩ = some (.slice A V.length c) := (cell_of_row _ _ 2 _ _ _ R.out).trans rfl
      by_cases hlt : k < V.length
      · have HR := Lib.hid hr
        obtain ⟨b, o, rfl, hb, C⟩ := hr.at_ hlt
        obtain ⟨c0, c1⟩ := C.below B1.out hb
        have HC := Lib.hid C
        have HX := Lib.hid (show V[k]? = some V[k] from List.getElem?_eq_getElem hlt)
        generalize V[k] = x at *
        clear hr C
        have hji : (k : Int) < (V.length : Int) := by omega
        have hj0 : (0 : Int) ≤ (k : Int) := by omega
        have hci : (V.length : Int) ≤ (c : Int) := by omega
        cases hxr : x.r with
        | false =>
          have HF := Lib.hid (okV_bad HX.out hxr)
          have K2 := Lib.hid (fun W => (hxr ▸ K1.out W x : Calls Try.prog 74 #[.agg #[.int .u8 x.n, .int .u16 x.l]] W fun e w' => e = .returned (.bool false) ∧ Below W.heap.size W w'))
          clear hxr
          go_wp2_with (go_at_call 74; refine (K2.out _).mono ?_; rintro e w1 ⟨rfl, b1⟩
                       have B2 := Lib.hid (B1.out.trans (b1.mono B1.out.size))
                       clear b1)
          go_ret
          exact ⟨by rw [hv.out, HF.out]; rfl, B2.out⟩
        | true =>
          have K2 := Lib.hid (fun W => (hxr ▸ K1.out W x : Calls Try.prog 74 #[.agg #[.int .u8 x.n, .int .u16 x.l]] W fun e w' => e = .returned (.bool true) ∧ Below W.heap.size W w'))
          have HXR := Lib.hid hxr
          clear hxr
          go_wp2_with (go_at_call 74; refine (K2.out _).mono ?_; rintro e w1 ⟨rfl, b1⟩
                       have B2 := Lib.hid (B1.out.trans (b1.mono B1.out.size))
                       have R2 := Lib.hid ((b1.block _ (by obtain ⟨h, _⟩ := Array.getElem?_eq_some_iff.1 R.out; exact h)).trans R.out)
                       clear b1 e2 c0 c1)
          go_loopw [4] (fun i wx => ∃ k2 : Nat, k2 ≤ k ∧ i = .int .i64 k2 ∧ Hid (∀ (j : Nat) (y : P2), j < k2 → V[j]? = some y → y.n ≠ x.n) ∧ Hid (Below w.heap.size w wx) ∧ Hid (wx.heap[w.heap.size]? = some (.cells #[.int .u8 g, .int .u32 N, .slice (some ⟨b, o, none⟩) V.length c] 58 (0, 0)))) (fun i _ => k - (intOf i).toNat)
          case atStart => exact ⟨0, by omega, rfl, Lib.hid (fun j x hj => absurd hj (by omega)), B2, R2⟩
          case round =>
            clear B2 R2
            obtain ⟨k2, hk2, rfl, T2, B3, R3⟩ := hrel
            by_cases hlt2 : k2 < k
            · have hl2 : k2 < V.length := by omega
              obtain ⟨b', o', e', _, C2⟩ := HR.out.at_ hl2
              cases e'
              obtain ⟨c0, c1⟩ := HC.out.below B3.out hb
              obtain ⟨d0, d1⟩ := C2.below B3.out hb
              have e2 : wr.cell? ⟨w.heap.size, 2, none⟩ = some (.slice (some ⟨b, o, none⟩) V.length c) := (cell_of_row _ _ 2 _ _ _ R3.out).trans rfl
              have HY := Lib.hid (show V[k2]? = some V[k2] from List.getElem?_eq_getElem hl2)
              generalize V[k2] = y at *
              clear C2
              have hj2 : (k2 : Int) < (k : Int) := by omega
              have hj2v : (k2 : Int) < (V.length : Int) := by omega
              have hj20 : (0 : Int) ≤ (k2 : Int) := by omega
              by_cases he : y.n = x.n
              · have HF := Lib.hid (okV_two hlt2 HX.out HY.out he)
                have heb : (y.n == x.n) = true := by rw [beq_iff_eq]; exact he
                rw [he] at d0
                clear he heb
                go_wp2
                go_quiet (fail)
                go_wp2
                go_ret
                exact ⟨by rw [hv.out, HF.out]; rfl, (by repeat (first | (with_reducible exact B3.out) | (with_reducible refine Below.drewsN ?_) | (with_reducible refine Below.drew ?_)))⟩
              · have heb : (y.n == x.n) = false := by rw [beq_eq_false_iff_ne]; exact he
                have HE := Lib.hid he
                go_wp2
                go_quiet (fail)
                go_wp2
                go_roundw
                case rel => exact ⟨k2 + 1, by omega, by go_num, Lib.hid (fun j z (hj : j < k2 + 1) hz => by
                  by_cases e : j = k2
                  · subst e
                    rw [HY.out] at hz
                    cases hz
                    exact HE.out
                  · exact T2.out j z (by omega) hz), Lib.hid (by repeat (first | (with_reducible exact B3.out) | (with_reducible refine Below.drewsN ?_) | (with_reducible refine Below.drew ?_))), Lib.hid (by simpa using R3.out)⟩
                case measure => simp [intOf]; omega
            · have hkk : k2 = k := by omega
              subst hkk
              go_wp2
              go_roundw
              case rel => exact ⟨k2 + 1, by omega, by go_num, Lib.hid (fun i z (hi : i < k2 + 1) hz => by
                by_cases e : i = k2
                · subst e
                  rw [HX.out] at hz
                  cases hz
                  exact ⟨HXR.out, T2.out⟩
                · exact T.out i z (by omega) hz), B3, R3⟩
              case measure => simp [intOf]; omega
      · have hkk : k = V.length := by omega
        subst hkk
        have HT := Lib.hid (okV_true (V := V) fun i x hx => T.out i x (List.getElem?_eq_some_iff.1 hx).1 hx)
        go_wp2
        go_ret
        exact ⟨by rw [hv.out, HT.out]; rfl, B1.out⟩
  · have hv : vR g N V = false := by
      unfold vR
      by_cases g1 : g < 4 <;> by_cases g2 : 1 ≤ N <;> by_cases g3 : 1 ≤ V.length <;> by_cases g4 : V.length ≤ 8 <;> simp [*] at hg ⊢
    rw [hv]
    rcases (show 4 ≤ g ∨ (g < 4 ∧ N < 1) ∨ (g < 4 ∧ 1 ≤ N ∧ (V.length : Int) < 1) ∨ (g < 4 ∧ 1 ≤ N ∧ 1 ≤ (V.length : Int) ∧ 8 < (V.length : Int)) by omega) with h | ⟨h, h2⟩ | ⟨h, h2, h3⟩ | ⟨h, h2, h3, h4⟩
    all_goals
      clear hg hv
      go_enter Try.func53, Try.ntmps53
      go_wp2
      go_ret
      exact ⟨rfl, b0.out⟩

end Go.Proofs.Ytmhgopaekpnhoaa.V
