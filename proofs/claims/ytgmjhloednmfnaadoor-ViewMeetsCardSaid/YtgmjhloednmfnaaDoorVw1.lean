/-
  The walk of the law ViewNexts. Conditions: the lists lie in memory, each number fits its kind; knows is met.
-/
import Derived.Test.YtgmjhloednmfnaaDoorVprg
import Derived.Test.YtgmjhloednmfnaaDoorVnxt
import Derived.Test.YtgmjhloednmfnaaDoorEfg
namespace Go.Proofs.YtgmjhloednmfnaaDoor
set_option linter.unusedSimpArgs false
set_option linter.unusedVariables false
open Go.RowKit Go.Sort

/-- what the laws keep: the argument's block, the program's view, and its members, a row of the call's own. -/
structure LX (w W : World) (bv bx : Nat) (C : Array Value) (g N : Int) (V : List P2) (A1 : Option Addr) (c1 : Nat) : Prop where
  bel : Below w.heap.size w W
  rv : W.heap[bv]? = some (.cells C 25 (0, 0))
  rx : W.heap[bx]? = some (.cells #[.int .u8 g, .int .u32 N, .slice A1 V.length c1] 30 (0, 0))
  own : W.ownsRow w.heap.size 48 2 (.slice A1 V.length c1) V.length (cellsV V)
  lv : bv < bx
theorem LX.lt {w W : World} {bv bx : Nat} {C : Array Value} {g N : Int} {V : List P2} {A1 : Option Addr} {c1 : Nat} (h : LX w W bv bx C g N V A1 c1) : bx < W.heap.size := by
  obtain ⟨h, _⟩ := Array.getElem?_eq_some_iff.1 h.rx
  exact h
theorem LX.below {w W W' : World} {bv bx : Nat} {C : Array Value} {g N : Int} {V : List P2} {A1 : Option Addr} {c1 : Nat} (h : LX w W bv bx C g N V A1 c1) (b : Below W.heap.size W W') : LX w W' bv bx C g N V A1 c1 where
  bel := h.bel.trans (b.mono h.bel.size)
  rv := (b.block _ (Nat.lt_trans h.lv h.lt)).trans h.rv
  rx := (b.block _ h.lt).trans h.rx
  own := own_kept h.own b
  lv := h.lv
theorem nxV_len (g N : Int) (V drop add : List P2) (hV : V.length ≤ 40) (hA : add.length ≤ 40) : (nxV g N V drop add).length ≤ 80 := by
  unfold nxV
  split
  · have h1 := addAll_len (kept V drop V.length) add
    have h2 := kept_len V drop V.length
    show (addAll (kept V drop V.length) add).length ≤ 80
    omega
  · simp
theorem LX.cells3 {w W : World} {bv bx : Nat} {C : Array Value} {g N : Int} {V : List P2} {A1 : Option Addr} {c1 : Nat} (h : LX w W bv bx C g N V A1 c1) : W.cell? ⟨bx, 0, none⟩ = some (.int .u8 g) ∧ W.cell? ⟨bx, 1, none⟩ = some (.int .u32 N) ∧ W.cell? ⟨bx, 2, none⟩ = some (.slice A1 V.length c1) :=
  ⟨(cell_of_row _ _ 0 _ _ _ h.rx).trans rfl, (cell_of_row _ _ 1 _ _ _ h.rx).trans rfl, (cell_of_row _ _ 2 _ _ _ h.rx).trans rfl⟩
theorem rows_own {W : World} {base n c : Nat} {e : TypeId} {A : Option Addr} {X : List P2} (h : W.ownsRow base e 2 (.slice A n c) X.length (cellsV X)) : RowsV W W.heap.size A X ∧ X.length ≤ c ∧ c ≤ maxLen := by
  obtain ⟨A', c', ev, h1, h2, h3⟩ := rowsV_of_own h
  cases ev
  exact ⟨h1, h2, h3⟩
theorem wp_cutV {P : Program} {code : Code} {Q : Exit → Act → World → Prop} {a0 : Act} {w0 : World} (R : Act → Act → World → Prop) (h : code.wp P (fun e a w => e = .normal ∧ R a0 a w) a0 w0) (hk : ∀ a w, R a0 a w → Q .normal a w) : code.wp P Q a0 w0 :=
  Code.wp_mono (fun e a w h => by obtain ⟨rfl, h⟩ := h; exact hk a w h) h
/-- behind 'a, e := x.Next(..)'. -/
def AtN4 (w : World) (bv bx : Nat) (C : Array Value) (g N : Int) (V drop add : List P2) (A1 : Option Addr) (c1 : Nat) (a0 a : Act) (W : World) : Prop :=
  ∃ (u24 u25 u26 u27 u28 u29 u30 u31 u32 : Value) (bk : Nat) (A2 : Option Addr) (c2 : Nat),
    a = ((((((((((a0.put (some 24) u24).put (some 25) u25).put (some 26) u26).put (some 27) u27).put (some 28) u28).put (some 29) u29).put (some 30) u30).put (some 31) u31).put (some 32) u32).put (some 8) (.pointer (some ⟨bk, 0, none⟩))).put (some 9) (.int .i64 (nxC g N V drop add)) ∧
    Hid (LX w W bv bx C g N V A1 c1) ∧
    Hid (W.heap[bk]? = some (.cells #[.int .u8 (nxG g N V drop add), .int .u32 (nxN g N V drop add), .slice A2 (nxV g N V drop add).length c2] 30 (0, 0))) ∧
    Hid (W.ownsRow w.heap.size 48 2 (.slice A2 (nxV g N V drop add).length c2) (nxV g N V drop add).length (cellsV (nxV g N V drop add)))
theorem AtN4_new {w w6 : World} {bv bx : Nat} {C : Array Value} {g N : Int} {V drop add : List P2} {A1 A2 : Option Addr} {c1 c2 : Nat} {a0 a : Act} (ha : ∃ (u24 u25 u26 u27 u28 u29 u30 u31 u32 : Value), a = ((((((((((a0.put (some 24) u24).put (some 25) u25).put (some 26) u26).put (some 27) u27).put (some 28) u28).put (some 29) u29).put (some 30) u30).put (some 31) u31).put (some 32) u32).put (some 8) (.pointer (some ⟨w6.heap.size, 0, none⟩))).put (some 9) (.int .i64 (nxC g N V drop add)))
    (hX : LX w w6 bv bx C g N V A1 c1) (hQ' : ∃ K, w.heap.size ≤ K ∧ w6.ownsRow K 48 2 (.slice A2 (nxV g N V drop add).length c2) (nxV g N V drop add).length (cellsV (nxV g N V drop add))) :
    Exit.normal = Exit.normal ∧ AtN4 w bv bx C g N V drop add A1 c1 a0 a (w6.alloc (.cells #[.int .u8 (nxG g N V drop add), .int .u32 (nxN g N V drop add), .slice A2 (nxV g N V drop add).length c2] 30)) := by
  obtain ⟨u24, u25, u26, u27, u28, u29, u30, u31, u32, rfl⟩ := ha
  obtain ⟨K, hK, hQ⟩ := hQ'
  exact ⟨rfl, u24, u25, u26, u27, u28, u29, u30, u31, u32, w6.heap.size, A2, c2, rfl, Lib.hid (hX.below ((Below.refl _ _).alloc (Nat.le_refl _) _)), Lib.hid (heap_alloc_new w6 _), Lib.hid (own_kept (own_mono hQ hK) ((Below.refl _ _).alloc (Nat.le_refl _) _))⟩
theorem AtN4_set {w w6 : World} {bv bx bk : Nat} {C : Array Value} {g N : Int} {V drop add : List P2} {A1 A2 : Option Addr} {c1 c2 : Nat} {a0 a : Act} (ha : ∃ (u24 u25 u26 u27 u28 u29 u30 u31 u32 : Value), a = ((((((((((a0.put (some 24) u24).put (some 25) u25).put (some 26) u26).put (some 27) u27).put (some 28) u28).put (some 29) u29).put (some 30) u30).put (some 31) u31).put (some 32) u32).put (some 8) (.pointer (some ⟨bk, 0, none⟩))).put (some 9) (.int .i64 (nxC g N V drop add)))
    (hX' : ∃ W3, LX w W3 bv bx C g N V A1 c1 ∧ Below W3.heap.size W3 w6 ∧ W3.heap.size ≤ bk) (hz : w6.heap[bk]? = some (.cells #[.int .u8 0, .int .u32 0, .slice none 0 0] 30 (0, 0))) (hQ' : ∃ K, bk < K ∧ w.heap.size ≤ K ∧ w6.ownsRow K 48 2 (.slice A2 (nxV g N V drop add).length c2) (nxV g N V drop add).length (cellsV (nxV g N V drop add))) :
    Exit.normal = Exit.normal ∧ AtN4 w bv bx C g N V drop add A1 c1 a0 a (((w6.setCell ⟨bk, 0, none⟩ (.int .u8 (nxG g N V drop add))).setCell ⟨bk, 1, none⟩ (.int .u32 (nxN g N V drop add))).setCell ⟨bk, 2, none⟩ (.slice A2 (nxV g N V drop add).length c2)) := by
  obtain ⟨u24, u25, u26, u27, u28, u29, u30, u31, u32, rfl⟩ := ha
  obtain ⟨W3, hX, hB, hbk⟩ := hX'
  obtain ⟨K, hlt, hK, hQ⟩ := hQ'
  exact ⟨rfl, u24, u25, u26, u27, u28, u29, u30, u31, u32, bk, A2, c2, rfl, Lib.hid (hX.below (((hB.setCell hbk _).setCell hbk _).setCell hbk _)), Lib.hid (by rw [row_set (row_set (row_set hz _) _) _]; rfl), Lib.hid (own_mono (ownsRow_setCell_below (ownsRow_setCell_below (ownsRow_setCell_below hQ hlt _) hlt _) hlt _) hK)⟩
set_option maxRecDepth 100000 in
set_option maxHeartbeats 1000000 in
theorem walkNexts (g N : Int) (A B D : Option Addr) (V drop add : List P2) (c d e : Nat) (w : World) (hr : RowsV w w.heap.size A V) (hs : RowsV w w.heap.size B drop) (ht : RowsV w w.heap.size D add) (h4V : V.length * 4 ≤ 140737488355328) (h4B : drop.length * 4 ≤ 140737488355328) (h4A : add.length * 4 ≤ 140737488355328) (hc : V.length ≤ c) (hm : c ≤ maxLen) (hd : drop.length ≤ d) (hn : d ≤ maxLen) (he : add.length ≤ e) (ho : e ≤ maxLen)
    (hg : 0 ≤ g ∧ g ≤ 255) (hN : 0 ≤ N ∧ N ≤ 4294967295) (rV : ∀ p ∈ V, p.Rng) (rD : ∀ p ∈ drop, p.Rng) (rA : ∀ p ∈ add, p.Rng) (hK : ∀ W, Below w.heap.size w W → Calls Tryd.prog 6 #[] W fun e w' => e = .returned (.bool true) ∧ Below W.heap.size W w') :
    Calls Tryd.prog 3 #[.agg #[.int .u8 g, .int .u32 N, .slice A V.length c], .slice B drop.length d, .slice D add.length e] w fun x w' => x = .returned (.bool true) ∧ Below w.heap.size w w' := by
  have HV := Lib.hid (fun W (hw : Below w.heap.size w W) => hr.below (C := w.heap.size) (B' := W.heap.size) hw (Nat.le_refl _) hw.size)
  have HB := Lib.hid (fun W (hw : Below w.heap.size w W) => hs.below (C := w.heap.size) (B' := W.heap.size) hw (Nat.le_refl _) hw.size)
  have HD := Lib.hid (fun W (hw : Below w.heap.size w W) => ht.below (C := w.heap.size) (B' := W.heap.size) hw (Nat.le_refl _) hw.size)
  have HK := Lib.hid hK
  have b0 : Hid (Below w.heap.size w (w.alloc (.cells #[.int .u8 g, .int .u32 N, .slice A V.length c] 25))) := Lib.hid ((Below.refl _ _).alloc (Nat.le_refl _) _)
  have r0 : Hid ((w.alloc (.cells #[.int .u8 g, .int .u32 N, .slice A V.length c] 25)).heap[w.heap.size]? = some (.cells #[.int .u8 g, .int .u32 N, .slice A V.length c] 25 (0, 0))) := Lib.hid (heap_alloc_new w _)
  have l0 : Hid (w.heap.size < (w.alloc (.cells #[.int .u8 g, .int .u32 N, .slice A V.length c] 25)).heap.size) := Lib.hid (by simp)
  have RVh := Lib.hid rV
  have RDh := Lib.hid rD
  have RAh := Lib.hid rA
  have HG := Lib.hid hg
  have HN := Lib.hid hN
  have KF := Lib.hid (fun W => fewV g N A B V.length drop.length c d W hc hd hm hn)
  clear hr hs ht hK rV rD rA hg hN
  by_cases hall : V.length ≤ 40 ∧ drop.length ≤ 40 ∧ add.length ≤ 40
  rotate_left
  · cases hf : (decide (V.length ≤ 40) && decide (drop.length ≤ 40)) with
    | false =>
      rw [hf] at KF
      clear hall hf
      go_enter Tryd.func3, Tryd.ntmps3
      go_wp2_with (first
        | (go_at_call 5; refine (KF.out _).mono ?_; rintro e1 w1 ⟨rfl, b1⟩
           have H1 := Lib.hid (b0.out.trans (b1.mono b0.out.size))
           clear b1)
        | (go_at_call 6; refine (HK.out _ H1.out).mono ?_; rintro e2 w2 ⟨rfl, b2⟩
           have H2 := Lib.hid (H1.out.trans (b2.mono H1.out.size))
           clear b2))
      go_ret
      exact ⟨rfl, H2.out⟩
    | true =>
      rw [hf] at KF
      simp only [Bool.and_eq_true, decide_eq_true_eq] at hf
      have h40 : (40 : Int) < (add.length : Int) := by omega
      clear hall hf
      go_enter Tryd.func3, Tryd.ntmps3
      go_wp2_with (first
        | (go_at_call 5; refine (KF.out _).mono ?_; rintro e1 w1 ⟨rfl, b1⟩
           have H1 := Lib.hid (b0.out.trans (b1.mono b0.out.size))
           clear b1)
        | (go_at_call 6; refine (HK.out _ H1.out).mono ?_; rintro e2 w2 ⟨rfl, b2⟩
           have H2 := Lib.hid (H1.out.trans (b2.mono H1.out.size))
           clear b2))
      go_ret
      exact ⟨rfl, H2.out⟩
  · obtain ⟨hV40, hB40, hA40⟩ := hall
    rw [show (decide (V.length ≤ 40) && decide (drop.length ≤ 40)) = true by simp [hV40, hB40]] at KF
    have h40 : (add.length : Int) ≤ 40 := by omega
    go_enter Tryd.func3, Tryd.ntmps3
    go_wp2_with (first
        | (go_at_call 5; refine (KF.out _).mono ?_; rintro e1 w1 ⟨rfl, b1⟩
           have H1 := Lib.hid (b0.out.trans (b1.mono b0.out.size))
           have R1 := Lib.hid ((b1.block _ l0.out).trans r0.out)
           have L1 : Hid (w.heap.size < w1.heap.size) := Lib.hid (Nat.lt_of_lt_of_le l0.out b1.size)
           have e0 : w1.cell? ⟨w.heap.size, 0, none⟩ = some (.int .u8 g) := (cell_of_row _ _ 0 _ _ _ R1.out).trans rfl
           have e1 : w1.cell? ⟨w.heap.size, 1, none⟩ = some (.int .u32 N) := (cell_of_row _ _ 1 _ _ _ R1.out).trans rfl
           have e2 : w1.cell? ⟨w.heap.size, 2, none⟩ = some (.slice A V.length c) := (cell_of_row _ _ 2 _ _ _ R1.out).trans rfl
           clear b1 b0 r0 l0)
        | (go_at_call 7; refine (ownV g N A V c w1 (HV.out _ H1.out) h4V hc hm).mono ?_; rintro e2 w2 ⟨A1, c1, rfl, O2, b2⟩
           have X2 : Hid (LX w (w2.alloc (.cells #[.int .u8 g, .int .u32 N, .slice A1 V.length c1] 30)) w.heap.size w2.heap.size #[.int .u8 g, .int .u32 N, .slice A V.length c] g N V A1 c1) := Lib.hid {
             bel := (H1.out.trans (b2.mono H1.out.size)).alloc (Nat.le_trans H1.out.size b2.size) _
             rv := (((Below.refl w2.heap.size w2).alloc (Nat.le_refl _) _).block _ (Nat.lt_of_lt_of_le L1.out b2.size)).trans ((b2.block _ L1.out).trans R1.out)
             rx := heap_alloc_new w2 _
             own := own_kept (own_mono O2 H1.out.size) ((Below.refl _ _).alloc (Nat.le_refl _) _)
             lv := Nat.lt_of_lt_of_le L1.out b2.size }
           have LC := Lib.hid (rows_own O2).2
           clear b2 O2 H1 R1 L1 e0 e1 e2))
    generalize w2.alloc (.cells #[.int .u8 g, .int .u32 N, .slice A1 V.length c1] 30) = W3 at X2 ⊢
    generalize w2.heap.size = bx at X2 ⊢
    have f0 : W3.cell? ⟨bx, 0, none⟩ = some (.int .u8 g) := (cell_of_row _ _ 0 _ _ _ X2.out.rx).trans rfl
    have f1 : W3.cell? ⟨bx, 1, none⟩ = some (.int .u32 N) := (cell_of_row _ _ 1 _ _ _ X2.out.rx).trans rfl
    have f2 : W3.cell? ⟨bx, 2, none⟩ = some (.slice A1 V.length c1) := (cell_of_row _ _ 2 _ _ _ X2.out.rx).trans rfl
    have lbx : bx < W3.heap.size := X2.out.lt
    have nb3 : ¬ W3.heap.size = bx := by omega
    have nc3 : ¬ bx = W3.heap.size := by omega
    refine wp_cutV (AtN4 w w.heap.size bx #[.int .u8 g, .int .u32 N, .slice A V.length c] g N V drop add A1 c1) ?_ ?_
    · go_region_held3 (fun W => W.cell? ⟨bx, 0, none⟩ = some (.int .u8 g) ∧ W.cell? ⟨bx, 1, none⟩ = some (.int .u32 N) ∧ W.cell? ⟨bx, 2, none⟩ = some (.slice A1 V.length c1)) ((first | (exact Y6.out.cells3) | (exact Y5.out.cells3) | (exact Y4.out.cells3) | (simp; done) | (go_simp; done) | go_keep)) (first
          | (have Y5x := Y5.out; go_at_call 8; refine (nextO g N A1 E1 E2 V drop add c1 m1 m2 _ (rows_own ((Y5x.below (show Below w5.heap.size w5 _ from (by repeat (first | (with_reducible exact Below.refl _ _) | (with_reducible refine Below.drew ?_) | (with_reducible refine Below.alloc ?_ (by first | omega | (simp; done) | (simp; omega)) _))))).own)).1 (rows_own (own_kept P4.out (show Below w5.heap.size w5 _ from (by repeat (first | (with_reducible exact Below.refl _ _) | (with_reducible refine Below.drew ?_) | (with_reducible refine Below.alloc ?_ (by first | omega | (simp; done) | (simp; omega)) _)))))).1 (rows_own (own_kept P5.out (show Below w5.heap.size w5 _ from (by repeat (first | (with_reducible exact Below.refl _ _) | (with_reducible refine Below.drew ?_) | (with_reducible refine Below.alloc ?_ (by first | omega | (simp; done) | (simp; omega)) _)))))).1 LC.out.1 LC.out.2 le1.out.1 le1.out.2 le2.out.1 le2.out.2 hV40 hB40 hA40 HG.out HN.out RVh.out RDh.out RAh.out).mono ?_
             rintro e6 w6 ⟨v6, rfl, O6, b6⟩
             obtain ⟨A2, c2, rfl, -, -, -⟩ := rowsV_of_own O6
             have Y6 := Lib.hid ((Y5x.below (show Below w5.heap.size w5 _ from (by repeat (first | (with_reducible exact Below.refl _ _) | (with_reducible refine Below.drew ?_) | (with_reducible refine Below.alloc ?_ (by first | omega | (simp; done) | (simp; omega)) _))))).below b6)
             have B6 := Lib.hid (B5.out.trans (((show Below w5.heap.size w5 _ from (by repeat (first | (with_reducible exact Below.refl _ _) | (with_reducible refine Below.drew ?_) | (with_reducible refine Below.alloc ?_ (by first | omega | (simp; done) | (simp; omega)) _)))).mono B5.out.size).trans (b6.mono (Nat.le_trans B5.out.size (show Below w5.heap.size w5 _ from (by repeat (first | (with_reducible exact Below.refl _ _) | (with_reducible refine Below.drew ?_) | (with_reducible refine Below.alloc ?_ (by first | omega | (simp; done) | (simp; omega)) _)))).size))))
             have Q6 := Lib.hid O6
             (first | (have zr := (b6.block _ (by first | exact (Array.getElem?_eq_some_iff.1 zr).1 | (simp; done))).trans zr) | (have zr : w6.heap[w5.heap.size]? = some (.cells #[.int .u8 0, .int .u32 0, .slice none 0 0] 30 (0, 0)) := (b6.block _ (by simp)).trans (heap_alloc_new w5 (.cells #[.int .u8 0, .int .u32 0, .slice none 0 0] 30))) | skip)
             (try (have q0 := (cell_of_row _ _ 0 _ _ _ zr).trans (show (#[.int .u8 0, .int .u32 0, .slice none 0 0] : Array Value)[0]? = some (.int .u8 0) from rfl); have q1 := (cell_of_row _ _ 1 _ _ _ zr).trans (show (#[.int .u8 0, .int .u32 0, .slice none 0 0] : Array Value)[1]? = some (.int .u32 0) from rfl); have q2 := (cell_of_row _ _ 2 _ _ _ zr).trans (show (#[.int .u8 0, .int .u32 0, .slice none 0 0] : Array Value)[2]? = some (.slice none 0 0) from rfl); have p0 := frz_row 0 zr; have p1 := frz_row 1 zr; have p2 := frz_row 2 zr))
             obtain ⟨s0, s1, s2⟩ := Y6.out.cells3
             clear Y5x b6 O6)
          | (have Y4x := Y4.out; go_at_call 9; refine (procs D add e _ (HD.out _ ((Y4x.below (show Below w4.heap.size w4 _ from (by repeat (first | (with_reducible exact Below.refl _ _) | (with_reducible refine Below.drew ?_) | (with_reducible refine Below.alloc ?_ (by first | omega | (simp; done) | (simp; omega)) _))))).bel)) h4A he ho).mono ?_
             rintro e5 w5 ⟨v5, rfl, O5, b5⟩
             obtain ⟨E2, m2, rfl, -, le2a, le2b⟩ := rowsV_of_own O5
             have le2 := Lib.hid (And.intro le2a le2b)
             have Y5 := Lib.hid ((Y4x.below (show Below w4.heap.size w4 _ from (by repeat (first | (with_reducible exact Below.refl _ _) | (with_reducible refine Below.drew ?_) | (with_reducible refine Below.alloc ?_ (by first | omega | (simp; done) | (simp; omega)) _))))).below b5)
             have B5 := Lib.hid (B4.out.trans (((show Below w4.heap.size w4 _ from (by repeat (first | (with_reducible exact Below.refl _ _) | (with_reducible refine Below.drew ?_) | (with_reducible refine Below.alloc ?_ (by first | omega | (simp; done) | (simp; omega)) _)))).mono B4.out.size).trans (b5.mono (Nat.le_trans B4.out.size (show Below w4.heap.size w4 _ from (by repeat (first | (with_reducible exact Below.refl _ _) | (with_reducible refine Below.drew ?_) | (with_reducible refine Below.alloc ?_ (by first | omega | (simp; done) | (simp; omega)) _)))).size))))
             have P5 := Lib.hid O5
             have P4 := Lib.hid (own_kept (own_kept P4.out (show Below w4.heap.size w4 _ from (by repeat (first | (with_reducible exact Below.refl _ _) | (with_reducible refine Below.drew ?_) | (with_reducible refine Below.alloc ?_ (by first | omega | (simp; done) | (simp; omega)) _))))) b5)
             (first | (have zr := (b5.block _ (by first | exact (Array.getElem?_eq_some_iff.1 zr).1 | (simp; done))).trans zr) | (have zr : w5.heap[w4.heap.size]? = some (.cells #[.int .u8 0, .int .u32 0, .slice none 0 0] 30 (0, 0)) := (b5.block _ (by simp)).trans (heap_alloc_new w4 (.cells #[.int .u8 0, .int .u32 0, .slice none 0 0] 30))) | skip)
             have nb5 : ¬ w5.heap.size = bx := by have := Y5.out.lt; omega
             have nc5 : ¬ bx = w5.heap.size := by omega
             (try have lz5 := (Array.getElem?_eq_some_iff.1 zr).1)
             clear Y4x b5 O5 le2a le2b)
          | (go_at_call 9; refine (procs B drop d _ (HB.out _ ((X2.out.below (show Below W3.heap.size W3 _ from (by repeat (first | (with_reducible exact Below.refl _ _) | (with_reducible refine Below.drew ?_) | (with_reducible refine Below.alloc ?_ (by first | omega | (simp; done) | (simp; omega)) _))))).bel)) h4B hd hn).mono ?_
             rintro e4 w4 ⟨v4, rfl, O4, b4⟩
             obtain ⟨E1, m1, rfl, -, le1a, le1b⟩ := rowsV_of_own O4
             have le1 := Lib.hid (And.intro le1a le1b)
             have Y4 := Lib.hid ((X2.out.below (show Below W3.heap.size W3 _ from (by repeat (first | (with_reducible exact Below.refl _ _) | (with_reducible refine Below.drew ?_) | (with_reducible refine Below.alloc ?_ (by first | omega | (simp; done) | (simp; omega)) _))))).below b4)
             have B4 : Hid (Below W3.heap.size W3 w4) := Lib.hid ((show Below W3.heap.size W3 _ from (by repeat (first | (with_reducible exact Below.refl _ _) | (with_reducible refine Below.drew ?_) | (with_reducible refine Below.alloc ?_ (by first | omega | (simp; done) | (simp; omega)) _)))).trans (b4.mono (show Below W3.heap.size W3 _ from (by repeat (first | (with_reducible exact Below.refl _ _) | (with_reducible refine Below.drew ?_) | (with_reducible refine Below.alloc ?_ (by first | omega | (simp; done) | (simp; omega)) _)))).size))
             have P4 := Lib.hid O4
             (first | (have zr : w4.heap[W3.heap.size]? = some (.cells #[.int .u8 0, .int .u32 0, .slice none 0 0] 30 (0, 0)) := (b4.block _ (by simp)).trans (heap_alloc_new W3.drew (.cells #[.int .u8 0, .int .u32 0, .slice none 0 0] 30))) | skip)
             have nb4 : ¬ w4.heap.size = bx := by have := Y4.out.lt; omega
             have nc4 : ¬ bx = w4.heap.size := by omega
             clear b4 O4 le1a le1b))
      all_goals
        have l6w : w.heap.size ≤ w5.heap.size := Y5.out.bel.size
        first
          | (with_reducible refine AtN4_new ?_ ?_ ?_
             · first | (simp only [Act.put, List.setIfInBounds_toArray, List.set_cons_zero, List.set_cons_succ]; done) | (simp only [Act.put, List.setIfInBounds_toArray, List.set_cons_zero, List.set_cons_succ]; exact ⟨_, _, _, _, _, _, _, _, _, rfl⟩)
             · exact Y6.out
             · exact ⟨_, (by first | exact l6w | (simp; omega)), Q6.out⟩)
          | (with_reducible refine AtN4_set ?_ ?_ ?_ ?_
             · first | (simp only [Act.put, List.setIfInBounds_toArray, List.set_cons_zero, List.set_cons_succ]; done) | (simp only [Act.put, List.setIfInBounds_toArray, List.set_cons_zero, List.set_cons_succ]; exact ⟨_, _, _, _, _, _, _, _, _, rfl⟩)
             · exact ⟨W3, X2.out, B6.out, (by first | exact Nat.le_refl _ | exact B4.out.size | exact B5.out.size)⟩
             · exact zr
             · exact ⟨_, (by first | exact lz5 | (simp; done)), (by first | exact l6w | (simp; omega)), Q6.out⟩)
    · rintro a W ⟨u24, u25, u26, u27, u28, u29, u30, u31, u32, bk, A2, c2, rfl, X6, R6, O6⟩
      simp only [Act.put, List.setIfInBounds_toArray, List.set_cons_zero, List.set_cons_succ]
      have hML : Hid ((nxV g N V drop add).length ≤ 80) := Lib.hid (nxV_len g N V drop add hV40 hA40)
      have hN2 : N < 4294967296 := by have := HN.out.2; omega
      have e0 : W.cell? ⟨w.heap.size, 0, none⟩ = some (.int .u8 g) := (cell_of_row _ _ 0 _ _ _ X6.out.rv).trans rfl
      have e1 : W.cell? ⟨w.heap.size, 1, none⟩ = some (.int .u32 N) := (cell_of_row _ _ 1 _ _ _ X6.out.rv).trans rfl
      have e2 : W.cell? ⟨w.heap.size, 2, none⟩ = some (.slice A V.length c) := (cell_of_row _ _ 2 _ _ _ X6.out.rv).trans rfl
      have lbk : Hid (bk < W.heap.size) := Lib.hid (Array.getElem?_eq_some_iff.1 R6.out).1
      clear f0 f1 f2 lbx nb3 nc3 X2
      go_wp2_with (go_at_call 10; refine (nextR g N A B D V drop add c d e W (HV.out _ X6.out.bel) hc hm (HB.out _ X6.out.bel) (HD.out _ X6.out.bel) hd hn he ho hV40 hA40 hN2).mono ?_; rintro e7 w7 ⟨v7, rfl, O7, b7⟩
                   obtain ⟨A3, c3, rfl, -, -, -⟩ := rowsV_of_own O7
                   have X8 : Hid (LX w (w7.alloc (.cells #[.int .u8 (nxG g N V drop add), .int .u32 (nxN g N V drop add), .slice A3 (nxV g N V drop add).length c3] 25)) w.heap.size bx #[.int .u8 g, .int .u32 N, .slice A V.length c] g N V A1 c1) := Lib.hid ((X6.out.below b7).below ((Below.refl _ _).alloc (Nat.le_refl _) _))
                   have R8 : Hid ((w7.alloc (.cells #[.int .u8 (nxG g N V drop add), .int .u32 (nxN g N V drop add), .slice A3 (nxV g N V drop add).length c3] 25)).heap[bk]? = some (.cells #[.int .u8 (nxG g N V drop add), .int .u32 (nxN g N V drop add), .slice A2 (nxV g N V drop add).length c2] 30 (0, 0))) := Lib.hid ((((Below.refl w7.heap.size w7).alloc (Nat.le_refl _) _).block _ (Nat.lt_of_lt_of_le lbk.out b7.size)).trans ((b7.block _ lbk.out).trans R6.out))
                   have R9 : Hid ((w7.alloc (.cells #[.int .u8 (nxG g N V drop add), .int .u32 (nxN g N V drop add), .slice A3 (nxV g N V drop add).length c3] 25)).heap[w7.heap.size]? = some (.cells #[.int .u8 (nxG g N V drop add), .int .u32 (nxN g N V drop add), .slice A3 (nxV g N V drop add).length c3] 25 (0, 0))) := Lib.hid (heap_alloc_new w7 _)
                   have O8 := Lib.hid (own_kept (own_kept O6.out b7) ((Below.refl _ _).alloc (Nat.le_refl _) (.cells #[.int .u8 (nxG g N V drop add), .int .u32 (nxN g N V drop add), .slice A3 (nxV g N V drop add).length c3] 25)))
                   have O9 := Lib.hid (own_kept (own_mono O7 X6.out.bel.size) ((Below.refl _ _).alloc (Nat.le_refl _) (.cells #[.int .u8 (nxG g N V drop add), .int .u32 (nxN g N V drop add), .slice A3 (nxV g N V drop add).length c3] 25)))
                   have l8 : Hid (bk < (w7.alloc (.cells #[.int .u8 (nxG g N V drop add), .int .u32 (nxN g N V drop add), .slice A3 (nxV g N V drop add).length c3] 25)).heap.size ∧ w7.heap.size < (w7.alloc (.cells #[.int .u8 (nxG g N V drop add), .int .u32 (nxN g N V drop add), .slice A3 (nxV g N V drop add).length c3] 25)).heap.size) := Lib.hid ⟨by have := lbk.out; have := b7.size; simp; omega, by simp⟩
                   clear b7 O7 e0 e1 e2 X6 R6 O6 lbk)
      generalize w7.alloc (.cells #[.int .u8 (nxG g N V drop add), .int .u32 (nxN g N V drop add), .slice A3 (nxV g N V drop add).length c3] 25) = W8 at *
      generalize w7.heap.size = br at *
      have hM4 : Hid ((nxV g N V drop add).length * 4 ≤ 140737488355328) := Lib.hid (by have := hML.out; omega)
      generalize nxG g N V drop add = g' at *
      generalize nxN g N V drop add = N' at *
      generalize nxC g N V drop add = C' at *
      generalize nxV g N V drop add = M at *
      refine region_heldT (S := fun W => W.cell? ⟨bk, 0, none⟩ = some (.int .u8 g') ∧ W.cell? ⟨bk, 1, none⟩ = some (.int .u32 N') ∧ W.cell? ⟨bk, 2, none⟩ = some (.slice A2 M.length c2) ∧ W.cell? ⟨br, 0, none⟩ = some (.int .u8 g') ∧ W.cell? ⟨br, 1, none⟩ = some (.int .u32 N') ∧ W.cell? ⟨br, 2, none⟩ = some (.slice A3 M.length c3) ∧ W.cell? ⟨bx, 0, none⟩ = some (.int .u8 g) ∧ W.cell? ⟨bx, 1, none⟩ = some (.int .u32 N) ∧ W.cell? ⟨bx, 2, none⟩ = some (.slice A1 V.length c1) ∧ W.cell? ⟨w.heap.size, 0, none⟩ = some (.int .u8 g) ∧ W.cell? ⟨w.heap.size, 1, none⟩ = some (.int .u32 N) ∧ W.cell? ⟨w.heap.size, 2, none⟩ = some (.slice A V.length c)) 18 (by kernel_rfl) (by decide) (fun inv => ?_)
      change FirstH _ _ _ _ _ _ _ _ _ _ W8.drew
      have bd : Below W8.heap.size W8 W8.drew := (Below.refl _ _).drew
      have X10 := Lib.hid (X8.out.below bd)
      have R10a := Lib.hid ((bd.block _ l8.out.1).trans R8.out)
      have R10b := Lib.hid ((bd.block _ l8.out.2).trans R9.out)
      have L10 : Hid (bk < W8.drew.heap.size ∧ br < W8.drew.heap.size) := l8
      have O10a := Lib.hid (own_kept O8.out bd)
      have O10b := Lib.hid (own_kept O9.out bd)
      generalize W8.drew = W10 at *
      clear X8 R8 R9 O8 O9 l8 bd
      have HS : W10.cell? ⟨bk, 0, none⟩ = some (.int .u8 g') ∧ W10.cell? ⟨bk, 1, none⟩ = some (.int .u32 N') ∧ W10.cell? ⟨bk, 2, none⟩ = some (.slice A2 M.length c2) ∧ W10.cell? ⟨br, 0, none⟩ = some (.int .u8 g') ∧ W10.cell? ⟨br, 1, none⟩ = some (.int .u32 N') ∧ W10.cell? ⟨br, 2, none⟩ = some (.slice A3 M.length c3) ∧ W10.cell? ⟨bx, 0, none⟩ = some (.int .u8 g) ∧ W10.cell? ⟨bx, 1, none⟩ = some (.int .u32 N) ∧ W10.cell? ⟨bx, 2, none⟩ = some (.slice A1 V.length c1) ∧ W10.cell? ⟨w.heap.size, 0, none⟩ = some (.int .u8 g) ∧ W10.cell? ⟨w.heap.size, 1, none⟩ = some (.int .u32 N) ∧ W10.cell? ⟨w.heap.size, 2, none⟩ = some (.slice A V.length c) := ⟨(cell_of_row _ _ 0 _ _ _ R10a.out).trans rfl, (cell_of_row _ _ 1 _ _ _ R10a.out).trans rfl, (cell_of_row _ _ 2 _ _ _ R10a.out).trans rfl, (cell_of_row _ _ 0 _ _ _ R10b.out).trans rfl, (cell_of_row _ _ 1 _ _ _ R10b.out).trans rfl, (cell_of_row _ _ 2 _ _ _ R10b.out).trans rfl, (cell_of_row _ _ 0 _ _ _ X10.out.rx).trans rfl, (cell_of_row _ _ 1 _ _ _ X10.out.rx).trans rfl, (cell_of_row _ _ 2 _ _ _ X10.out.rx).trans rfl, (cell_of_row _ _ 0 _ _ _ X10.out.rv).trans rfl, (cell_of_row _ _ 1 _ _ _ X10.out.rv).trans rfl, (cell_of_row _ _ 2 _ _ _ X10.out.rv).trans rfl⟩
      refine FirstH.go (i := 0) (v := .agg #[.int .u8 g', .int .u32 N', .slice A2 M.length c2]) rfl rfl 40 rfl (Op.load 30 (.tmp 8)) rfl (by kernel_rfl) (fun _ _ _ h => h) inv (fun W hS => by obtain ⟨s0, s1, s2, s3, s4, s5, s6, s7, s8, s9, s10, s11⟩ := hS; unfold bareO; go_simp) HS (fun inv => ?_)
      try simp only [Act.put, List.setIfInBounds_toArray, List.set_cons_zero, List.set_cons_succ]
      refine FirstH.go (i := 2) (v := .agg #[.int .u8 g', .int .u32 N', .slice A3 M.length c3]) rfl rfl 42 rfl (Op.load 25 (.tmp 10)) rfl (by kernel_rfl) (fun _ _ _ h => h) inv (fun W hS => by obtain ⟨s0, s1, s2, s3, s4, s5, s6, s7, s8, s9, s10, s11⟩ := hS; unfold bareO; go_simp) HS (fun inv => ?_)
      try simp only [Act.put, List.setIfInBounds_toArray, List.set_cons_zero, List.set_cons_succ]
      clear HS
      refine FirstH.only (i := 1) (by kernel_rfl) (by decide) inv (fun inv => wpOp_call (i := 1) rfl rfl 41 rfl (Op.call { callee := .value (.func 12), args := #[.tmp 40], argTypes := #[30] }) rfl 12 #[.agg #[.int .u8 g', .int .u32 N', .slice A2 M.length c2]] (by unfold bareO; go_simp) (refV g' N' A2 M c2 W10 (rows_own O10a.out).1 hM4.out (rows_own O10a.out).2.1 (rows_own O10a.out).2.2) ?_)
      rintro e9 W11 ⟨A4, c4, rfl, O4, b11⟩
      have Q4 := Lib.hid O4
      clear O4
      have X11 := Lib.hid (X10.out.below b11)
      have R11a := Lib.hid ((b11.block _ L10.out.1).trans R10a.out)
      have R11b := Lib.hid ((b11.block _ L10.out.2).trans R10b.out)
      have L11 : Hid (bk < W11.heap.size ∧ br < W11.heap.size) := Lib.hid ⟨Nat.lt_of_lt_of_le L10.out.1 b11.size, Nat.lt_of_lt_of_le L10.out.2 b11.size⟩
      have O11a := Lib.hid (own_kept O10a.out b11)
      have O11b := Lib.hid (own_kept O10b.out b11)
      clear b11
      have HS : W11.cell? ⟨bk, 0, none⟩ = some (.int .u8 g') ∧ W11.cell? ⟨bk, 1, none⟩ = some (.int .u32 N') ∧ W11.cell? ⟨bk, 2, none⟩ = some (.slice A2 M.length c2) ∧ W11.cell? ⟨br, 0, none⟩ = some (.int .u8 g') ∧ W11.cell? ⟨br, 1, none⟩ = some (.int .u32 N') ∧ W11.cell? ⟨br, 2, none⟩ = some (.slice A3 M.length c3) ∧ W11.cell? ⟨bx, 0, none⟩ = some (.int .u8 g) ∧ W11.cell? ⟨bx, 1, none⟩ = some (.int .u32 N) ∧ W11.cell? ⟨bx, 2, none⟩ = some (.slice A1 V.length c1) ∧ W11.cell? ⟨w.heap.size, 0, none⟩ = some (.int .u8 g) ∧ W11.cell? ⟨w.heap.size, 1, none⟩ = some (.int .u32 N) ∧ W11.cell? ⟨w.heap.size, 2, none⟩ = some (.slice A V.length c) := ⟨(cell_of_row _ _ 0 _ _ _ R11a.out).trans rfl, (cell_of_row _ _ 1 _ _ _ R11a.out).trans rfl, (cell_of_row _ _ 2 _ _ _ R11a.out).trans rfl, (cell_of_row _ _ 0 _ _ _ R11b.out).trans rfl, (cell_of_row _ _ 1 _ _ _ R11b.out).trans rfl, (cell_of_row _ _ 2 _ _ _ R11b.out).trans rfl, (cell_of_row _ _ 0 _ _ _ X11.out.rx).trans rfl, (cell_of_row _ _ 1 _ _ _ X11.out.rx).trans rfl, (cell_of_row _ _ 2 _ _ _ X11.out.rx).trans rfl, (cell_of_row _ _ 0 _ _ _ X11.out.rv).trans rfl, (cell_of_row _ _ 1 _ _ _ X11.out.rv).trans rfl, (cell_of_row _ _ 2 _ _ _ X11.out.rv).trans rfl⟩
      refine ⟨_, rfl, HS, ?_⟩
      try simp only [Act.put, List.setIfInBounds_toArray, List.set_cons_zero, List.set_cons_succ]
      clear HS
      refine FirstH.only (i := 3) (by kernel_rfl) (by decide) inv (fun inv => wpOp_call (i := 3) rfl rfl 43 rfl (Op.call { callee := .value (.func 11), args := #[.tmp 41, .tmp 42], argTypes := #[25, 25] }) rfl 11 #[.agg #[.int .u8 g', .int .u32 N', .slice A4 M.length c4], .agg #[.int .u8 g', .int .u32 N', .slice A3 M.length c3]] (by unfold bareO; go_simp) (sameR g' N' g' N' A4 A3 M M c4 c3 W11 (rows_own Q4.out).1 (rows_own O11b.out).1 (rows_own Q4.out).2.1 (rows_own Q4.out).2.2 (rows_own O11b.out).2.1 (rows_own O11b.out).2.2) ?_)
      rintro e9 W12 ⟨rfl, b12⟩
      rw [show (decide (g' = g') && decide (N' = N') && decide (M = M)) = true by simp]
      have X12 := Lib.hid (X11.out.below b12)
      have R12a := Lib.hid ((b12.block _ L11.out.1).trans R11a.out)
      have R12b := Lib.hid ((b12.block _ L11.out.2).trans R11b.out)
      have L12 : Hid (bk < W12.heap.size ∧ br < W12.heap.size) := Lib.hid ⟨Nat.lt_of_lt_of_le L11.out.1 b12.size, Nat.lt_of_lt_of_le L11.out.2 b12.size⟩
      have O12a := Lib.hid (own_kept O11a.out b12)
      have O12b := Lib.hid (own_kept O11b.out b12)
      clear b12
      have HS : W12.cell? ⟨bk, 0, none⟩ = some (.int .u8 g') ∧ W12.cell? ⟨bk, 1, none⟩ = some (.int .u32 N') ∧ W12.cell? ⟨bk, 2, none⟩ = some (.slice A2 M.length c2) ∧ W12.cell? ⟨br, 0, none⟩ = some (.int .u8 g') ∧ W12.cell? ⟨br, 1, none⟩ = some (.int .u32 N') ∧ W12.cell? ⟨br, 2, none⟩ = some (.slice A3 M.length c3) ∧ W12.cell? ⟨bx, 0, none⟩ = some (.int .u8 g) ∧ W12.cell? ⟨bx, 1, none⟩ = some (.int .u32 N) ∧ W12.cell? ⟨bx, 2, none⟩ = some (.slice A1 V.length c1) ∧ W12.cell? ⟨w.heap.size, 0, none⟩ = some (.int .u8 g) ∧ W12.cell? ⟨w.heap.size, 1, none⟩ = some (.int .u32 N) ∧ W12.cell? ⟨w.heap.size, 2, none⟩ = some (.slice A V.length c) := ⟨(cell_of_row _ _ 0 _ _ _ R12a.out).trans rfl, (cell_of_row _ _ 1 _ _ _ R12a.out).trans rfl, (cell_of_row _ _ 2 _ _ _ R12a.out).trans rfl, (cell_of_row _ _ 0 _ _ _ R12b.out).trans rfl, (cell_of_row _ _ 1 _ _ _ R12b.out).trans rfl, (cell_of_row _ _ 2 _ _ _ R12b.out).trans rfl, (cell_of_row _ _ 0 _ _ _ X12.out.rx).trans rfl, (cell_of_row _ _ 1 _ _ _ X12.out.rx).trans rfl, (cell_of_row _ _ 2 _ _ _ X12.out.rx).trans rfl, (cell_of_row _ _ 0 _ _ _ X12.out.rv).trans rfl, (cell_of_row _ _ 1 _ _ _ X12.out.rv).trans rfl, (cell_of_row _ _ 2 _ _ _ X12.out.rv).trans rfl⟩
      refine ⟨_, rfl, HS, ?_⟩
      try simp only [Act.put, List.setIfInBounds_toArray, List.set_cons_zero, List.set_cons_succ]
      refine FirstH.go (i := 4) (v := .bool true) rfl rfl 44 rfl (Op.move (.tmp 43)) rfl (by kernel_rfl) (fun _ _ _ h => h) inv (fun W hS => by obtain ⟨s0, s1, s2, s3, s4, s5, s6, s7, s8, s9, s10, s11⟩ := hS; unfold bareO; go_simp) HS (fun inv => ?_)
      try simp only [Act.put, List.setIfInBounds_toArray, List.set_cons_zero, List.set_cons_succ]
      refine FirstH.goG (i := 5) (v := .int .i64 C') rfl (by kernel_rfl) 45 rfl (Op.move (.tmp 9)) rfl (by kernel_rfl) (fun _ _ _ h => h) inv (fun W hS => by obtain ⟨s0, s1, s2, s3, s4, s5, s6, s7, s8, s9, s10, s11⟩ := hS; unfold bareO; go_simp) HS (fun inv => ?_)
      try simp only [Act.put, List.setIfInBounds_toArray, List.set_cons_zero, List.set_cons_succ]
      refine FirstH.goG (i := 7) (v := .int .i64 C') rfl (by kernel_rfl) 47 rfl (Op.move (.tmp 11)) rfl (by kernel_rfl) (fun _ _ _ h => h) inv (fun W hS => by obtain ⟨s0, s1, s2, s3, s4, s5, s6, s7, s8, s9, s10, s11⟩ := hS; unfold bareO; go_simp) HS (fun inv => ?_)
      try simp only [Act.put, List.setIfInBounds_toArray, List.set_cons_zero, List.set_cons_succ]
      clear HS
      refine FirstH.only (i := 6) (by kernel_rfl) (by decide) inv (fun inv => wpOp_callG (i := 6) rfl (by kernel_rfl) 46 rfl (Op.call { callee := .value (.func 13), args := #[.tmp 45], argTypes := #[32] }) rfl 13 #[.int .i64 C'] (by unfold bareO; go_simp) (numV C' W12) ?_)
      rintro e9 W13 ⟨rfl, hW13⟩
      subst hW13
      have HS : W13.cell? ⟨bk, 0, none⟩ = some (.int .u8 g') ∧ W13.cell? ⟨bk, 1, none⟩ = some (.int .u32 N') ∧ W13.cell? ⟨bk, 2, none⟩ = some (.slice A2 M.length c2) ∧ W13.cell? ⟨br, 0, none⟩ = some (.int .u8 g') ∧ W13.cell? ⟨br, 1, none⟩ = some (.int .u32 N') ∧ W13.cell? ⟨br, 2, none⟩ = some (.slice A3 M.length c3) ∧ W13.cell? ⟨bx, 0, none⟩ = some (.int .u8 g) ∧ W13.cell? ⟨bx, 1, none⟩ = some (.int .u32 N) ∧ W13.cell? ⟨bx, 2, none⟩ = some (.slice A1 V.length c1) ∧ W13.cell? ⟨w.heap.size, 0, none⟩ = some (.int .u8 g) ∧ W13.cell? ⟨w.heap.size, 1, none⟩ = some (.int .u32 N) ∧ W13.cell? ⟨w.heap.size, 2, none⟩ = some (.slice A V.length c) := ⟨(cell_of_row _ _ 0 _ _ _ R12a.out).trans rfl, (cell_of_row _ _ 1 _ _ _ R12a.out).trans rfl, (cell_of_row _ _ 2 _ _ _ R12a.out).trans rfl, (cell_of_row _ _ 0 _ _ _ R12b.out).trans rfl, (cell_of_row _ _ 1 _ _ _ R12b.out).trans rfl, (cell_of_row _ _ 2 _ _ _ R12b.out).trans rfl, (cell_of_row _ _ 0 _ _ _ X12.out.rx).trans rfl, (cell_of_row _ _ 1 _ _ _ X12.out.rx).trans rfl, (cell_of_row _ _ 2 _ _ _ X12.out.rx).trans rfl, (cell_of_row _ _ 0 _ _ _ X12.out.rv).trans rfl, (cell_of_row _ _ 1 _ _ _ X12.out.rv).trans rfl, (cell_of_row _ _ 2 _ _ _ X12.out.rv).trans rfl⟩
      refine ⟨_, rfl, HS, ?_⟩
      try simp only [Act.put, List.setIfInBounds_toArray, List.set_cons_zero, List.set_cons_succ]
      refine FirstH.goG (i := 8) (v := .bool true) rfl (by kernel_rfl) 48 rfl (Op.binOp .eql 3 (.tmp 46) (.tmp 47) 3) rfl (by kernel_rfl) (fun _ _ _ h => h) inv (fun W hS => by obtain ⟨s0, s1, s2, s3, s4, s5, s6, s7, s8, s9, s10, s11⟩ := hS; unfold bareO; go_simp) HS (fun inv => ?_)
      try simp only [Act.put, List.setIfInBounds_toArray, List.set_cons_zero, List.set_cons_succ]
      refine FirstH.go (i := 9) (v := .bool true) rfl rfl 49 rfl (Op.pick (.tmp 44) (.tmp 48) (.const (.bool false))) rfl (by kernel_rfl) (fun _ _ _ h => h) inv (fun W hS => by obtain ⟨s0, s1, s2, s3, s4, s5, s6, s7, s8, s9, s10, s11⟩ := hS; unfold bareO; go_simp) HS (fun inv => ?_)
      try simp only [Act.put, List.setIfInBounds_toArray, List.set_cons_zero, List.set_cons_succ]
      refine FirstH.go (i := 10) (v := .bool true) rfl rfl 50 rfl (Op.move (.tmp 49)) rfl (by kernel_rfl) (fun _ _ _ h => h) inv (fun W hS => by obtain ⟨s0, s1, s2, s3, s4, s5, s6, s7, s8, s9, s10, s11⟩ := hS; unfold bareO; go_simp) HS (fun inv => ?_)
      try simp only [Act.put, List.setIfInBounds_toArray, List.set_cons_zero, List.set_cons_succ]
      refine FirstH.goG (i := 11) (v := .agg #[.int .u8 g, .int .u32 N, .slice A1 V.length c1]) rfl (by kernel_rfl) 51 rfl (Op.load 30 (.tmp 7)) rfl (by kernel_rfl) (fun _ _ _ h => h) inv (fun W hS => by obtain ⟨s0, s1, s2, s3, s4, s5, s6, s7, s8, s9, s10, s11⟩ := hS; unfold bareO; go_simp) HS (fun inv => ?_)
      try simp only [Act.put, List.setIfInBounds_toArray, List.set_cons_zero, List.set_cons_succ]
      refine FirstH.goG (i := 13) (v := .agg #[.int .u8 g, .int .u32 N, .slice A V.length c]) rfl (by kernel_rfl) 53 rfl (Op.load 25 (.tmp 3)) rfl (by kernel_rfl) (fun _ _ _ h => h) inv (fun W hS => by obtain ⟨s0, s1, s2, s3, s4, s5, s6, s7, s8, s9, s10, s11⟩ := hS; unfold bareO; go_simp) HS (fun inv => ?_)
      try simp only [Act.put, List.setIfInBounds_toArray, List.set_cons_zero, List.set_cons_succ]
      have X13 := X12
      have R13a := R12a
      have R13b := R12b
      have L13 := L12
      have O13a := O12a
      have O13b := O12b
      clear HS
      refine FirstH.only (i := 12) (by kernel_rfl) (by decide) inv (fun inv => wpOp_callG (i := 12) rfl (by kernel_rfl) 52 rfl (Op.call { callee := .value (.func 12), args := #[.tmp 51], argTypes := #[30] }) rfl 12 #[.agg #[.int .u8 g, .int .u32 N, .slice A1 V.length c1]] (by unfold bareO; go_simp) (refV g N A1 V c1 W13 (rows_own X13.out.own).1 h4V (rows_own X13.out.own).2.1 (rows_own X13.out.own).2.2) ?_)
      rintro e9 W14 ⟨A5, c5, rfl, O5, b14⟩
      have Q5 := Lib.hid O5
      clear O5
      have X14 := Lib.hid (X13.out.below b14)
      have R14a := Lib.hid ((b14.block _ L13.out.1).trans R13a.out)
      have R14b := Lib.hid ((b14.block _ L13.out.2).trans R13b.out)
      have L14 : Hid (bk < W14.heap.size ∧ br < W14.heap.size) := Lib.hid ⟨Nat.lt_of_lt_of_le L13.out.1 b14.size, Nat.lt_of_lt_of_le L13.out.2 b14.size⟩
      have O14a := Lib.hid (own_kept O13a.out b14)
      have O14b := Lib.hid (own_kept O13b.out b14)
      clear b14
      have HS : W14.cell? ⟨bk, 0, none⟩ = some (.int .u8 g') ∧ W14.cell? ⟨bk, 1, none⟩ = some (.int .u32 N') ∧ W14.cell? ⟨bk, 2, none⟩ = some (.slice A2 M.length c2) ∧ W14.cell? ⟨br, 0, none⟩ = some (.int .u8 g') ∧ W14.cell? ⟨br, 1, none⟩ = some (.int .u32 N') ∧ W14.cell? ⟨br, 2, none⟩ = some (.slice A3 M.length c3) ∧ W14.cell? ⟨bx, 0, none⟩ = some (.int .u8 g) ∧ W14.cell? ⟨bx, 1, none⟩ = some (.int .u32 N) ∧ W14.cell? ⟨bx, 2, none⟩ = some (.slice A1 V.length c1) ∧ W14.cell? ⟨w.heap.size, 0, none⟩ = some (.int .u8 g) ∧ W14.cell? ⟨w.heap.size, 1, none⟩ = some (.int .u32 N) ∧ W14.cell? ⟨w.heap.size, 2, none⟩ = some (.slice A V.length c) := ⟨(cell_of_row _ _ 0 _ _ _ R14a.out).trans rfl, (cell_of_row _ _ 1 _ _ _ R14a.out).trans rfl, (cell_of_row _ _ 2 _ _ _ R14a.out).trans rfl, (cell_of_row _ _ 0 _ _ _ R14b.out).trans rfl, (cell_of_row _ _ 1 _ _ _ R14b.out).trans rfl, (cell_of_row _ _ 2 _ _ _ R14b.out).trans rfl, (cell_of_row _ _ 0 _ _ _ X14.out.rx).trans rfl, (cell_of_row _ _ 1 _ _ _ X14.out.rx).trans rfl, (cell_of_row _ _ 2 _ _ _ X14.out.rx).trans rfl, (cell_of_row _ _ 0 _ _ _ X14.out.rv).trans rfl, (cell_of_row _ _ 1 _ _ _ X14.out.rv).trans rfl, (cell_of_row _ _ 2 _ _ _ X14.out.rv).trans rfl⟩
      refine ⟨_, rfl, HS, ?_⟩
      try simp only [Act.put, List.setIfInBounds_toArray, List.set_cons_zero, List.set_cons_succ]
      clear HS
      refine FirstH.only (i := 14) (by kernel_rfl) (by decide) inv (fun inv => wpOp_callG (i := 14) rfl (by kernel_rfl) 54 rfl (Op.call { callee := .value (.func 11), args := #[.tmp 52, .tmp 53], argTypes := #[25, 25] }) rfl 11 #[.agg #[.int .u8 g, .int .u32 N, .slice A5 V.length c5], .agg #[.int .u8 g, .int .u32 N, .slice A V.length c]] (by unfold bareO; go_simp) (sameR g N g N A5 A V V c5 c W14 (rows_own Q5.out).1 (HV.out _ X14.out.bel) (rows_own Q5.out).2.1 (rows_own Q5.out).2.2 hc hm) ?_)
      rintro e9 W15 ⟨rfl, b15⟩
      rw [show (decide (g = g) && decide (N = N) && decide (V = V)) = true by simp]
      have X15 := Lib.hid (X14.out.below b15)
      have R15a := Lib.hid ((b15.block _ L14.out.1).trans R14a.out)
      have R15b := Lib.hid ((b15.block _ L14.out.2).trans R14b.out)
      have L15 : Hid (bk < W15.heap.size ∧ br < W15.heap.size) := Lib.hid ⟨Nat.lt_of_lt_of_le L14.out.1 b15.size, Nat.lt_of_lt_of_le L14.out.2 b15.size⟩
      have O15a := Lib.hid (own_kept O14a.out b15)
      have O15b := Lib.hid (own_kept O14b.out b15)
      clear b15
      have HS : W15.cell? ⟨bk, 0, none⟩ = some (.int .u8 g') ∧ W15.cell? ⟨bk, 1, none⟩ = some (.int .u32 N') ∧ W15.cell? ⟨bk, 2, none⟩ = some (.slice A2 M.length c2) ∧ W15.cell? ⟨br, 0, none⟩ = some (.int .u8 g') ∧ W15.cell? ⟨br, 1, none⟩ = some (.int .u32 N') ∧ W15.cell? ⟨br, 2, none⟩ = some (.slice A3 M.length c3) ∧ W15.cell? ⟨bx, 0, none⟩ = some (.int .u8 g) ∧ W15.cell? ⟨bx, 1, none⟩ = some (.int .u32 N) ∧ W15.cell? ⟨bx, 2, none⟩ = some (.slice A1 V.length c1) ∧ W15.cell? ⟨w.heap.size, 0, none⟩ = some (.int .u8 g) ∧ W15.cell? ⟨w.heap.size, 1, none⟩ = some (.int .u32 N) ∧ W15.cell? ⟨w.heap.size, 2, none⟩ = some (.slice A V.length c) := ⟨(cell_of_row _ _ 0 _ _ _ R15a.out).trans rfl, (cell_of_row _ _ 1 _ _ _ R15a.out).trans rfl, (cell_of_row _ _ 2 _ _ _ R15a.out).trans rfl, (cell_of_row _ _ 0 _ _ _ R15b.out).trans rfl, (cell_of_row _ _ 1 _ _ _ R15b.out).trans rfl, (cell_of_row _ _ 2 _ _ _ R15b.out).trans rfl, (cell_of_row _ _ 0 _ _ _ X15.out.rx).trans rfl, (cell_of_row _ _ 1 _ _ _ X15.out.rx).trans rfl, (cell_of_row _ _ 2 _ _ _ X15.out.rx).trans rfl, (cell_of_row _ _ 0 _ _ _ X15.out.rv).trans rfl, (cell_of_row _ _ 1 _ _ _ X15.out.rv).trans rfl, (cell_of_row _ _ 2 _ _ _ X15.out.rv).trans rfl⟩
      refine ⟨_, rfl, HS, ?_⟩
      try simp only [Act.put, List.setIfInBounds_toArray, List.set_cons_zero, List.set_cons_succ]
      refine FirstH.go (i := 15) (v := .bool true) rfl rfl 55 rfl (Op.pick (.tmp 50) (.tmp 54) (.const (.bool false))) rfl (by kernel_rfl) (fun _ _ _ h => h) inv (fun W hS => by obtain ⟨s0, s1, s2, s3, s4, s5, s6, s7, s8, s9, s10, s11⟩ := hS; unfold bareO; go_simp) HS (fun inv => ?_)
      try simp only [Act.put, List.setIfInBounds_toArray, List.set_cons_zero, List.set_cons_succ]
      refine FirstH.go (i := 16) (v := .bool true) rfl rfl 56 rfl (Op.move (.tmp 55)) rfl (by kernel_rfl) (fun _ _ _ h => h) inv (fun W hS => by obtain ⟨s0, s1, s2, s3, s4, s5, s6, s7, s8, s9, s10, s11⟩ := hS; unfold bareO; go_simp) HS (fun inv => ?_)
      try simp only [Act.put, List.setIfInBounds_toArray, List.set_cons_zero, List.set_cons_succ]
      clear HS
      refine FirstH.only (i := 17) (by kernel_rfl) (by decide) inv (fun inv => wpOp_callG (i := 17) rfl (by kernel_rfl) 57 rfl (Op.call { callee := .value (.func 6), args := #[], argTypes := #[] }) rfl 6 #[] (by unfold bareO; go_simp) (HK.out _ X15.out.bel) ?_)
      rintro e9 W16 ⟨rfl, b16⟩
      have X16 := Lib.hid (X15.out.below b16)
      have R16a := Lib.hid ((b16.block _ L15.out.1).trans R15a.out)
      have R16b := Lib.hid ((b16.block _ L15.out.2).trans R15b.out)
      have L16 : Hid (bk < W16.heap.size ∧ br < W16.heap.size) := Lib.hid ⟨Nat.lt_of_lt_of_le L15.out.1 b16.size, Nat.lt_of_lt_of_le L15.out.2 b16.size⟩
      have O16a := Lib.hid (own_kept O15a.out b16)
      have O16b := Lib.hid (own_kept O15b.out b16)
      clear b16
      have HS : W16.cell? ⟨bk, 0, none⟩ = some (.int .u8 g') ∧ W16.cell? ⟨bk, 1, none⟩ = some (.int .u32 N') ∧ W16.cell? ⟨bk, 2, none⟩ = some (.slice A2 M.length c2) ∧ W16.cell? ⟨br, 0, none⟩ = some (.int .u8 g') ∧ W16.cell? ⟨br, 1, none⟩ = some (.int .u32 N') ∧ W16.cell? ⟨br, 2, none⟩ = some (.slice A3 M.length c3) ∧ W16.cell? ⟨bx, 0, none⟩ = some (.int .u8 g) ∧ W16.cell? ⟨bx, 1, none⟩ = some (.int .u32 N) ∧ W16.cell? ⟨bx, 2, none⟩ = some (.slice A1 V.length c1) ∧ W16.cell? ⟨w.heap.size, 0, none⟩ = some (.int .u8 g) ∧ W16.cell? ⟨w.heap.size, 1, none⟩ = some (.int .u32 N) ∧ W16.cell? ⟨w.heap.size, 2, none⟩ = some (.slice A V.length c) := ⟨(cell_of_row _ _ 0 _ _ _ R16a.out).trans rfl, (cell_of_row _ _ 1 _ _ _ R16a.out).trans rfl, (cell_of_row _ _ 2 _ _ _ R16a.out).trans rfl, (cell_of_row _ _ 0 _ _ _ R16b.out).trans rfl, (cell_of_row _ _ 1 _ _ _ R16b.out).trans rfl, (cell_of_row _ _ 2 _ _ _ R16b.out).trans rfl, (cell_of_row _ _ 0 _ _ _ X16.out.rx).trans rfl, (cell_of_row _ _ 1 _ _ _ X16.out.rx).trans rfl, (cell_of_row _ _ 2 _ _ _ X16.out.rx).trans rfl, (cell_of_row _ _ 0 _ _ _ X16.out.rv).trans rfl, (cell_of_row _ _ 1 _ _ _ X16.out.rv).trans rfl, (cell_of_row _ _ 2 _ _ _ X16.out.rv).trans rfl⟩
      refine ⟨_, rfl, HS, ?_⟩
      try simp only [Act.put, List.setIfInBounds_toArray, List.set_cons_zero, List.set_cons_succ]
      clear HS
      refine ⟨by kernel_rfl, ?_⟩
      simp only [List.drop_succ_cons, List.drop_zero]
      go_wp2
      go_ret
      exact ⟨rfl, X16.out.bel⟩

end Go.Proofs.YtgmjhloednmfnaaDoor
