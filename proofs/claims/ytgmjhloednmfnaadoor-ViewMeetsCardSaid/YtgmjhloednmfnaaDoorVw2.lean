/-
  The walk of the law ViewMeets. Conditions: the lists lie in memory, each number fits its kind; knows is met.
-/
import Derived.Test.YtgmjhloednmfnaaDoorVmt
namespace Go.Proofs.YtgmjhloednmfnaaDoor
set_option linter.unusedSimpArgs false
set_option linter.unusedVariables false
open Go.RowKit Go.Sort

/-- behind 'x.Quorum(..) && x.Quorum(..)'. -/
def AtQ (w : World) (bv bx : Nat) (C : Array Value) (g N : Int) (V : List P2) (A1 : Option Addr) (c1 : Nat) (q : Bool) (a0 a : Act) (W : World) : Prop :=
  ∃ (u35 u36 u37 u38 u39 u40 u41 u42 u43 : Value), a = (((((((((a0.put (some 35) u35).put (some 36) u36).put (some 37) u37).put (some 38) u38).put (some 39) u39).put (some 40) u40).put (some 41) u41).put (some 42) u42).put (some 43) u43).put (some 44) (.bool q) ∧ Hid (LX w W bv bx C g N V A1 c1)
theorem AtQ_mk {w W : World} {bv bx : Nat} {C : Array Value} {g N : Int} {V : List P2} {A1 : Option Addr} {c1 : Nat} {q : Bool} {a0 a : Act} (ha : ∃ (u35 u36 u37 u38 u39 u40 u41 u42 u43 : Value), a = (((((((((a0.put (some 35) u35).put (some 36) u36).put (some 37) u37).put (some 38) u38).put (some 39) u39).put (some 40) u40).put (some 41) u41).put (some 42) u42).put (some 43) u43).put (some 44) (.bool q)) (hX : LX w W bv bx C g N V A1 c1) : Exit.normal = Exit.normal ∧ AtQ w bv bx C g N V A1 c1 q a0 a W := by
  obtain ⟨u35, u36, u37, u38, u39, u40, u41, u42, u43, rfl⟩ := ha
  exact ⟨rfl, u35, u36, u37, u38, u39, u40, u41, u42, u43, rfl, Lib.hid hX⟩
theorem FirstH.goS {P : Program} {ops : Array Oper} {Q : Exit → Act → World → Prop} {S : World → Prop} {n i g f : Nat} {oi : Oper} {Lq : Act → World → Prop} {done : Array Bool} {a : Act} {w : World} (hi : ops[i]? = some oi) (hgd : Region.wanted oi (yielded ops a.tmps) = false) (d : Tmp) (hd : oi.dst = some d)
    (hB : (Region.noSelect ops && Region.sinkB .any ops n && Region.chainB .any ops n && decide (n < ops.size) && decide (i < n) && Region.free .any ops done i && (Region.ready .any ops done).contains i) = true)
    (hQ : ∀ c a w, Q (.panic c) (a.put (some d) undef) w → Q (.panic c) a w) (inv : HeadInv .any ops n done) (hS : S w)
    (H : HeadInv .any ops n (done.setIfInBounds i true) → FirstH P .any ops Q S n (fun done' a' w' => Region.seqB .any ops g n done' = true ∧ Lq a' w') f (done.setIfInBounds i true) (a.put (some d) undef) w) :
    FirstH P .any ops Q S n (fun done' a' w' => Region.seqB .any ops g n done' = true ∧ Lq a' w') (f + 1) done a w := by
  rw [← hd] at hQ H
  simp only [Bool.and_eq_true, decide_eq_true_eq] at hB
  obtain ⟨⟨⟨⟨⟨⟨h1, h2⟩, h3⟩, h4⟩, h5⟩, h6⟩, h7⟩ := hB
  exact FirstH.step hi h1 h6 h7 hQ h2 h3 h4 h5 (fun _ _ _ hL => seqB_ready hL.1) inv (Or.inr ⟨hgd, rfl⟩) hS H
/-- behind 'a, e := x.Next(..)'. -/
def AtM (w : World) (bv bx : Nat) (C : Array Value) (g N : Int) (V drop add : List P2) (A1 : Option Addr) (c1 : Nat) (a0 a : Act) (W : World) : Prop :=
  ∃ (u75 u76 u77 u78 u79 u80 u81 u82 u83 : Value) (bk : Nat) (A2 : Option Addr) (c2 : Nat),
    a = ((((((((((a0.put (some 75) u75).put (some 76) u76).put (some 77) u77).put (some 78) u78).put (some 79) u79).put (some 80) u80).put (some 81) u81).put (some 82) u82).put (some 83) u83).put (some 10) (.pointer (some ⟨bk, 0, none⟩))).put (some 11) (.int .i64 (nxC g N V drop add)) ∧
    Hid (LX w W bv bx C g N V A1 c1) ∧
    Hid (W.heap[bk]? = some (.cells #[.int .u8 (nxG g N V drop add), .int .u32 (nxN g N V drop add), .slice A2 (nxV g N V drop add).length c2] 30 (0, 0))) ∧
    Hid (W.ownsRow w.heap.size 48 2 (.slice A2 (nxV g N V drop add).length c2) (nxV g N V drop add).length (cellsV (nxV g N V drop add)))
theorem AtM_new {w w6 : World} {bv bx : Nat} {C : Array Value} {g N : Int} {V drop add : List P2} {A1 A2 : Option Addr} {c1 c2 : Nat} {a0 a : Act} (ha : ∃ (u75 u76 u77 u78 u79 u80 u81 u82 u83 : Value), a = ((((((((((a0.put (some 75) u75).put (some 76) u76).put (some 77) u77).put (some 78) u78).put (some 79) u79).put (some 80) u80).put (some 81) u81).put (some 82) u82).put (some 83) u83).put (some 10) (.pointer (some ⟨w6.heap.size, 0, none⟩))).put (some 11) (.int .i64 (nxC g N V drop add)))
    (hX : LX w w6 bv bx C g N V A1 c1) (hQ' : ∃ K, w.heap.size ≤ K ∧ w6.ownsRow K 48 2 (.slice A2 (nxV g N V drop add).length c2) (nxV g N V drop add).length (cellsV (nxV g N V drop add))) :
    Exit.normal = Exit.normal ∧ AtM w bv bx C g N V drop add A1 c1 a0 a (w6.alloc (.cells #[.int .u8 (nxG g N V drop add), .int .u32 (nxN g N V drop add), .slice A2 (nxV g N V drop add).length c2] 30)) := by
  obtain ⟨u75, u76, u77, u78, u79, u80, u81, u82, u83, rfl⟩ := ha
  obtain ⟨K, hK, hQ⟩ := hQ'
  exact ⟨rfl, u75, u76, u77, u78, u79, u80, u81, u82, u83, w6.heap.size, A2, c2, rfl, Lib.hid (hX.below ((Below.refl _ _).alloc (Nat.le_refl _) _)), Lib.hid (heap_alloc_new w6 _), Lib.hid (own_kept (own_mono hQ hK) ((Below.refl _ _).alloc (Nat.le_refl _) _))⟩
theorem AtM_set {w w6 : World} {bv bx bk : Nat} {C : Array Value} {g N : Int} {V drop add : List P2} {A1 A2 : Option Addr} {c1 c2 : Nat} {a0 a : Act} (ha : ∃ (u75 u76 u77 u78 u79 u80 u81 u82 u83 : Value), a = ((((((((((a0.put (some 75) u75).put (some 76) u76).put (some 77) u77).put (some 78) u78).put (some 79) u79).put (some 80) u80).put (some 81) u81).put (some 82) u82).put (some 83) u83).put (some 10) (.pointer (some ⟨bk, 0, none⟩))).put (some 11) (.int .i64 (nxC g N V drop add)))
    (hX' : ∃ W3, LX w W3 bv bx C g N V A1 c1 ∧ Below W3.heap.size W3 w6 ∧ W3.heap.size ≤ bk) (hz : w6.heap[bk]? = some (.cells #[.int .u8 0, .int .u32 0, .slice none 0 0] 30 (0, 0))) (hQ' : ∃ K, bk < K ∧ w.heap.size ≤ K ∧ w6.ownsRow K 48 2 (.slice A2 (nxV g N V drop add).length c2) (nxV g N V drop add).length (cellsV (nxV g N V drop add))) :
    Exit.normal = Exit.normal ∧ AtM w bv bx C g N V drop add A1 c1 a0 a (((w6.setCell ⟨bk, 0, none⟩ (.int .u8 (nxG g N V drop add))).setCell ⟨bk, 1, none⟩ (.int .u32 (nxN g N V drop add))).setCell ⟨bk, 2, none⟩ (.slice A2 (nxV g N V drop add).length c2)) := by
  obtain ⟨u75, u76, u77, u78, u79, u80, u81, u82, u83, rfl⟩ := ha
  obtain ⟨W3, hX, hB, hbk⟩ := hX'
  obtain ⟨K, hlt, hK, hQ⟩ := hQ'
  exact ⟨rfl, u75, u76, u77, u78, u79, u80, u81, u82, u83, bk, A2, c2, rfl, Lib.hid (hX.below (((hB.setCell hbk _).setCell hbk _).setCell hbk _)), Lib.hid (by rw [row_set (row_set (row_set hz _) _) _]; rfl), Lib.hid (own_mono (ownsRow_setCell_below (ownsRow_setCell_below (ownsRow_setCell_below hQ hlt _) hlt _) hlt _) hK)⟩

set_option maxRecDepth 100000 in
set_option maxHeartbeats 3000000 in
theorem walkMeets (g N : Int) (A B D : Option Addr) (V drop add : List P2) (c d e : Nat) (w : World) (hr : RowsV w w.heap.size A V) (hs : RowsV w w.heap.size B drop) (ht : RowsV w w.heap.size D add) (h4V : V.length * 4 ≤ 140737488355328) (h4B : drop.length * 4 ≤ 140737488355328) (h4A : add.length * 4 ≤ 140737488355328) (hc : V.length ≤ c) (hm : c ≤ maxLen) (hd : drop.length ≤ d) (hn : d ≤ maxLen) (he : add.length ≤ e) (ho : e ≤ maxLen)
    (hg : 0 ≤ g ∧ g ≤ 255) (hN : 0 ≤ N ∧ N ≤ 4294967295) (rV : ∀ p ∈ V, p.Rng) (rD : ∀ p ∈ drop, p.Rng) (rA : ∀ p ∈ add, p.Rng) (hK : ∀ W, Below w.heap.size w W → Calls Tryd.prog 6 #[] W fun e w' => e = .returned (.bool true) ∧ Below W.heap.size W w') :
    Calls Tryd.prog 4 #[.agg #[.int .u8 g, .int .u32 N, .slice A V.length c], .slice B drop.length d, .slice D add.length e] w fun x w' => x = .returned (.bool true) ∧ Below w.heap.size w w' := by
  have HR := Lib.hid hr
  have HV := Lib.hid (fun W (hw : Below w.heap.size w W) => hr.below (C := w.heap.size) (B' := W.heap.size) hw (Nat.le_refl _) hw.size)
  have HB := Lib.hid (fun W (hw : Below w.heap.size w W) => hs.below (C := w.heap.size) (B' := W.heap.size) hw (Nat.le_refl _) hw.size)
  have HD := Lib.hid (fun W (hw : Below w.heap.size w W) => ht.below (C := w.heap.size) (B' := W.heap.size) hw (Nat.le_refl _) hw.size)
  have HK := Lib.hid hK
  have b0 : Hid (Below w.heap.size w (w.alloc (.cells #[.int .u8 g, .int .u32 N, .slice A V.length c] 25))) := Lib.hid ((Below.refl _ _).alloc (Nat.le_refl _) _)
  have r0 : Hid ((w.alloc (.cells #[.int .u8 g, .int .u32 N, .slice A V.length c] 25)).heap[w.heap.size]? = some (.cells #[.int .u8 g, .int .u32 N, .slice A V.length c] 25 (0, 0))) := Lib.hid (heap_alloc_new w _)
  have l0 : Hid (w.heap.size < (w.alloc (.cells #[.int .u8 g, .int .u32 N, .slice A V.length c] 25)).heap.size) := Lib.hid (by simp)
  have RVh := Lib.hid rV
  have RDh := Lib.hid rD
  have RAh := Lib.hid rA
  have HG := Lib.hid hg
  have HN := Lib.hid hN
  have KF := Lib.hid (fun W => fewV g N A B V.length drop.length c d W hc hd hm hn)
  clear hr hs ht hK rV rD rA hg hN
  by_cases hall : V.length ≤ 40 ∧ drop.length ≤ 40
  rotate_left
  · rw [show (decide (V.length ≤ 40) && decide (drop.length ≤ 40)) = false by simpa using hall] at KF
    clear hall
    go_enter Tryd.func4, Tryd.ntmps4
    go_wp2_with (first
        | (have X2x := X2.out; go_at_call 5; generalize w2.alloc (.cells #[.int .u8 g, .int .u32 N, .slice A1 V.length c1] 30) = W2 at *; generalize w2.heap.size = bx at *; refine (KF.out _).mono ?_; rintro e3 w3 ⟨rfl, b3⟩
           have X3 := Lib.hid (X2x.below b3)
           obtain ⟨f0, f1, f2⟩ := X3.out.cells3
           clear b3 X2 X2x e0 e1 e2 lw2 nbw ncw)
        | (have Xx := X3.out; go_at_call 6; refine (HK.out _ Xx.bel).mono ?_; rintro e5 w5 ⟨rfl, b5⟩
           have X5 := Lib.hid (Xx.below b5)
           clear b5 Xx)
        | (go_at_call 7; refine (ownV g N A V c _ (HV.out _ b0.out) h4V hc hm).mono ?_; rintro e2 w2 ⟨A1, c1, rfl, O2, b2⟩
           have X2 : Hid (LX w (w2.alloc (.cells #[.int .u8 g, .int .u32 N, .slice A1 V.length c1] 30)) w.heap.size w2.heap.size #[.int .u8 g, .int .u32 N, .slice A V.length c] g N V A1 c1) := Lib.hid {
             bel := (b0.out.trans (b2.mono b0.out.size)).alloc (Nat.le_trans b0.out.size b2.size) _
             rv := (((Below.refl w2.heap.size w2).alloc (Nat.le_refl _) _).block _ (Nat.lt_of_lt_of_le l0.out b2.size)).trans ((b2.block _ l0.out).trans r0.out)
             rx := heap_alloc_new w2 _
             own := own_kept (own_mono O2 b0.out.size) ((Below.refl _ _).alloc (Nat.le_refl _) _)
             lv := Nat.lt_of_lt_of_le l0.out b2.size }
           have LC := Lib.hid (rows_own O2).2
           have R2 := (b2.block _ l0.out).trans r0.out
           have lw2 : w.heap.size < w2.heap.size := Nat.lt_of_lt_of_le l0.out b2.size
           have nbw : ¬ w2.heap.size = w.heap.size := by omega
           have ncw : ¬ w.heap.size = w2.heap.size := by omega
           have e0 : w2.cell? ⟨w.heap.size, 0, none⟩ = some (.int .u8 g) := (cell_of_row _ _ 0 _ _ _ R2).trans rfl
           have e1 : w2.cell? ⟨w.heap.size, 1, none⟩ = some (.int .u32 N) := (cell_of_row _ _ 1 _ _ _ R2).trans rfl
           have e2 : w2.cell? ⟨w.heap.size, 2, none⟩ = some (.slice A V.length c) := (cell_of_row _ _ 2 _ _ _ R2).trans rfl
           clear R2
           clear b2 O2 b0 r0 l0))
    go_ret
    exact ⟨rfl, X5.out.bel⟩
  obtain ⟨hV40, hB40⟩ := hall
  rw [show (decide (V.length ≤ 40) && decide (drop.length ≤ 40)) = true by simp [hV40, hB40]] at KF
  by_cases hA40 : add.length ≤ 40
  rotate_left
  · have h40 : (40 : Int) < (add.length : Int) := by omega
    clear hA40
    go_enter Tryd.func4, Tryd.ntmps4
    go_wp2_with (first
        | (have X2x := X2.out; go_at_call 5; generalize w2.alloc (.cells #[.int .u8 g, .int .u32 N, .slice A1 V.length c1] 30) = W2 at *; generalize w2.heap.size = bx at *; refine (KF.out _).mono ?_; rintro e3 w3 ⟨rfl, b3⟩
           have X3 := Lib.hid (X2x.below b3)
           obtain ⟨f0, f1, f2⟩ := X3.out.cells3
           clear b3 X2 X2x e0 e1 e2 lw2 nbw ncw)
        | (have Xx := X3.out; go_at_call 6; refine (HK.out _ Xx.bel).mono ?_; rintro e5 w5 ⟨rfl, b5⟩
           have X5 := Lib.hid (Xx.below b5)
           clear b5 Xx)
        | (go_at_call 7; refine (ownV g N A V c _ (HV.out _ b0.out) h4V hc hm).mono ?_; rintro e2 w2 ⟨A1, c1, rfl, O2, b2⟩
           have X2 : Hid (LX w (w2.alloc (.cells #[.int .u8 g, .int .u32 N, .slice A1 V.length c1] 30)) w.heap.size w2.heap.size #[.int .u8 g, .int .u32 N, .slice A V.length c] g N V A1 c1) := Lib.hid {
             bel := (b0.out.trans (b2.mono b0.out.size)).alloc (Nat.le_trans b0.out.size b2.size) _
             rv := (((Below.refl w2.heap.size w2).alloc (Nat.le_refl _) _).block _ (Nat.lt_of_lt_of_le l0.out b2.size)).trans ((b2.block _ l0.out).trans r0.out)
             rx := heap_alloc_new w2 _
             own := own_kept (own_mono O2 b0.out.size) ((Below.refl _ _).alloc (Nat.le_refl _) _)
             lv := Nat.lt_of_lt_of_le l0.out b2.size }
           have LC := Lib.hid (rows_own O2).2
           have R2 := (b2.block _ l0.out).trans r0.out
           have lw2 : w.heap.size < w2.heap.size := Nat.lt_of_lt_of_le l0.out b2.size
           have nbw : ¬ w2.heap.size = w.heap.size := by omega
           have ncw : ¬ w.heap.size = w2.heap.size := by omega
           have e0 : w2.cell? ⟨w.heap.size, 0, none⟩ = some (.int .u8 g) := (cell_of_row _ _ 0 _ _ _ R2).trans rfl
           have e1 : w2.cell? ⟨w.heap.size, 1, none⟩ = some (.int .u32 N) := (cell_of_row _ _ 1 _ _ _ R2).trans rfl
           have e2 : w2.cell? ⟨w.heap.size, 2, none⟩ = some (.slice A V.length c) := (cell_of_row _ _ 2 _ _ _ R2).trans rfl
           clear R2
           clear b2 O2 b0 r0 l0))
    go_ret
    exact ⟨rfl, X5.out.bel⟩
  have h40 : (add.length : Int) ≤ 40 := by omega
  cases hvr : vR g N V with
  | false =>
    go_enter Tryd.func4, Tryd.ntmps4
    go_wp2_with (first
        | (have X3x := X3.out; go_at_call 14; refine (rightO g N A1 V c1 _ (rows_own X3x.own).1 LC.out.1 LC.out.2 HG.out HN.out RVh.out).mono ?_; rw [hvr]; rintro e4 w4 ⟨rfl, b4⟩
           have X4 := Lib.hid (X3x.below b4)
           clear b4 X3 X3x f0 f1 f2)
        | (have X2x := X2.out; go_at_call 5; generalize w2.alloc (.cells #[.int .u8 g, .int .u32 N, .slice A1 V.length c1] 30) = W2 at *; generalize w2.heap.size = bx at *; refine (KF.out _).mono ?_; rintro e3 w3 ⟨rfl, b3⟩
           have X3 := Lib.hid (X2x.below b3)
           obtain ⟨f0, f1, f2⟩ := X3.out.cells3
           clear b3 X2 X2x e0 e1 e2 lw2 nbw ncw)
        | (have Xx := X4.out; go_at_call 6; refine (HK.out _ Xx.bel).mono ?_; rintro e5 w5 ⟨rfl, b5⟩
           have X5 := Lib.hid (Xx.below b5)
           clear b5 Xx)
        | (go_at_call 7; refine (ownV g N A V c _ (HV.out _ b0.out) h4V hc hm).mono ?_; rintro e2 w2 ⟨A1, c1, rfl, O2, b2⟩
           have X2 : Hid (LX w (w2.alloc (.cells #[.int .u8 g, .int .u32 N, .slice A1 V.length c1] 30)) w.heap.size w2.heap.size #[.int .u8 g, .int .u32 N, .slice A V.length c] g N V A1 c1) := Lib.hid {
             bel := (b0.out.trans (b2.mono b0.out.size)).alloc (Nat.le_trans b0.out.size b2.size) _
             rv := (((Below.refl w2.heap.size w2).alloc (Nat.le_refl _) _).block _ (Nat.lt_of_lt_of_le l0.out b2.size)).trans ((b2.block _ l0.out).trans r0.out)
             rx := heap_alloc_new w2 _
             own := own_kept (own_mono O2 b0.out.size) ((Below.refl _ _).alloc (Nat.le_refl _) _)
             lv := Nat.lt_of_lt_of_le l0.out b2.size }
           have LC := Lib.hid (rows_own O2).2
           have R2 := (b2.block _ l0.out).trans r0.out
           have lw2 : w.heap.size < w2.heap.size := Nat.lt_of_lt_of_le l0.out b2.size
           have nbw : ¬ w2.heap.size = w.heap.size := by omega
           have ncw : ¬ w.heap.size = w2.heap.size := by omega
           have e0 : w2.cell? ⟨w.heap.size, 0, none⟩ = some (.int .u8 g) := (cell_of_row _ _ 0 _ _ _ R2).trans rfl
           have e1 : w2.cell? ⟨w.heap.size, 1, none⟩ = some (.int .u32 N) := (cell_of_row _ _ 1 _ _ _ R2).trans rfl
           have e2 : w2.cell? ⟨w.heap.size, 2, none⟩ = some (.slice A V.length c) := (cell_of_row _ _ 2 _ _ _ R2).trans rfl
           clear R2
           clear b2 O2 b0 r0 l0))
    go_ret
    exact ⟨rfl, X5.out.bel⟩
  | true =>
    go_enter Tryd.func4, Tryd.ntmps4
    go_wp2_with (first
        | (have X3x := X3.out; go_at_call 14; refine (rightO g N A1 V c1 _ (rows_own X3x.own).1 LC.out.1 LC.out.2 HG.out HN.out RVh.out).mono ?_; rw [hvr]; rintro e4 w4 ⟨rfl, b4⟩
           have X4 := Lib.hid (X3x.below b4)
           clear b4 X3 X3x f0 f1 f2)
        | (have X2x := X2.out; go_at_call 5; generalize w2.alloc (.cells #[.int .u8 g, .int .u32 N, .slice A1 V.length c1] 30) = W2 at *; generalize w2.heap.size = bx at *; refine (KF.out _).mono ?_; rintro e3 w3 ⟨rfl, b3⟩
           have X3 := Lib.hid (X2x.below b3)
           obtain ⟨f0, f1, f2⟩ := X3.out.cells3
           clear b3 X2 X2x e0 e1 e2 lw2 nbw ncw)
        | (have Xx := X4.out; go_at_call 6; refine (HK.out _ Xx.bel).mono ?_; rintro e5 w5 ⟨rfl, b5⟩
           have X5 := Lib.hid (Xx.below b5)
           clear b5 Xx)
        | (go_at_call 7; refine (ownV g N A V c _ (HV.out _ b0.out) h4V hc hm).mono ?_; rintro e2 w2 ⟨A1, c1, rfl, O2, b2⟩
           have X2 : Hid (LX w (w2.alloc (.cells #[.int .u8 g, .int .u32 N, .slice A1 V.length c1] 30)) w.heap.size w2.heap.size #[.int .u8 g, .int .u32 N, .slice A V.length c] g N V A1 c1) := Lib.hid {
             bel := (b0.out.trans (b2.mono b0.out.size)).alloc (Nat.le_trans b0.out.size b2.size) _
             rv := (((Below.refl w2.heap.size w2).alloc (Nat.le_refl _) _).block _ (Nat.lt_of_lt_of_le l0.out b2.size)).trans ((b2.block _ l0.out).trans r0.out)
             rx := heap_alloc_new w2 _
             own := own_kept (own_mono O2 b0.out.size) ((Below.refl _ _).alloc (Nat.le_refl _) _)
             lv := Nat.lt_of_lt_of_le l0.out b2.size }
           have LC := Lib.hid (rows_own O2).2
           have R2 := (b2.block _ l0.out).trans r0.out
           have lw2 : w.heap.size < w2.heap.size := Nat.lt_of_lt_of_le l0.out b2.size
           have nbw : ¬ w2.heap.size = w.heap.size := by omega
           have ncw : ¬ w.heap.size = w2.heap.size := by omega
           have e0 : w2.cell? ⟨w.heap.size, 0, none⟩ = some (.int .u8 g) := (cell_of_row _ _ 0 _ _ _ R2).trans rfl
           have e1 : w2.cell? ⟨w.heap.size, 1, none⟩ = some (.int .u32 N) := (cell_of_row _ _ 1 _ _ _ R2).trans rfl
           have e2 : w2.cell? ⟨w.heap.size, 2, none⟩ = some (.slice A V.length c) := (cell_of_row _ _ 2 _ _ _ R2).trans rfl
           clear R2
           clear b2 O2 b0 r0 l0))
    have f0 := X5.out.cells3.1
    have f1 := X5.out.cells3.2.1
    have f2 := X5.out.cells3.2.2
    have lbx : bx < w5.heap.size := X5.out.lt
    cases hqq : (quo V drop && quo V add) with
    | false =>
      refine wp_cutV (AtQ w w.heap.size bx #[.int .u8 g, .int .u32 N, .slice A V.length c] g N V A1 c1 false) ?_ ?_
      · cases hqa : quo V drop with
        | false =>
          refine region_heldT (S := fun W => W.cell? ⟨bx, 0, none⟩ = some (.int .u8 g) ∧ W.cell? ⟨bx, 1, none⟩ = some (.int .u32 N) ∧ W.cell? ⟨bx, 2, none⟩ = some (.slice A1 V.length c1)) 9 (by kernel_rfl) (by decide) (fun inv => ?_)
          change FirstH _ _ _ _ _ _ _ _ _ _ w5.drew
          have Y5 := Lib.hid (X5.out.below (Below.refl _ _).drew)
          generalize w5.drew = W5 at *
          have HS : W5.cell? ⟨bx, 0, none⟩ = some (.int .u8 g) ∧ W5.cell? ⟨bx, 1, none⟩ = some (.int .u32 N) ∧ W5.cell? ⟨bx, 2, none⟩ = some (.slice A1 V.length c1) := Y5.out.cells3
          refine FirstH.go (i := 0) (v := .agg #[.int .u8 g, .int .u32 N, .slice A1 V.length c1]) rfl rfl 35 rfl (Op.load 30 (.tmp 7)) rfl (by kernel_rfl) (fun _ _ _ h => nomatch h.1) inv (fun W hS => by obtain ⟨s0, s1, s2⟩ := hS; unfold bareO; go_simp) HS (fun inv => ?_)
          try simp only [Act.put, List.setIfInBounds_toArray, List.set_cons_zero, List.set_cons_succ]
          refine FirstH.go (i := 1) (v := .slice B drop.length d) rfl rfl 36 rfl (Op.move (.tmp 1)) rfl (by kernel_rfl) (fun _ _ _ h => nomatch h.1) inv (fun W hS => by obtain ⟨s0, s1, s2⟩ := hS; unfold bareO; go_simp) HS (fun inv => ?_)
          try simp only [Act.put, List.setIfInBounds_toArray, List.set_cons_zero, List.set_cons_succ]
          clear HS
          refine FirstH.only (i := 2) (by kernel_rfl) (by decide) inv (fun inv => wpOp_call (i := 2) rfl rfl 37 rfl (Op.call { callee := .value (.func 9), args := #[.tmp 36], argTypes := #[23] }) rfl 9 #[.slice B drop.length d] (by unfold bareO; go_simp) (procs B drop d W5 (HB.out _ Y5.out.bel) h4B hd hn) ?_)
          rintro e9 W6 ⟨v6, rfl, O6, b6⟩
          obtain ⟨E1, m1, rfl, -, lea, leb⟩ := rowsV_of_own O6
          have P6 := Lib.hid O6
          clear O6
          have Y6 := Lib.hid (Y5.out.below b6)
          clear b6
          have HS : W6.cell? ⟨bx, 0, none⟩ = some (.int .u8 g) ∧ W6.cell? ⟨bx, 1, none⟩ = some (.int .u32 N) ∧ W6.cell? ⟨bx, 2, none⟩ = some (.slice A1 V.length c1) := Y6.out.cells3
          refine ⟨_, rfl, HS, ?_⟩
          try simp only [Act.put, List.setIfInBounds_toArray, List.set_cons_zero, List.set_cons_succ]
          clear HS
          refine FirstH.only (i := 3) (by kernel_rfl) (by decide) inv (fun inv => wpOp_call (i := 3) rfl rfl 38 rfl (Op.call { callee := .value (.func 15), args := #[.tmp 35, .tmp 37], argTypes := #[30, 28] }) rfl 15 #[.agg #[.int .u8 g, .int .u32 N, .slice A1 V.length c1], .slice E1 drop.length m1] (by unfold bareO; go_simp) (quorumO g N A1 E1 V drop c1 m1 W6 (rows_own Y6.out.own).1 (rows_own P6.out).1 LC.out.1 LC.out.2 lea leb hV40 (by omega) RVh.out RDh.out) ?_)
          rintro e9 W7 ⟨rfl, b7⟩
          rw [hqa]
          have Y7 := Lib.hid (Y6.out.below b7)
          clear b7
          have HS : W7.cell? ⟨bx, 0, none⟩ = some (.int .u8 g) ∧ W7.cell? ⟨bx, 1, none⟩ = some (.int .u32 N) ∧ W7.cell? ⟨bx, 2, none⟩ = some (.slice A1 V.length c1) := Y7.out.cells3
          refine ⟨_, rfl, HS, ?_⟩
          try simp only [Act.put, List.setIfInBounds_toArray, List.set_cons_zero, List.set_cons_succ]
          refine FirstH.go (i := 4) (v := .bool false) rfl rfl 39 rfl (Op.move (.tmp 38)) rfl (by kernel_rfl) (fun _ _ _ h => nomatch h.1) inv (fun W hS => by obtain ⟨s0, s1, s2⟩ := hS; unfold bareO; go_simp) HS (fun inv => ?_)
          try simp only [Act.put, List.setIfInBounds_toArray, List.set_cons_zero, List.set_cons_succ]
          refine FirstH.goS (i := 5) rfl (by kernel_rfl) 40 rfl (by kernel_rfl) (fun _ _ _ h => nomatch h.1) inv HS (fun inv => ?_)
          try simp only [Act.put, List.setIfInBounds_toArray, List.set_cons_zero, List.set_cons_succ]
          refine FirstH.goS (i := 6) rfl (by kernel_rfl) 41 rfl (by kernel_rfl) (fun _ _ _ h => nomatch h.1) inv HS (fun inv => ?_)
          try simp only [Act.put, List.setIfInBounds_toArray, List.set_cons_zero, List.set_cons_succ]
          refine FirstH.goS (i := 7) rfl (by kernel_rfl) 42 rfl (by kernel_rfl) (fun _ _ _ h => nomatch h.1) inv HS (fun inv => ?_)
          try simp only [Act.put, List.setIfInBounds_toArray, List.set_cons_zero, List.set_cons_succ]
          refine FirstH.goS (i := 8) rfl (by kernel_rfl) 43 rfl (by kernel_rfl) (fun _ _ _ h => nomatch h.1) inv HS (fun inv => ?_)
          try simp only [Act.put, List.setIfInBounds_toArray, List.set_cons_zero, List.set_cons_succ]
          clear HS
          refine ⟨by kernel_rfl, ?_⟩
          simp only [List.drop_succ_cons, List.drop_zero]
          go_wp2
          with_reducible refine (AtQ_mk ?_ Y7.out).2
          first | (simp only [Act.put, List.setIfInBounds_toArray, List.set_cons_zero, List.set_cons_succ]; done) | (simp only [Act.put, List.setIfInBounds_toArray, List.set_cons_zero, List.set_cons_succ]; exact ⟨_, _, _, _, _, _, _, _, _, rfl⟩)
        | true =>
          have hqb : quo V add = false := by rw [hqa] at hqq; simpa using hqq
          go_region_held3 (fun W => W.cell? ⟨bx, 0, none⟩ = some (.int .u8 g) ∧ W.cell? ⟨bx, 1, none⟩ = some (.int .u32 N) ∧ W.cell? ⟨bx, 2, none⟩ = some (.slice A1 V.length c1)) ((first | (exact Y9.out.cells3) | (exact Y8.out.cells3) | (exact Y7.out.cells3) | (exact Y6.out.cells3) | (exact X5.out.cells3) | (simp; done) | (go_simp; done) | go_keep)) (first
                | (have Y8x := Y8.out; go_at_call 15; refine (quorumO g N A1 E2 V add c1 m2 _ (rows_own ((Y8x.below (show Below w8.heap.size w8 _ from (by repeat (first | (with_reducible exact Below.refl _ _) | (with_reducible refine Below.drew ?_) | (with_reducible refine Below.alloc ?_ (by first | omega | (simp; done) | (simp; omega)) _))))).own)).1 (rows_own (own_kept P8.out (show Below w8.heap.size w8 _ from (by repeat (first | (with_reducible exact Below.refl _ _) | (with_reducible refine Below.drew ?_) | (with_reducible refine Below.alloc ?_ (by first | omega | (simp; done) | (simp; omega)) _)))))).1 LC.out.1 LC.out.2 le2.out.1 le2.out.2 hV40 (by omega) RVh.out RAh.out).mono ?_; rw [hqb]
                   rintro e9 w9 ⟨rfl, b9⟩
                   have Y9 := Lib.hid ((Y8x.below (show Below w8.heap.size w8 _ from (by repeat (first | (with_reducible exact Below.refl _ _) | (with_reducible refine Below.drew ?_) | (with_reducible refine Below.alloc ?_ (by first | omega | (simp; done) | (simp; omega)) _))))).below b9)
                   obtain ⟨s0, s1, s2⟩ := Y9.out.cells3
                   clear Y8x b9)
                | (have Y7x := Y7.out; go_at_call 9; refine (procs D add e _ (HD.out _ ((Y7x.below (show Below w7.heap.size w7 _ from (by repeat (first | (with_reducible exact Below.refl _ _) | (with_reducible refine Below.drew ?_) | (with_reducible refine Below.alloc ?_ (by first | omega | (simp; done) | (simp; omega)) _))))).bel)) h4A he ho).mono ?_
                   rintro e8 w8 ⟨v8, rfl, O8, b8⟩
                   obtain ⟨E2, m2, rfl, -, lea, leb⟩ := rowsV_of_own O8
                   have le2 := Lib.hid (And.intro lea leb)
                   have Y8 := Lib.hid ((Y7x.below (show Below w7.heap.size w7 _ from (by repeat (first | (with_reducible exact Below.refl _ _) | (with_reducible refine Below.drew ?_) | (with_reducible refine Below.alloc ?_ (by first | omega | (simp; done) | (simp; omega)) _))))).below b8)
                   have P8 := Lib.hid O8
                   obtain ⟨s0, s1, s2⟩ := Y8.out.cells3
                   clear b8 O8 lea leb Y7x)
                | (have Y6x := Y6.out; go_at_call 15; refine (quorumO g N A1 E1 V drop c1 m1 _ (rows_own ((Y6x.below (show Below w6.heap.size w6 _ from (by repeat (first | (with_reducible exact Below.refl _ _) | (with_reducible refine Below.drew ?_) | (with_reducible refine Below.alloc ?_ (by first | omega | (simp; done) | (simp; omega)) _))))).own)).1 (rows_own (own_kept P6.out (show Below w6.heap.size w6 _ from (by repeat (first | (with_reducible exact Below.refl _ _) | (with_reducible refine Below.drew ?_) | (with_reducible refine Below.alloc ?_ (by first | omega | (simp; done) | (simp; omega)) _)))))).1 LC.out.1 LC.out.2 le1.out.1 le1.out.2 hV40 (by omega) RVh.out RDh.out).mono ?_; rw [hqa]
                   rintro e7 w7 ⟨rfl, b7⟩
                   have Y7 := Lib.hid ((Y6x.below (show Below w6.heap.size w6 _ from (by repeat (first | (with_reducible exact Below.refl _ _) | (with_reducible refine Below.drew ?_) | (with_reducible refine Below.alloc ?_ (by first | omega | (simp; done) | (simp; omega)) _))))).below b7)
                   obtain ⟨s0, s1, s2⟩ := Y7.out.cells3
                   clear Y6x b7)
                | (go_at_call 9; refine (procs B drop d _ (HB.out _ ((X5.out.below (show Below w5.heap.size w5 _ from (by repeat (first | (with_reducible exact Below.refl _ _) | (with_reducible refine Below.drew ?_) | (with_reducible refine Below.alloc ?_ (by first | omega | (simp; done) | (simp; omega)) _))))).bel)) h4B hd hn).mono ?_
                   rintro e6 w6 ⟨v6, rfl, O6, b6⟩
                   obtain ⟨E1, m1, rfl, -, lea, leb⟩ := rowsV_of_own O6
                   have le1 := Lib.hid (And.intro lea leb)
                   have Y6 := Lib.hid ((X5.out.below (show Below w5.heap.size w5 _ from (by repeat (first | (with_reducible exact Below.refl _ _) | (with_reducible refine Below.drew ?_) | (with_reducible refine Below.alloc ?_ (by first | omega | (simp; done) | (simp; omega)) _))))).below b6)
                   have P6 := Lib.hid O6
                   obtain ⟨s0, s1, s2⟩ := Y6.out.cells3
                   clear b6 O6 lea leb))
          all_goals (with_reducible refine AtQ_mk ?_ Y9.out)
          all_goals (first | (simp only [Act.put, List.setIfInBounds_toArray, List.set_cons_zero, List.set_cons_succ]; done) | (simp only [Act.put, List.setIfInBounds_toArray, List.set_cons_zero, List.set_cons_succ]; exact ⟨_, _, _, _, _, _, _, _, _, rfl⟩))
      · rintro a W3 ⟨u35, u36, u37, u38, u39, u40, u41, u42, u43, rfl, X2⟩
        clear X5 f0 f1 f2 lbx
        simp only [Act.put, List.setIfInBounds_toArray, List.set_cons_zero, List.set_cons_succ]
        go_wp2
        have f0 : W3.cell? ⟨bx, 0, none⟩ = some (.int .u8 g) := (cell_of_row _ _ 0 _ _ _ X2.out.rx).trans rfl
        have f1 : W3.cell? ⟨bx, 1, none⟩ = some (.int .u32 N) := (cell_of_row _ _ 1 _ _ _ X2.out.rx).trans rfl
        have f2 : W3.cell? ⟨bx, 2, none⟩ = some (.slice A1 V.length c1) := (cell_of_row _ _ 2 _ _ _ X2.out.rx).trans rfl
        have lbx : bx < W3.heap.size := X2.out.lt
        have nb3 : ¬ W3.heap.size = bx := by omega
        have nc3 : ¬ bx = W3.heap.size := by omega
        refine wp_cutV (AtM w w.heap.size bx #[.int .u8 g, .int .u32 N, .slice A V.length c] g N V drop add A1 c1) ?_ ?_
        · go_region_held3 (fun W => W.cell? ⟨bx, 0, none⟩ = some (.int .u8 g) ∧ W.cell? ⟨bx, 1, none⟩ = some (.int .u32 N) ∧ W.cell? ⟨bx, 2, none⟩ = some (.slice A1 V.length c1)) ((first | (exact Y6.out.cells3) | (exact Y5.out.cells3) | (exact Y4.out.cells3) | (simp; done) | (go_simp; done) | go_keep)) (first
              | (have Y5x := Y5.out; go_at_call 8; refine (nextO g N A1 E1 E2 V drop add c1 m1 m2 _ (rows_own ((Y5x.below (show Below w5.heap.size w5 _ from (by repeat (first | (with_reducible exact Below.refl _ _) | (with_reducible refine Below.drew ?_) | (with_reducible refine Below.alloc ?_ (by first | omega | (simp; done) | (simp; omega)) _))))).own)).1 (rows_own (own_kept P4.out (show Below w5.heap.size w5 _ from (by repeat (first | (with_reducible exact Below.refl _ _) | (with_reducible refine Below.drew ?_) | (with_reducible refine Below.alloc ?_ (by first | omega | (simp; done) | (simp; omega)) _)))))).1 (rows_own (own_kept P5.out (show Below w5.heap.size w5 _ from (by repeat (first | (with_reducible exact Below.refl _ _) | (with_reducible refine Below.drew ?_) | (with_reducible refine Below.alloc ?_ (by first | omega | (simp; done) | (simp; omega)) _)))))).1 LC.out.1 LC.out.2 le1.out.1 le1.out.2 le2.out.1 le2.out.2 hV40 hB40 hA40 HG.out HN.out RVh.out RDh.out RAh.out).mono ?_
                 rintro e6 w6 ⟨v6, rfl, O6, b6⟩
                 obtain ⟨A2, c2, rfl, -, -, -⟩ := rowsV_of_own O6
                 have Y6 := Lib.hid ((Y5x.below (show Below w5.heap.size w5 _ from (by repeat (first | (with_reducible exact Below.refl _ _) | (with_reducible refine Below.drew ?_) | (with_reducible refine Below.alloc ?_ (by first | omega | (simp; done) | (simp; omega)) _))))).below b6)
                 have B6 := Lib.hid (B5.out.trans (((show Below w5.heap.size w5 _ from (by repeat (first | (with_reducible exact Below.refl _ _) | (with_reducible refine Below.drew ?_) | (with_reducible refine Below.alloc ?_ (by first | omega | (simp; done) | (simp; omega)) _)))).mono B5.out.size).trans (b6.mono (Nat.le_trans B5.out.size (show Below w5.heap.size w5 _ from (by repeat (first | (with_reducible exact Below.refl _ _) | (with_reducible refine Below.drew ?_) | (with_reducible refine Below.alloc ?_ (by first | omega | (simp; done) | (simp; omega)) _)))).size))))
                 have Q6 := Lib.hid O6
                 (first | (have zr := (b6.block _ (by first | exact (Array.getElem?_eq_some_iff.1 zr).1 | (simp; done))).trans zr) | (have zr : w6.heap[w5.heap.size]? = some (.cells #[.int .u8 0, .int .u32 0, .slice none 0 0] 30 (0, 0)) := (b6.block _ (by simp)).trans (heap_alloc_new w5 (.cells #[.int .u8 0, .int .u32 0, .slice none 0 0] 30))) | skip)
                 (try (have q0 := (cell_of_row _ _ 0 _ _ _ zr).trans (show (#[.int .u8 0, .int .u32 0, .slice none 0 0] : Array Value)[0]? = some (.int .u8 0) from rfl); have q1 := (cell_of_row _ _ 1 _ _ _ zr).trans (show (#[.int .u8 0, .int .u32 0, .slice none 0 0] : Array Value)[1]? = some (.int .u32 0) from rfl); have q2 := (cell_of_row _ _ 2 _ _ _ zr).trans (show (#[.int .u8 0, .int .u32 0, .slice none 0 0] : Array Value)[2]? = some (.slice none 0 0) from rfl); have p0 := frz_row 0 zr; have p1 := frz_row 1 zr; have p2 := frz_row 2 zr))
                 obtain ⟨s0, s1, s2⟩ := Y6.out.cells3
                 clear Y5x b6 O6)
              | (have Y4x := Y4.out; go_at_call 9; refine (procs D add e _ (HD.out _ ((Y4x.below (show Below w4.heap.size w4 _ from (by repeat (first | (with_reducible exact Below.refl _ _) | (with_reducible refine Below.drew ?_) | (with_reducible refine Below.alloc ?_ (by first | omega | (simp; done) | (simp; omega)) _))))).bel)) h4A he ho).mono ?_
                 rintro e5 w5 ⟨v5, rfl, O5, b5⟩
                 obtain ⟨E2, m2, rfl, -, le2a, le2b⟩ := rowsV_of_own O5
                 have le2 := Lib.hid (And.intro le2a le2b)
                 have Y5 := Lib.hid ((Y4x.below (show Below w4.heap.size w4 _ from (by repeat (first | (with_reducible exact Below.refl _ _) | (with_reducible refine Below.drew ?_) | (with_reducible refine Below.alloc ?_ (by first | omega | (simp; done) | (simp; omega)) _))))).below b5)
                 have B5 := Lib.hid (B4.out.trans (((show Below w4.heap.size w4 _ from (by repeat (first | (with_reducible exact Below.refl _ _) | (with_reducible refine Below.drew ?_) | (with_reducible refine Below.alloc ?_ (by first | omega | (simp; done) | (simp; omega)) _)))).mono B4.out.size).trans (b5.mono (Nat.le_trans B4.out.size (show Below w4.heap.size w4 _ from (by repeat (first | (with_reducible exact Below.refl _ _) | (with_reducible refine Below.drew ?_) | (with_reducible refine Below.alloc ?_ (by first | omega | (simp; done) | (simp; omega)) _)))).size))))
                 have P5 := Lib.hid O5
                 have P4 := Lib.hid (own_kept (own_kept P4.out (show Below w4.heap.size w4 _ from (by repeat (first | (with_reducible exact Below.refl _ _) | (with_reducible refine Below.drew ?_) | (with_reducible refine Below.alloc ?_ (by first | omega | (simp; done) | (simp; omega)) _))))) b5)
                 (first | (have zr := (b5.block _ (by first | exact (Array.getElem?_eq_some_iff.1 zr).1 | (simp; done))).trans zr) | (have zr : w5.heap[w4.heap.size]? = some (.cells #[.int .u8 0, .int .u32 0, .slice none 0 0] 30 (0, 0)) := (b5.block _ (by simp)).trans (heap_alloc_new w4 (.cells #[.int .u8 0, .int .u32 0, .slice none 0 0] 30))) | skip)
                 have nb5 : ¬ w5.heap.size = bx := by have := Y5.out.lt; omega
                 have nc5 : ¬ bx = w5.heap.size := by omega
                 (try have lz5 := (Array.getElem?_eq_some_iff.1 zr).1)
                 clear Y4x b5 O5 le2a le2b)
              | (go_at_call 9; refine (procs B drop d _ (HB.out _ ((X2.out.below (show Below W3.heap.size W3 _ from (by repeat (first | (with_reducible exact Below.refl _ _) | (with_reducible refine Below.drew ?_) | (with_reducible refine Below.alloc ?_ (by first | omega | (simp; done) | (simp; omega)) _))))).bel)) h4B hd hn).mono ?_
                 rintro e4 w4 ⟨v4, rfl, O4, b4⟩
                 obtain ⟨E1, m1, rfl, -, le1a, le1b⟩ := rowsV_of_own O4
                 have le1 := Lib.hid (And.intro le1a le1b)
                 have Y4 := Lib.hid ((X2.out.below (show Below W3.heap.size W3 _ from (by repeat (first | (with_reducible exact Below.refl _ _) | (with_reducible refine Below.drew ?_) | (with_reducible refine Below.alloc ?_ (by first | omega | (simp; done) | (simp; omega)) _))))).below b4)
                 have B4 : Hid (Below W3.heap.size W3 w4) := Lib.hid ((show Below W3.heap.size W3 _ from (by repeat (first | (with_reducible exact Below.refl _ _) | (with_reducible refine Below.drew ?_) | (with_reducible refine Below.alloc ?_ (by first | omega | (simp; done) | (simp; omega)) _)))).trans (b4.mono (show Below W3.heap.size W3 _ from (by repeat (first | (with_reducible exact Below.refl _ _) | (with_reducible refine Below.drew ?_) | (with_reducible refine Below.alloc ?_ (by first | omega | (simp; done) | (simp; omega)) _)))).size))
                 have P4 := Lib.hid O4
                 (first | (have zr : w4.heap[W3.heap.size]? = some (.cells #[.int .u8 0, .int .u32 0, .slice none 0 0] 30 (0, 0)) := (b4.block _ (by simp)).trans (heap_alloc_new W3.drew (.cells #[.int .u8 0, .int .u32 0, .slice none 0 0] 30))) | skip)
                 have nb4 : ¬ w4.heap.size = bx := by have := Y4.out.lt; omega
                 have nc4 : ¬ bx = w4.heap.size := by omega
                 clear b4 O4 le1a le1b))
          all_goals
            have l6w : w.heap.size ≤ w5.heap.size := Y5.out.bel.size
            first
              | (with_reducible refine AtM_new ?_ ?_ ?_
                 · first | (simp only [Act.put, List.setIfInBounds_toArray, List.set_cons_zero, List.set_cons_succ]; done) | (simp only [Act.put, List.setIfInBounds_toArray, List.set_cons_zero, List.set_cons_succ]; exact ⟨_, _, _, _, _, _, _, _, _, rfl⟩)
                 · exact Y6.out
                 · exact ⟨_, (by first | exact l6w | (simp; omega)), Q6.out⟩)
              | (with_reducible refine AtM_set ?_ ?_ ?_ ?_
                 · first | (simp only [Act.put, List.setIfInBounds_toArray, List.set_cons_zero, List.set_cons_succ]; done) | (simp only [Act.put, List.setIfInBounds_toArray, List.set_cons_zero, List.set_cons_succ]; exact ⟨_, _, _, _, _, _, _, _, _, rfl⟩)
                 · exact ⟨W3, X2.out, B6.out, (by first | exact Nat.le_refl _ | exact B4.out.size | exact B5.out.size)⟩
                 · exact zr
                 · exact ⟨_, (by first | exact lz5 | (simp; done)), (by first | exact l6w | (simp; omega)), Q6.out⟩)
        · rintro a W ⟨u75, u76, u77, u78, u79, u80, u81, u82, u83, bk, A2, c2, rfl, X6, R6, O6⟩
          simp only [Act.put, List.setIfInBounds_toArray, List.set_cons_zero, List.set_cons_succ]
          have hML : Hid ((nxV g N V drop add).length ≤ 80) := Lib.hid (nxV_len g N V drop add hV40 hA40)
          have lbk : Hid (bk < W.heap.size) := Lib.hid (Array.getElem?_eq_some_iff.1 R6.out).1
          clear f0 f1 f2 lbx nb3 nc3 X2
          by_cases hz : nxC g N V drop add = 0
          rotate_left
          · have hv0 : nxV g N V drop add = [] := if_neg hz
            rw [hv0] at R6
            have m2 : W.cell? ⟨bk, 2, none⟩ = some (.slice A2 0 c2) := (cell_of_row _ _ 2 _ _ _ R6.out).trans rfl
            clear hv0 O6 R6 hML
            generalize nxC g N V drop add = C' at *
            go_wp2_with (go_at_call 13; refine (numV C' W).mono ?_; rintro e7 w7 ⟨rfl, rfl⟩)
            go_ret
            exact ⟨rfl, X6.out.bel⟩
          · obtain ⟨-, hNm, hcn, h8, hvM⟩ := nx_good hz
            have ev : nxV g N V drop add = nxM V drop add := if_pos hz
            have en : nxN g N V drop add = N + 1 := if_pos hz
            have eg : nxG g N V drop add = g := if_pos hz
            have RMh := Lib.hid (nxM_rng (drop := drop) RVh.out RAh.out)
            rw [ev, en, eg] at R6
            rw [ev] at O6
            rw [hz]
            clear ev en eg hz hML
            have HM := Lib.hid hvM
            have HC := Lib.hid hcn
            generalize nxM V drop add = M at *
            have hNw : IntKind.u32.wrap (N + 1) = N + 1 := by have := HN.out; exact IntWalk.u32_in _ (by omega)
            have hN1 : 0 ≤ N + 1 ∧ N + 1 ≤ 4294967295 := by have := HN.out; omega
            have HN1 := Lib.hid hN1
            clear hvM hcn hN1
            go_wp2_with (go_at_call 13; refine (numV 0 W).mono ?_; rintro e7 w7 ⟨rfl, hw7⟩; subst hw7)
            go_loopw [12, 13] (fun n i wx => ∃ k : Nat, k ≤ V.length ∧ i = .int .i64 k ∧ n = .int .i64 (cnt V M k) ∧ Hid (LX w wx w.heap.size bx #[.int .u8 g, .int .u32 N, .slice A V.length c] g N V A1 c1) ∧ Hid (wx.heap[bk]? = some (.cells #[.int .u8 g, .int .u32 (N + 1), .slice A2 M.length c2] 30 (0, 0))) ∧ Hid (wx.ownsRow w.heap.size 48 2 (.slice A2 M.length c2) M.length (cellsV M))) (fun _ i _ => V.length - (intOf i).toNat)
            case atStart => exact ⟨0, by omega, rfl, rfl, X6, R6, O6⟩
            case round =>
              clear X6 R6 O6 lbk
              obtain ⟨k, hk, rfl, rfl, X8, R8, O8⟩ := hrel
              have g2 : wr.cell? ⟨bx, 2, none⟩ = some (.slice A1 V.length c1) := X8.out.cells3.2.2
              have y0 : wr.cell? ⟨bk, 0, none⟩ = some (.int .u8 g) := (cell_of_row _ _ 0 _ _ _ R8.out).trans rfl
              have y1 : wr.cell? ⟨bk, 1, none⟩ = some (.int .u32 (N + 1)) := (cell_of_row _ _ 1 _ _ _ R8.out).trans rfl
              have y2 : wr.cell? ⟨bk, 2, none⟩ = some (.slice A2 M.length c2) := (cell_of_row _ _ 2 _ _ _ R8.out).trans rfl
              have hcl := cnt_le V M k
              have hcm : c1 ≤ maxLen := LC.out.2
              have hvc : V.length ≤ c1 := LC.out.1
              unfold maxLen at hcm
              by_cases hlt : k < V.length
              · obtain ⟨b, o, e9, hb, C9⟩ := (rows_own X8.out.own).1.at_ hlt
                obtain ⟨z0, z1⟩ := C9.below (Below.refl _ _) hb
                subst e9
                have HZ : Hid (∀ W, Below wr.heap.size wr W → W.cell? ⟨bk, 0, none⟩ = some (.int .u8 g) ∧ W.cell? ⟨bk, 1, none⟩ = some (.int .u32 (N + 1)) ∧ W.cell? ⟨bk, 2, none⟩ = some (.slice A2 M.length c2) ∧ W.cell? ⟨bx, 2, none⟩ = some (.slice (some ⟨b, o, none⟩) V.length c1) ∧ W.cell? ⟨b, o + k * 2, none⟩ = some (.int .u8 V[k].n) ∧ W.cell? ⟨b, o + k * 2 + 1, none⟩ = some (.int .u16 V[k].l)) := Lib.hid (fun W bW => by
                  obtain ⟨t0, t1⟩ := C9.below bW hb
                  have lbk : bk < wr.heap.size := (Array.getElem?_eq_some_iff.1 R8.out).1
                  have R9 := (bW.block _ lbk).trans R8.out
                  exact ⟨(cell_of_row _ _ 0 _ _ _ R9).trans rfl, (cell_of_row _ _ 1 _ _ _ R9).trans rfl, (cell_of_row _ _ 2 _ _ _ R9).trans rfl, (X8.out.below bW).cells3.2.2, t0, t1⟩)
                have hx : V[k]? = some V[k] := List.getElem?_eq_getElem hlt
                have rp : Hid (V[k].Rng) := Lib.hid (RVh.out _ (List.getElem_mem hlt))
                have HX := Lib.hid hx
                generalize V[k] = x at *
                clear C9 hx
                have hji : (k : Int) < (V.length : Int) := by omega
                have hj0 : (0 : Int) ≤ (k : Int) := by omega
                have hci : (V.length : Int) ≤ (c1 : Int) := by omega
                have hs1 : IntKind.i64.wrap ((cnt V M k : Int) + 1) = (cnt V M k : Int) + 1 := IntWalk.i64_in _ (by omega)
                have hmem := rk_mem M x
                have HI : Hid ((x ∈ M → cnt V M (k + 1) = cnt V M k + 1) ∧ (x ∉ M → cnt V M (k + 1) = cnt V M k)) := Lib.hid ⟨cnt_in HX.out, cnt_out HX.out⟩
                have KR : Hid (∀ W, Below wr.heap.size wr W → Calls Tryd.prog 17 #[.agg #[.int .u8 g, .int .u32 (N + 1), .slice A2 M.length c2], .agg #[.int .u8 x.n, .int .u16 x.l]] W fun e w' => e = .returned (.int .i64 (rk M x)) ∧ Below W.heap.size W w') := Lib.hid (fun W bW => by
                  have h := rows_own (own_kept O8.out bW)
                  exact rankO g (N + 1) A2 M c2 x W h.1 h.2.1 h.2.2 (by omega) RMh.out rp.out)
                generalize hrk : rk M x = z at *
                clear y0 y1 y2 z0 z1
                by_cases hi : x ∈ M
                · have h0 : 0 ≤ z := hmem.2 hi
                  have HN2 := Lib.hid (HI.out.1 hi)
                  clear hmem hi hrk
                  go_wp2
                  go_region_held3 (fun W => W.cell? ⟨bk, 0, none⟩ = some (.int .u8 g) ∧ W.cell? ⟨bk, 1, none⟩ = some (.int .u32 (N + 1)) ∧ W.cell? ⟨bk, 2, none⟩ = some (.slice A2 M.length c2) ∧ W.cell? ⟨bx, 2, none⟩ = some (.slice (some ⟨b, o, none⟩) V.length c1) ∧ W.cell? ⟨b, o + k * 2, none⟩ = some (.int .u8 x.n) ∧ W.cell? ⟨b, o + k * 2 + 1, none⟩ = some (.int .u16 x.l)) ((first | (exact HZ.out _ B9.out) | (exact HZ.out _ (Below.refl _ _)) | (exact HZ.out _ (Below.refl _ _).drew) | (simp; done) | (go_simp; done) | go_keep)) ((go_at_call 17; refine (KR.out _ (Below.refl _ _).drew).mono ?_; rintro e9 w9 ⟨rfl, b9⟩; have B9 : Hid (Below wr.heap.size wr w9) := Lib.hid ((Below.refl _ _).drew.trans b9); obtain ⟨s0, s1, s2, s3, s4, s5⟩ := HZ.out _ B9.out; clear b9))
                  have X9 := Lib.hid (X8.out.below B9.out)
                  have R9 := Lib.hid ((B9.out.block _ (Array.getElem?_eq_some_iff.1 R8.out).1).trans R8.out)
                  have O9 := Lib.hid (own_kept O8.out B9.out)
                  go_wp2
                  go_roundw
                  case rel => exact ⟨k + 1, by omega, by go_num, by rw [HN2.out]; go_num, X9, R9, O9⟩
                  case measure => simp [intOf]; omega
                · have h0 : z < 0 := by
                    rcases Int.lt_or_le z 0 with h2 | h2
                    · exact h2
                    · exact absurd (hmem.1 h2) hi
                  have HN2 := Lib.hid (HI.out.2 hi)
                  clear hmem hi hrk
                  go_wp2
                  go_region_held3 (fun W => W.cell? ⟨bk, 0, none⟩ = some (.int .u8 g) ∧ W.cell? ⟨bk, 1, none⟩ = some (.int .u32 (N + 1)) ∧ W.cell? ⟨bk, 2, none⟩ = some (.slice A2 M.length c2) ∧ W.cell? ⟨bx, 2, none⟩ = some (.slice (some ⟨b, o, none⟩) V.length c1) ∧ W.cell? ⟨b, o + k * 2, none⟩ = some (.int .u8 x.n) ∧ W.cell? ⟨b, o + k * 2 + 1, none⟩ = some (.int .u16 x.l)) ((first | (exact HZ.out _ B9.out) | (exact HZ.out _ (Below.refl _ _)) | (exact HZ.out _ (Below.refl _ _).drew) | (simp; done) | (go_simp; done) | go_keep)) ((go_at_call 17; refine (KR.out _ (Below.refl _ _).drew).mono ?_; rintro e9 w9 ⟨rfl, b9⟩; have B9 : Hid (Below wr.heap.size wr w9) := Lib.hid ((Below.refl _ _).drew.trans b9); obtain ⟨s0, s1, s2, s3, s4, s5⟩ := HZ.out _ B9.out; clear b9))
                  have X9 := Lib.hid (X8.out.below B9.out)
                  have R9 := Lib.hid ((B9.out.block _ (Array.getElem?_eq_some_iff.1 R8.out).1).trans R8.out)
                  have O9 := Lib.hid (own_kept O8.out B9.out)
                  go_wp2
                  go_roundw
                  case rel => exact ⟨k + 1, by omega, by go_num, by rw [HN2.out], X9, R9, O9⟩
                  case measure => simp [intOf]; omega
              · have hkk : k = V.length := by omega
                subst hkk
                have g1 : wr.cell? ⟨bx, 1, none⟩ = some (.int .u32 N) := X8.out.cells3.2.1
                have h2 := HC.out
                have lbk : bk < wr.heap.size := (Array.getElem?_eq_some_iff.1 R8.out).1
                generalize cnt V M V.length = z at *
                have hw2 : IntKind.i64.wrap (2 * (z : Int)) = 2 * (z : Int) := IntWalk.i64_in _ (by omega)
                have h3 : (V.length : Int) < 2 * (z : Int) := by omega
                go_wp2_with (have X8x := X8.out; go_at_call 14; refine (rightO g (N + 1) A2 M c2 _ (rows_own O8.out).1 (rows_own O8.out).2.1 (rows_own O8.out).2.2 HG.out HN1.out RMh.out).mono ?_; rw [HM.out]; rintro e9 w9 ⟨rfl, b9⟩; have X9 := Lib.hid (X8x.below b9); have R9 := (b9.block _ lbk).trans R8.out; have y1 : w9.cell? ⟨bk, 1, none⟩ = some (.int .u32 (N + 1)) := (cell_of_row _ _ 1 _ _ _ R9).trans rfl; have g1 : w9.cell? ⟨bx, 1, none⟩ = some (.int .u32 N) := X9.out.cells3.2.1; clear b9 R9 X8x)
                go_ret
                exact ⟨rfl, X9.out.bel⟩
    | true =>
      obtain ⟨hqa, hqb⟩ : quo V drop = true ∧ quo V add = true := by simpa using hqq
      refine wp_cutV (AtQ w w.heap.size bx #[.int .u8 g, .int .u32 N, .slice A V.length c] g N V A1 c1 true) ?_ ?_
      · go_region_held3 (fun W => W.cell? ⟨bx, 0, none⟩ = some (.int .u8 g) ∧ W.cell? ⟨bx, 1, none⟩ = some (.int .u32 N) ∧ W.cell? ⟨bx, 2, none⟩ = some (.slice A1 V.length c1)) ((first | (exact Y9.out.cells3) | (exact Y8.out.cells3) | (exact Y7.out.cells3) | (exact Y6.out.cells3) | (exact X5.out.cells3) | (simp; done) | (go_simp; done) | go_keep)) (first
              | (have Y8x := Y8.out; go_at_call 15; refine (quorumO g N A1 E2 V add c1 m2 _ (rows_own ((Y8x.below (show Below w8.heap.size w8 _ from (by repeat (first | (with_reducible exact Below.refl _ _) | (with_reducible refine Below.drew ?_) | (with_reducible refine Below.alloc ?_ (by first | omega | (simp; done) | (simp; omega)) _))))).own)).1 (rows_own (own_kept P8.out (show Below w8.heap.size w8 _ from (by repeat (first | (with_reducible exact Below.refl _ _) | (with_reducible refine Below.drew ?_) | (with_reducible refine Below.alloc ?_ (by first | omega | (simp; done) | (simp; omega)) _)))))).1 LC.out.1 LC.out.2 le2.out.1 le2.out.2 hV40 (by omega) RVh.out RAh.out).mono ?_; rw [hqb]
                 rintro e9 w9 ⟨rfl, b9⟩
                 have Y9 := Lib.hid ((Y8x.below (show Below w8.heap.size w8 _ from (by repeat (first | (with_reducible exact Below.refl _ _) | (with_reducible refine Below.drew ?_) | (with_reducible refine Below.alloc ?_ (by first | omega | (simp; done) | (simp; omega)) _))))).below b9)
                 obtain ⟨s0, s1, s2⟩ := Y9.out.cells3
                 clear Y8x b9)
              | (have Y7x := Y7.out; go_at_call 9; refine (procs D add e _ (HD.out _ ((Y7x.below (show Below w7.heap.size w7 _ from (by repeat (first | (with_reducible exact Below.refl _ _) | (with_reducible refine Below.drew ?_) | (with_reducible refine Below.alloc ?_ (by first | omega | (simp; done) | (simp; omega)) _))))).bel)) h4A he ho).mono ?_
                 rintro e8 w8 ⟨v8, rfl, O8, b8⟩
                 obtain ⟨E2, m2, rfl, -, lea, leb⟩ := rowsV_of_own O8
                 have le2 := Lib.hid (And.intro lea leb)
                 have Y8 := Lib.hid ((Y7x.below (show Below w7.heap.size w7 _ from (by repeat (first | (with_reducible exact Below.refl _ _) | (with_reducible refine Below.drew ?_) | (with_reducible refine Below.alloc ?_ (by first | omega | (simp; done) | (simp; omega)) _))))).below b8)
                 have P8 := Lib.hid O8
                 obtain ⟨s0, s1, s2⟩ := Y8.out.cells3
                 clear b8 O8 lea leb Y7x)
              | (have Y6x := Y6.out; go_at_call 15; refine (quorumO g N A1 E1 V drop c1 m1 _ (rows_own ((Y6x.below (show Below w6.heap.size w6 _ from (by repeat (first | (with_reducible exact Below.refl _ _) | (with_reducible refine Below.drew ?_) | (with_reducible refine Below.alloc ?_ (by first | omega | (simp; done) | (simp; omega)) _))))).own)).1 (rows_own (own_kept P6.out (show Below w6.heap.size w6 _ from (by repeat (first | (with_reducible exact Below.refl _ _) | (with_reducible refine Below.drew ?_) | (with_reducible refine Below.alloc ?_ (by first | omega | (simp; done) | (simp; omega)) _)))))).1 LC.out.1 LC.out.2 le1.out.1 le1.out.2 hV40 (by omega) RVh.out RDh.out).mono ?_; rw [hqa]
                 rintro e7 w7 ⟨rfl, b7⟩
                 have Y7 := Lib.hid ((Y6x.below (show Below w6.heap.size w6 _ from (by repeat (first | (with_reducible exact Below.refl _ _) | (with_reducible refine Below.drew ?_) | (with_reducible refine Below.alloc ?_ (by first | omega | (simp; done) | (simp; omega)) _))))).below b7)
                 obtain ⟨s0, s1, s2⟩ := Y7.out.cells3
                 clear Y6x b7)
              | (go_at_call 9; refine (procs B drop d _ (HB.out _ ((X5.out.below (show Below w5.heap.size w5 _ from (by repeat (first | (with_reducible exact Below.refl _ _) | (with_reducible refine Below.drew ?_) | (with_reducible refine Below.alloc ?_ (by first | omega | (simp; done) | (simp; omega)) _))))).bel)) h4B hd hn).mono ?_
                 rintro e6 w6 ⟨v6, rfl, O6, b6⟩
                 obtain ⟨E1, m1, rfl, -, lea, leb⟩ := rowsV_of_own O6
                 have le1 := Lib.hid (And.intro lea leb)
                 have Y6 := Lib.hid ((X5.out.below (show Below w5.heap.size w5 _ from (by repeat (first | (with_reducible exact Below.refl _ _) | (with_reducible refine Below.drew ?_) | (with_reducible refine Below.alloc ?_ (by first | omega | (simp; done) | (simp; omega)) _))))).below b6)
                 have P6 := Lib.hid O6
                 obtain ⟨s0, s1, s2⟩ := Y6.out.cells3
                 clear b6 O6 lea leb))
        all_goals (with_reducible refine AtQ_mk ?_ Y9.out)
        all_goals (first | (simp only [Act.put, List.setIfInBounds_toArray, List.set_cons_zero, List.set_cons_succ]; done) | (simp only [Act.put, List.setIfInBounds_toArray, List.set_cons_zero, List.set_cons_succ]; exact ⟨_, _, _, _, _, _, _, _, _, rfl⟩))
      · rintro a W3 ⟨u35, u36, u37, u38, u39, u40, u41, u42, u43, rfl, X2⟩
        clear X5 f0 f1 f2 lbx
        simp only [Act.put, List.setIfInBounds_toArray, List.set_cons_zero, List.set_cons_succ]
        go_wp2
        go_loopw [8, 9] (fun m i wx => ∃ k : Nat, k ≤ V.length ∧ i = .int .i64 k ∧ m = .bool (met V drop add k) ∧ Hid (LX w wx w.heap.size bx #[.int .u8 g, .int .u32 N, .slice A V.length c] g N V A1 c1)) (fun _ i _ => V.length - (intOf i).toNat)
        case atStart => exact ⟨0, by omega, rfl, by rw [met_zero], X2⟩
        case round =>
          clear X2
          obtain ⟨k, hk, rfl, rfl, X8⟩ := hrel
          have e2 : wr.cell? ⟨w.heap.size, 2, none⟩ = some (.slice A V.length c) := (cell_of_row _ _ 2 _ _ _ X8.out.rv).trans rfl
          by_cases hlt : k < V.length
          · obtain ⟨b, o, e9, hb, C9⟩ := HR.out.at_ hlt
            obtain ⟨z0, z1⟩ := C9.below X8.out.bel hb
            subst e9
            have hx : V[k]? = some V[k] := List.getElem?_eq_getElem hlt
            have HX := Lib.hid (met_next (A := drop) (B := add) hx)
            generalize V[k] = x at *
            have C9 := Lib.hid C9
            clear hx
            have hcm := hm
            unfold maxLen at hcm
            have hji : (k : Int) < (V.length : Int) := by omega
            have hj0 : (0 : Int) ≤ (k : Int) := by omega
            have hci : (V.length : Int) ≤ (c : Int) := by omega
            cases hmk : met V drop add k with
            | true =>
              rw [hmk] at HX
              go_wp2
              go_roundw
              case rel => exact ⟨k + 1, by omega, by go_num, by rw [HX.out]; rfl, X8⟩
              case measure => simp [intOf]; omega
            | false =>
              rw [hmk] at HX
              have hma := rk_mem drop x
              have hmb := rk_mem add x
              have K1 := Lib.hid (rank B drop x d wr (HB.out _ X8.out.bel) hd hn)
              by_cases h1 : x ∈ drop
              · have h0 : 0 ≤ rk drop x := hma.2 h1
                by_cases h2 : x ∈ add
                · have h3 : 0 ≤ rk add x := hmb.2 h2
                  have HX2 : Hid (met V drop add (k + 1) = true) := Lib.hid (by rw [HX.out]; simp [h1, h2])
                  clear h1 h2 hma hmb
                  have HZ : Hid (∀ W, Below w.heap.size w W → W.cell? ⟨w.heap.size, 2, none⟩ = some (.slice (some ⟨b, o, none⟩) V.length c) → W.cell? ⟨b, o + k * 2, none⟩ = some (.int .u8 x.n) ∧ W.cell? ⟨b, o + k * 2 + 1, none⟩ = some (.int .u16 x.l)) := Lib.hid (fun W bW _ => ⟨(C9.out.below bW hb).c0, (C9.out.below bW hb).c1⟩)
                  generalize hza : rk drop x = za at *
                  generalize hzb : rk add x = zb at *
                  have KB : Hid (∀ W, Below w.heap.size w W → Calls Tryd.prog 16 #[.slice D add.length e, .agg #[.int .u8 x.n, .int .u16 x.l]] W fun e w' => e = .returned (.int .i64 zb) ∧ Below W.heap.size W w') := Lib.hid (fun W bW => by rw [← hzb]; exact rank D add x e W (HD.out _ bW) he ho)
                  clear hza hzb
                  go_wp2_with (first
                    | (have X9x := X9.out; go_at_call 16; refine (KB.out _ X9x.bel).mono ?_; rintro e10 w10 ⟨rfl, b10⟩; have X10 := Lib.hid (X9x.below b10); clear b10 X9x)
                    | (go_at_call 16; refine K1.out.mono ?_; rintro e9 w9 ⟨rfl, b9⟩; have X9 := Lib.hid (X8.out.below b9); clear b9 e2 z0 z1; have e2 : w9.cell? ⟨w.heap.size, 2, none⟩ = some (.slice (some ⟨b, o, none⟩) V.length c) := (cell_of_row _ _ 2 _ _ _ X9.out.rv).trans rfl; obtain ⟨z0, z1⟩ := HZ.out _ X9.out.bel e2))
                  go_roundw
                  case rel => exact ⟨k + 1, by omega, by go_num, by rw [HX2.out]; first | done | (simp; omega), X10⟩
                  case measure => simp [intOf]; omega
                · have h3 : rk add x < 0 := by
                    rcases Int.lt_or_le (rk add x) 0 with h9 | h9
                    · exact h9
                    · exact absurd (hmb.1 h9) h2
                  have HX2 : Hid (met V drop add (k + 1) = false) := Lib.hid (by rw [HX.out]; simp [h2])
                  clear h1 h2 hma hmb
                  have HZ : Hid (∀ W, Below w.heap.size w W → W.cell? ⟨w.heap.size, 2, none⟩ = some (.slice (some ⟨b, o, none⟩) V.length c) → W.cell? ⟨b, o + k * 2, none⟩ = some (.int .u8 x.n) ∧ W.cell? ⟨b, o + k * 2 + 1, none⟩ = some (.int .u16 x.l)) := Lib.hid (fun W bW _ => ⟨(C9.out.below bW hb).c0, (C9.out.below bW hb).c1⟩)
                  generalize hza : rk drop x = za at *
                  generalize hzb : rk add x = zb at *
                  have KB : Hid (∀ W, Below w.heap.size w W → Calls Tryd.prog 16 #[.slice D add.length e, .agg #[.int .u8 x.n, .int .u16 x.l]] W fun e w' => e = .returned (.int .i64 zb) ∧ Below W.heap.size W w') := Lib.hid (fun W bW => by rw [← hzb]; exact rank D add x e W (HD.out _ bW) he ho)
                  clear hza hzb
                  go_wp2_with (first
                    | (have X9x := X9.out; go_at_call 16; refine (KB.out _ X9x.bel).mono ?_; rintro e10 w10 ⟨rfl, b10⟩; have X10 := Lib.hid (X9x.below b10); clear b10 X9x)
                    | (go_at_call 16; refine K1.out.mono ?_; rintro e9 w9 ⟨rfl, b9⟩; have X9 := Lib.hid (X8.out.below b9); clear b9 e2 z0 z1; have e2 : w9.cell? ⟨w.heap.size, 2, none⟩ = some (.slice (some ⟨b, o, none⟩) V.length c) := (cell_of_row _ _ 2 _ _ _ X9.out.rv).trans rfl; obtain ⟨z0, z1⟩ := HZ.out _ X9.out.bel e2))
                  go_roundw
                  case rel => exact ⟨k + 1, by omega, by go_num, by rw [HX2.out]; first | done | (simp; omega), X10⟩
                  case measure => simp [intOf]; omega
              · have h0 : rk drop x < 0 := by
                  rcases Int.lt_or_le (rk drop x) 0 with h9 | h9
                  · exact h9
                  · exact absurd (hma.1 h9) h1
                have HX2 : Hid (met V drop add (k + 1) = false) := Lib.hid (by rw [HX.out]; simp [h1])
                clear h1 hma hmb
                generalize rk drop x = za at *
                go_wp2_with (go_at_call 16; refine K1.out.mono ?_; rintro e9 w9 ⟨rfl, b9⟩; have X9 := Lib.hid (X8.out.below b9); clear b9 e2 z0 z1)
                go_roundw
                case rel => exact ⟨k + 1, by omega, by go_num, by rw [HX2.out], X9⟩
                case measure => simp [intOf]; omega
          · have hkk : k = V.length := by omega
            subst hkk
            rw [met_all hqa hqb]
            have X2 := X8
            clear X8 hlt hk
            generalize wr = W3 at *
            go_wp2
            clear e2
            have f0 : W3.cell? ⟨bx, 0, none⟩ = some (.int .u8 g) := (cell_of_row _ _ 0 _ _ _ X2.out.rx).trans rfl
            have f1 : W3.cell? ⟨bx, 1, none⟩ = some (.int .u32 N) := (cell_of_row _ _ 1 _ _ _ X2.out.rx).trans rfl
            have f2 : W3.cell? ⟨bx, 2, none⟩ = some (.slice A1 V.length c1) := (cell_of_row _ _ 2 _ _ _ X2.out.rx).trans rfl
            have lbx : bx < W3.heap.size := X2.out.lt
            have nb3 : ¬ W3.heap.size = bx := by omega
            have nc3 : ¬ bx = W3.heap.size := by omega
            refine wp_cutV (AtM w w.heap.size bx #[.int .u8 g, .int .u32 N, .slice A V.length c] g N V drop add A1 c1) ?_ ?_
            · go_region_held3 (fun W => W.cell? ⟨bx, 0, none⟩ = some (.int .u8 g) ∧ W.cell? ⟨bx, 1, none⟩ = some (.int .u32 N) ∧ W.cell? ⟨bx, 2, none⟩ = some (.slice A1 V.length c1)) ((first | (exact Y6.out.cells3) | (exact Y5.out.cells3) | (exact Y4.out.cells3) | (simp; done) | (go_simp; done) | go_keep)) (first
                  | (have Y5x := Y5.out; go_at_call 8; refine (nextO g N A1 E1 E2 V drop add c1 m1 m2 _ (rows_own ((Y5x.below (show Below w5.heap.size w5 _ from (by repeat (first | (with_reducible exact Below.refl _ _) | (with_reducible refine Below.drew ?_) | (with_reducible refine Below.alloc ?_ (by first | omega | (simp; done) | (simp; omega)) _))))).own)).1 (rows_own (own_kept P4.out (show Below w5.heap.size w5 _ from (by repeat (first | (with_reducible exact Below.refl _ _) | (with_reducible refine Below.drew ?_) | (with_reducible refine Below.alloc ?_ (by first | omega | (simp; done) | (simp; omega)) _)))))).1 (rows_own (own_kept P5.out (show Below w5.heap.size w5 _ from (by repeat (first | (with_reducible exact Below.refl _ _) | (with_reducible refine Below.drew ?_) | (with_reducible refine Below.alloc ?_ (by first | omega | (simp; done) | (simp; omega)) _)))))).1 LC.out.1 LC.out.2 le1.out.1 le1.out.2 le2.out.1 le2.out.2 hV40 hB40 hA40 HG.out HN.out RVh.out RDh.out RAh.out).mono ?_
                     rintro e6 w6 ⟨v6, rfl, O6, b6⟩
                     obtain ⟨A2, c2, rfl, -, -, -⟩ := rowsV_of_own O6
                     have Y6 := Lib.hid ((Y5x.below (show Below w5.heap.size w5 _ from (by repeat (first | (with_reducible exact Below.refl _ _) | (with_reducible refine Below.drew ?_) | (with_reducible refine Below.alloc ?_ (by first | omega | (simp; done) | (simp; omega)) _))))).below b6)
                     have B6 := Lib.hid (B5.out.trans (((show Below w5.heap.size w5 _ from (by repeat (first | (with_reducible exact Below.refl _ _) | (with_reducible refine Below.drew ?_) | (with_reducible refine Below.alloc ?_ (by first | omega | (simp; done) | (simp; omega)) _)))).mono B5.out.size).trans (b6.mono (Nat.le_trans B5.out.size (show Below w5.heap.size w5 _ from (by repeat (first | (with_reducible exact Below.refl _ _) | (with_reducible refine Below.drew ?_) | (with_reducible refine Below.alloc ?_ (by first | omega | (simp; done) | (simp; omega)) _)))).size))))
                     have Q6 := Lib.hid O6
                     (first | (have zr := (b6.block _ (by first | exact (Array.getElem?_eq_some_iff.1 zr).1 | (simp; done))).trans zr) | (have zr : w6.heap[w5.heap.size]? = some (.cells #[.int .u8 0, .int .u32 0, .slice none 0 0] 30 (0, 0)) := (b6.block _ (by simp)).trans (heap_alloc_new w5 (.cells #[.int .u8 0, .int .u32 0, .slice none 0 0] 30))) | skip)
                     (try (have q0 := (cell_of_row _ _ 0 _ _ _ zr).trans (show (#[.int .u8 0, .int .u32 0, .slice none 0 0] : Array Value)[0]? = some (.int .u8 0) from rfl); have q1 := (cell_of_row _ _ 1 _ _ _ zr).trans (show (#[.int .u8 0, .int .u32 0, .slice none 0 0] : Array Value)[1]? = some (.int .u32 0) from rfl); have q2 := (cell_of_row _ _ 2 _ _ _ zr).trans (show (#[.int .u8 0, .int .u32 0, .slice none 0 0] : Array Value)[2]? = some (.slice none 0 0) from rfl); have p0 := frz_row 0 zr; have p1 := frz_row 1 zr; have p2 := frz_row 2 zr))
                     obtain ⟨s0, s1, s2⟩ := Y6.out.cells3
                     clear Y5x b6 O6)
                  | (have Y4x := Y4.out; go_at_call 9; refine (procs D add e _ (HD.out _ ((Y4x.below (show Below w4.heap.size w4 _ from (by repeat (first | (with_reducible exact Below.refl _ _) | (with_reducible refine Below.drew ?_) | (with_reducible refine Below.alloc ?_ (by first | omega | (simp; done) | (simp; omega)) _))))).bel)) h4A he ho).mono ?_
                     rintro e5 w5 ⟨v5, rfl, O5, b5⟩
                     obtain ⟨E2, m2, rfl, -, le2a, le2b⟩ := rowsV_of_own O5
                     have le2 := Lib.hid (And.intro le2a le2b)
                     have Y5 := Lib.hid ((Y4x.below (show Below w4.heap.size w4 _ from (by repeat (first | (with_reducible exact Below.refl _ _) | (with_reducible refine Below.drew ?_) | (with_reducible refine Below.alloc ?_ (by first | omega | (simp; done) | (simp; omega)) _))))).below b5)
                     have B5 := Lib.hid (B4.out.trans (((show Below w4.heap.size w4 _ from (by repeat (first | (with_reducible exact Below.refl _ _) | (with_reducible refine Below.drew ?_) | (with_reducible refine Below.alloc ?_ (by first | omega | (simp; done) | (simp; omega)) _)))).mono B4.out.size).trans (b5.mono (Nat.le_trans B4.out.size (show Below w4.heap.size w4 _ from (by repeat (first | (with_reducible exact Below.refl _ _) | (with_reducible refine Below.drew ?_) | (with_reducible refine Below.alloc ?_ (by first | omega | (simp; done) | (simp; omega)) _)))).size))))
                     have P5 := Lib.hid O5
                     have P4 := Lib.hid (own_kept (own_kept P4.out (show Below w4.heap.size w4 _ from (by repeat (first | (with_reducible exact Below.refl _ _) | (with_reducible refine Below.drew ?_) | (with_reducible refine Below.alloc ?_ (by first | omega | (simp; done) | (simp; omega)) _))))) b5)
                     (first | (have zr := (b5.block _ (by first | exact (Array.getElem?_eq_some_iff.1 zr).1 | (simp; done))).trans zr) | (have zr : w5.heap[w4.heap.size]? = some (.cells #[.int .u8 0, .int .u32 0, .slice none 0 0] 30 (0, 0)) := (b5.block _ (by simp)).trans (heap_alloc_new w4 (.cells #[.int .u8 0, .int .u32 0, .slice none 0 0] 30))) | skip)
                     have nb5 : ¬ w5.heap.size = bx := by have := Y5.out.lt; omega
                     have nc5 : ¬ bx = w5.heap.size := by omega
                     (try have lz5 := (Array.getElem?_eq_some_iff.1 zr).1)
                     clear Y4x b5 O5 le2a le2b)
                  | (go_at_call 9; refine (procs B drop d _ (HB.out _ ((X2.out.below (show Below W3.heap.size W3 _ from (by repeat (first | (with_reducible exact Below.refl _ _) | (with_reducible refine Below.drew ?_) | (with_reducible refine Below.alloc ?_ (by first | omega | (simp; done) | (simp; omega)) _))))).bel)) h4B hd hn).mono ?_
                     rintro e4 w4 ⟨v4, rfl, O4, b4⟩
                     obtain ⟨E1, m1, rfl, -, le1a, le1b⟩ := rowsV_of_own O4
                     have le1 := Lib.hid (And.intro le1a le1b)
                     have Y4 := Lib.hid ((X2.out.below (show Below W3.heap.size W3 _ from (by repeat (first | (with_reducible exact Below.refl _ _) | (with_reducible refine Below.drew ?_) | (with_reducible refine Below.alloc ?_ (by first | omega | (simp; done) | (simp; omega)) _))))).below b4)
                     have B4 : Hid (Below W3.heap.size W3 w4) := Lib.hid ((show Below W3.heap.size W3 _ from (by repeat (first | (with_reducible exact Below.refl _ _) | (with_reducible refine Below.drew ?_) | (with_reducible refine Below.alloc ?_ (by first | omega | (simp; done) | (simp; omega)) _)))).trans (b4.mono (show Below W3.heap.size W3 _ from (by repeat (first | (with_reducible exact Below.refl _ _) | (with_reducible refine Below.drew ?_) | (with_reducible refine Below.alloc ?_ (by first | omega | (simp; done) | (simp; omega)) _)))).size))
                     have P4 := Lib.hid O4
                     (first | (have zr : w4.heap[W3.heap.size]? = some (.cells #[.int .u8 0, .int .u32 0, .slice none 0 0] 30 (0, 0)) := (b4.block _ (by simp)).trans (heap_alloc_new W3.drew (.cells #[.int .u8 0, .int .u32 0, .slice none 0 0] 30))) | skip)
                     have nb4 : ¬ w4.heap.size = bx := by have := Y4.out.lt; omega
                     have nc4 : ¬ bx = w4.heap.size := by omega
                     clear b4 O4 le1a le1b))
              all_goals
                have l6w : w.heap.size ≤ w5.heap.size := Y5.out.bel.size
                first
                  | (with_reducible refine AtM_new ?_ ?_ ?_
                     · first | (simp only [Act.put, List.setIfInBounds_toArray, List.set_cons_zero, List.set_cons_succ]; done) | (simp only [Act.put, List.setIfInBounds_toArray, List.set_cons_zero, List.set_cons_succ]; exact ⟨_, _, _, _, _, _, _, _, _, rfl⟩)
                     · exact Y6.out
                     · exact ⟨_, (by first | exact l6w | (simp; omega)), Q6.out⟩)
                  | (with_reducible refine AtM_set ?_ ?_ ?_ ?_
                     · first | (simp only [Act.put, List.setIfInBounds_toArray, List.set_cons_zero, List.set_cons_succ]; done) | (simp only [Act.put, List.setIfInBounds_toArray, List.set_cons_zero, List.set_cons_succ]; exact ⟨_, _, _, _, _, _, _, _, _, rfl⟩)
                     · exact ⟨W3, X2.out, B6.out, (by first | exact Nat.le_refl _ | exact B4.out.size | exact B5.out.size)⟩
                     · exact zr
                     · exact ⟨_, (by first | exact lz5 | (simp; done)), (by first | exact l6w | (simp; omega)), Q6.out⟩)
            · rintro a W ⟨u75, u76, u77, u78, u79, u80, u81, u82, u83, bk, A2, c2, rfl, X6, R6, O6⟩
              simp only [Act.put, List.setIfInBounds_toArray, List.set_cons_zero, List.set_cons_succ]
              have hML : Hid ((nxV g N V drop add).length ≤ 80) := Lib.hid (nxV_len g N V drop add hV40 hA40)
              have lbk : Hid (bk < W.heap.size) := Lib.hid (Array.getElem?_eq_some_iff.1 R6.out).1
              clear f0 f1 f2 lbx nb3 nc3 X2
              by_cases hz : nxC g N V drop add = 0
              rotate_left
              · have hv0 : nxV g N V drop add = [] := if_neg hz
                rw [hv0] at R6
                have m2 : W.cell? ⟨bk, 2, none⟩ = some (.slice A2 0 c2) := (cell_of_row _ _ 2 _ _ _ R6.out).trans rfl
                clear hv0 O6 R6 hML
                generalize nxC g N V drop add = C' at *
                go_wp2_with (go_at_call 13; refine (numV C' W).mono ?_; rintro e7 w7 ⟨rfl, rfl⟩)
                go_ret
                exact ⟨rfl, X6.out.bel⟩
              · obtain ⟨-, hNm, hcn, h8, hvM⟩ := nx_good hz
                have ev : nxV g N V drop add = nxM V drop add := if_pos hz
                have en : nxN g N V drop add = N + 1 := if_pos hz
                have eg : nxG g N V drop add = g := if_pos hz
                have RMh := Lib.hid (nxM_rng (drop := drop) RVh.out RAh.out)
                rw [ev, en, eg] at R6
                rw [ev] at O6
                rw [hz]
                clear ev en eg hz hML
                have HM := Lib.hid hvM
                have HC := Lib.hid hcn
                generalize nxM V drop add = M at *
                have hNw : IntKind.u32.wrap (N + 1) = N + 1 := by have := HN.out; exact IntWalk.u32_in _ (by omega)
                have hN1 : 0 ≤ N + 1 ∧ N + 1 ≤ 4294967295 := by have := HN.out; omega
                have HN1 := Lib.hid hN1
                clear hvM hcn hN1
                go_wp2_with (go_at_call 13; refine (numV 0 W).mono ?_; rintro e7 w7 ⟨rfl, hw7⟩; subst hw7)
                go_loopw [12, 13] (fun n i wx => ∃ k : Nat, k ≤ V.length ∧ i = .int .i64 k ∧ n = .int .i64 (cnt V M k) ∧ Hid (LX w wx w.heap.size bx #[.int .u8 g, .int .u32 N, .slice A V.length c] g N V A1 c1) ∧ Hid (wx.heap[bk]? = some (.cells #[.int .u8 g, .int .u32 (N + 1), .slice A2 M.length c2] 30 (0, 0))) ∧ Hid (wx.ownsRow w.heap.size 48 2 (.slice A2 M.length c2) M.length (cellsV M))) (fun _ i _ => V.length - (intOf i).toNat)
                case atStart => exact ⟨0, by omega, rfl, rfl, X6, R6, O6⟩
                case round =>
                  clear X6 R6 O6 lbk
                  obtain ⟨k, hk, rfl, rfl, X8, R8, O8⟩ := hrel
                  have g2 : wr.cell? ⟨bx, 2, none⟩ = some (.slice A1 V.length c1) := X8.out.cells3.2.2
                  have y0 : wr.cell? ⟨bk, 0, none⟩ = some (.int .u8 g) := (cell_of_row _ _ 0 _ _ _ R8.out).trans rfl
                  have y1 : wr.cell? ⟨bk, 1, none⟩ = some (.int .u32 (N + 1)) := (cell_of_row _ _ 1 _ _ _ R8.out).trans rfl
                  have y2 : wr.cell? ⟨bk, 2, none⟩ = some (.slice A2 M.length c2) := (cell_of_row _ _ 2 _ _ _ R8.out).trans rfl
                  have hcl := cnt_le V M k
                  have hcm : c1 ≤ maxLen := LC.out.2
                  have hvc : V.length ≤ c1 := LC.out.1
                  unfold maxLen at hcm
                  by_cases hlt : k < V.length
                  · obtain ⟨b, o, e9, hb, C9⟩ := (rows_own X8.out.own).1.at_ hlt
                    obtain ⟨z0, z1⟩ := C9.below (Below.refl _ _) hb
                    subst e9
                    have HZ : Hid (∀ W, Below wr.heap.size wr W → W.cell? ⟨bk, 0, none⟩ = some (.int .u8 g) ∧ W.cell? ⟨bk, 1, none⟩ = some (.int .u32 (N + 1)) ∧ W.cell? ⟨bk, 2, none⟩ = some (.slice A2 M.length c2) ∧ W.cell? ⟨bx, 2, none⟩ = some (.slice (some ⟨b, o, none⟩) V.length c1) ∧ W.cell? ⟨b, o + k * 2, none⟩ = some (.int .u8 V[k].n) ∧ W.cell? ⟨b, o + k * 2 + 1, none⟩ = some (.int .u16 V[k].l)) := Lib.hid (fun W bW => by
                      obtain ⟨t0, t1⟩ := C9.below bW hb
                      have lbk : bk < wr.heap.size := (Array.getElem?_eq_some_iff.1 R8.out).1
                      have R9 := (bW.block _ lbk).trans R8.out
                      exact ⟨(cell_of_row _ _ 0 _ _ _ R9).trans rfl, (cell_of_row _ _ 1 _ _ _ R9).trans rfl, (cell_of_row _ _ 2 _ _ _ R9).trans rfl, (X8.out.below bW).cells3.2.2, t0, t1⟩)
                    have hx : V[k]? = some V[k] := List.getElem?_eq_getElem hlt
                    have rp : Hid (V[k].Rng) := Lib.hid (RVh.out _ (List.getElem_mem hlt))
                    have HX := Lib.hid hx
                    generalize V[k] = x at *
                    clear C9 hx
                    have hji : (k : Int) < (V.length : Int) := by omega
                    have hj0 : (0 : Int) ≤ (k : Int) := by omega
                    have hci : (V.length : Int) ≤ (c1 : Int) := by omega
                    have hs1 : IntKind.i64.wrap ((cnt V M k : Int) + 1) = (cnt V M k : Int) + 1 := IntWalk.i64_in _ (by omega)
                    have hmem := rk_mem M x
                    have HI : Hid ((x ∈ M → cnt V M (k + 1) = cnt V M k + 1) ∧ (x ∉ M → cnt V M (k + 1) = cnt V M k)) := Lib.hid ⟨cnt_in HX.out, cnt_out HX.out⟩
                    have KR : Hid (∀ W, Below wr.heap.size wr W → Calls Tryd.prog 17 #[.agg #[.int .u8 g, .int .u32 (N + 1), .slice A2 M.length c2], .agg #[.int .u8 x.n, .int .u16 x.l]] W fun e w' => e = .returned (.int .i64 (rk M x)) ∧ Below W.heap.size W w') := Lib.hid (fun W bW => by
                      have h := rows_own (own_kept O8.out bW)
                      exact rankO g (N + 1) A2 M c2 x W h.1 h.2.1 h.2.2 (by omega) RMh.out rp.out)
                    generalize hrk : rk M x = z at *
                    clear y0 y1 y2 z0 z1
                    by_cases hi : x ∈ M
                    · have h0 : 0 ≤ z := hmem.2 hi
                      have HN2 := Lib.hid (HI.out.1 hi)
                      clear hmem hi hrk
                      go_wp2
                      go_region_held3 (fun W => W.cell? ⟨bk, 0, none⟩ = some (.int .u8 g) ∧ W.cell? ⟨bk, 1, none⟩ = some (.int .u32 (N + 1)) ∧ W.cell? ⟨bk, 2, none⟩ = some (.slice A2 M.length c2) ∧ W.cell? ⟨bx, 2, none⟩ = some (.slice (some ⟨b, o, none⟩) V.length c1) ∧ W.cell? ⟨b, o + k * 2, none⟩ = some (.int .u8 x.n) ∧ W.cell? ⟨b, o + k * 2 + 1, none⟩ = some (.int .u16 x.l)) ((first | (exact HZ.out _ B9.out) | (exact HZ.out _ (Below.refl _ _)) | (exact HZ.out _ (Below.refl _ _).drew) | (simp; done) | (go_simp; done) | go_keep)) ((go_at_call 17; refine (KR.out _ (Below.refl _ _).drew).mono ?_; rintro e9 w9 ⟨rfl, b9⟩; have B9 : Hid (Below wr.heap.size wr w9) := Lib.hid ((Below.refl _ _).drew.trans b9); obtain ⟨s0, s1, s2, s3, s4, s5⟩ := HZ.out _ B9.out; clear b9))
                      have X9 := Lib.hid (X8.out.below B9.out)
                      have R9 := Lib.hid ((B9.out.block _ (Array.getElem?_eq_some_iff.1 R8.out).1).trans R8.out)
                      have O9 := Lib.hid (own_kept O8.out B9.out)
                      go_wp2
                      go_roundw
                      case rel => exact ⟨k + 1, by omega, by go_num, by rw [HN2.out]; go_num, X9, R9, O9⟩
                      case measure => simp [intOf]; omega
                    · have h0 : z < 0 := by
                        rcases Int.lt_or_le z 0 with h2 | h2
                        · exact h2
                        · exact absurd (hmem.1 h2) hi
                      have HN2 := Lib.hid (HI.out.2 hi)
                      clear hmem hi hrk
                      go_wp2
                      go_region_held3 (fun W => W.cell? ⟨bk, 0, none⟩ = some (.int .u8 g) ∧ W.cell? ⟨bk, 1, none⟩ = some (.int .u32 (N + 1)) ∧ W.cell? ⟨bk, 2, none⟩ = some (.slice A2 M.length c2) ∧ W.cell? ⟨bx, 2, none⟩ = some (.slice (some ⟨b, o, none⟩) V.length c1) ∧ W.cell? ⟨b, o + k * 2, none⟩ = some (.int .u8 x.n) ∧ W.cell? ⟨b, o + k * 2 + 1, none⟩ = some (.int .u16 x.l)) ((first | (exact HZ.out _ B9.out) | (exact HZ.out _ (Below.refl _ _)) | (exact HZ.out _ (Below.refl _ _).drew) | (simp; done) | (go_simp; done) | go_keep)) ((go_at_call 17; refine (KR.out _ (Below.refl _ _).drew).mono ?_; rintro e9 w9 ⟨rfl, b9⟩; have B9 : Hid (Below wr.heap.size wr w9) := Lib.hid ((Below.refl _ _).drew.trans b9); obtain ⟨s0, s1, s2, s3, s4, s5⟩ := HZ.out _ B9.out; clear b9))
                      have X9 := Lib.hid (X8.out.below B9.out)
                      have R9 := Lib.hid ((B9.out.block _ (Array.getElem?_eq_some_iff.1 R8.out).1).trans R8.out)
                      have O9 := Lib.hid (own_kept O8.out B9.out)
                      go_wp2
                      go_roundw
                      case rel => exact ⟨k + 1, by omega, by go_num, by rw [HN2.out], X9, R9, O9⟩
                      case measure => simp [intOf]; omega
                  · have hkk : k = V.length := by omega
                    subst hkk
                    have g1 : wr.cell? ⟨bx, 1, none⟩ = some (.int .u32 N) := X8.out.cells3.2.1
                    have h2 := HC.out
                    have lbk : bk < wr.heap.size := (Array.getElem?_eq_some_iff.1 R8.out).1
                    generalize cnt V M V.length = z at *
                    have hw2 : IntKind.i64.wrap (2 * (z : Int)) = 2 * (z : Int) := IntWalk.i64_in _ (by omega)
                    have h3 : (V.length : Int) < 2 * (z : Int) := by omega
                    go_wp2_with (have X8x := X8.out; go_at_call 14; refine (rightO g (N + 1) A2 M c2 _ (rows_own O8.out).1 (rows_own O8.out).2.1 (rows_own O8.out).2.2 HG.out HN1.out RMh.out).mono ?_; rw [HM.out]; rintro e9 w9 ⟨rfl, b9⟩; have X9 := Lib.hid (X8x.below b9); have R9 := (b9.block _ lbk).trans R8.out; have y1 : w9.cell? ⟨bk, 1, none⟩ = some (.int .u32 (N + 1)) := (cell_of_row _ _ 1 _ _ _ R9).trans rfl; have g1 : w9.cell? ⟨bx, 1, none⟩ = some (.int .u32 N) := X9.out.cells3.2.1; clear b9 R9 X8x)
                    go_ret
                    exact ⟨rfl, X9.out.bel⟩
end Go.Proofs.YtgmjhloednmfnaaDoor
