/-
  The document's Set: Remove, by a contract. Condition: its list is a row that its own calls made.
-/
import Derived.Test.YtehkofeokccdeaaIapp
import Derived.Test.YtehkofeokccdeaaIund
import Derived.Deep.RegionLaw
import Derived.IntWalk
namespace Go.Proofs.Ytehkofeokccdeaa
set_option linter.unusedSimpArgs false
set_option linter.unusedVariables false
open Go.RowKit

theorem below_thenI {w w2 W : World} (B2 : Below w.heap.size w w2) (h : Below w2.heap.size w2 W) : Below w.heap.size w W := B2.trans (h.mono B2.size)
theorem own_eI (W : World) (n base : Nat) (hn : W.heap.size = n) (hb : base ≤ n) : (W.alloc (.cells #[] 38)).ownsRow base 38 10 (.slice (some ⟨n, 0, none⟩) 0 0) 0 [] := by
  subst hn
  exact World.ownsRow_lit W #[] 0 hb (by unfold maxLen; omega) rfl
theorem fnd_lt {X : List I10} {x : I10} (h : isAt X x = true) : fnd X x < X.length := by
  unfold isAt at h
  split at h
  · rename_i y hy
    exact (List.getElem?_eq_some_iff.1 hy).1
  · cases h
theorem rowsI_take {W : World} {B : Nat} {A : Option Addr} {X : List I10} (h : RowsI W B A X) (k : Nat) : RowsI W B A (X.take k) := fun hne => by
  obtain ⟨b, o, e, hb, hc⟩ := h (fun e => hne (by rw [e]; simp))
  refine ⟨b, o, e, hb, fun i x hi => hc i x ?_⟩
  rw [List.getElem?_take] at hi
  split at hi
  · exact hi
  · cases hi
theorem rowsI_drop {W : World} {B b o : Nat} {X : List I10} (h : RowsI W B (some ⟨b, o, none⟩) X) (k : Nat) : RowsI W B (some ⟨b, o + k * 10, none⟩) (X.drop k) := fun hne => by
  obtain ⟨b', o', e, hb, hc⟩ := h (fun e => hne (by rw [e]; simp))
  cases e
  refine ⟨b, o + k * 10, rfl, hb, fun i x hi => ?_⟩
  rw [List.getElem?_drop] at hi
  have := hc (k + i) x hi
  rwa [show o + (k + i) * 10 = o + k * 10 + i * 10 by omega] at this
theorem rowsI_empty {W : World} {B : Nat} {A : Option Addr} {X : List I10} (h : X.length = 0) : RowsI W B A X := fun hne => absurd (List.eq_nil_of_length_eq_zero h) hne

theorem slice_len {W : World} {base s N n n' : Nat} {e : TypeId} {A : Option Addr} {c : Nat} {xs : List Value} (h : W.ownsRow base e s (.slice A n c) N xs) (hn : n' = n) : W.ownsRow base e s (.slice A n' c) N xs := by
  subst hn
  exact h
theorem own_remI {W : World} {base : Nat} {v : Value} {X Y : List I10} {n : Nat} (hn : n = 0) (h : W.ownsRow base 38 10 v (n + X.length + Y.length) (([] ++ cellsI X) ++ cellsI Y)) : W.ownsRow base 38 10 v (X ++ Y).length (cellsI (X ++ Y)) := by
  subst hn
  have e1 : (X ++ Y).length = 0 + X.length + Y.length := by simp
  have e2 : cellsI (X ++ Y) = ([] ++ cellsI X) ++ cellsI Y := by simp [cellsI]
  rw [e1, e2]
  exact h

set_option maxRecDepth 100000 in
set_option maxHeartbeats 4000000 in
theorem refRemNo (X : List I10) (x : I10) (rb base : Nat) (v : Value) (w : World) (h0 : w.cell? ⟨rb, 0, none⟩ = some v) (O : w.ownsRow base 38 10 v X.length (cellsI X)) (rX : ∀ y ∈ X, y.Rng) (rx : x.Rng) (hat : isAt X x = false) :
    Calls Try.prog 11 #[.pointer (some ⟨rb, 0, none⟩), .agg #[.int .u8 x.n, .int .u16 x.l, .int .u32 x.s, .int .u8 x.d, .int .u8 x.a0, .int .u8 x.a1, .int .u8 x.b0, .int .u8 x.b1, .int .u8 x.c0, .int .u8 x.c1]] w fun e w' => e = .returned (.bool false) ∧ Below w.heap.size w w' := by
  have hl := World.block_lt_of_cell? w _ h0
  have bx : Below w.heap.size w (w.alloc (.cells #[.int .u8 x.n, .int .u16 x.l, .int .u32 x.s, .int .u8 x.d, .int .u8 x.a0, .int .u8 x.a1, .int .u8 x.b0, .int .u8 x.b1, .int .u8 x.c0, .int .u8 x.c1] 38)) := (Below.refl _ _).alloc (Nat.le_refl _) _
  have FO := findOwn X x rb base v (w.alloc (.cells #[.int .u8 x.n, .int .u16 x.l, .int .u32 x.s, .int .u8 x.d, .int .u8 x.a0, .int .u8 x.a1, .int .u8 x.b0, .int .u8 x.b1, .int .u8 x.c0, .int .u8 x.c1] 38)) ((bx.cell (p := ⟨rb, 0, none⟩) hl).trans h0) (O.alloc _) rX rx
  rw [hat] at FO
  have HF := Lib.hid FO
  have HB := Lib.hid bx
  clear FO bx h0 O rX
  go_enter Try.func11, Try.ntmps11
  go_wp2_with fail
  refine HF.out.mono ?_
  rintro e w2 ⟨rfl, b2⟩
  go_wp2
  go_ret
  exact ⟨rfl, HB.out.trans (b2.mono (by simp))⟩

set_option maxRecDepth 100000 in
set_option maxHeartbeats 4000000 in
theorem refRemYes (X : List I10) (x : I10) (rb base : Nat) (v : Value) (w : World) (h0 : w.cell? ⟨rb, 0, none⟩ = some v) (hf : w.frozen? ⟨rb, 0, none⟩ = false) (O : w.ownsRow base 38 10 v X.length (cellsI X)) (rX : ∀ y ∈ X, y.Rng) (rx : x.Rng) (hat : isAt X x = true) (hX : X.length * 16 ≤ 140737488355328) :
    Calls Try.prog 11 #[.pointer (some ⟨rb, 0, none⟩), .agg #[.int .u8 x.n, .int .u16 x.l, .int .u32 x.s, .int .u8 x.d, .int .u8 x.a0, .int .u8 x.a1, .int .u8 x.b0, .int .u8 x.b1, .int .u8 x.c0, .int .u8 x.c1]] w fun e w' => e = .returned (.bool true) ∧ ∃ v' W', w' = W'.setCell ⟨rb, 0, none⟩ v' ∧ Below w.heap.size w W' ∧ W'.ownsRow w.heap.size 38 10 v' (X.take (fnd X x) ++ X.drop (fnd X x + 1)).length (cellsI (X.take (fnd X x) ++ X.drop (fnd X x + 1))) := by
  have hl := World.block_lt_of_cell? w _ h0
  have hk := fnd_lt hat
  have bx : Below w.heap.size w (w.alloc (.cells #[.int .u8 x.n, .int .u16 x.l, .int .u32 x.s, .int .u8 x.d, .int .u8 x.a0, .int .u8 x.a1, .int .u8 x.b0, .int .u8 x.b1, .int .u8 x.c0, .int .u8 x.c1] 38)) := (Below.refl _ _).alloc (Nat.le_refl _) _
  have FO := findOwn X x rb base v (w.alloc (.cells #[.int .u8 x.n, .int .u16 x.l, .int .u32 x.s, .int .u8 x.d, .int .u8 x.a0, .int .u8 x.a1, .int .u8 x.b0, .int .u8 x.b1, .int .u8 x.c0, .int .u8 x.c1] 38)) ((bx.cell (p := ⟨rb, 0, none⟩) hl).trans h0) (O.alloc _) rX rx
  rw [hat] at FO
  generalize fnd X x = k at *
  obtain ⟨A, cap, rfl, R, hc, hm⟩ := rowsI_of_own O
  have hXne : X ≠ [] := by rintro rfl; simp at hk
  obtain ⟨g, o, rfl, hgl, _⟩ := R hXne
  have HF := Lib.hid FO
  have HB := Lib.hid bx
  have HR := Lib.hid R
  have HH0 := Lib.hid h0
  have HHf := Lib.hid hf
  clear FO bx h0 O rX R hf hat
  unfold maxLen at hm
  have hci : (X.length : Int) ≤ (cap : Int) := by omega
  have hki : (k : Int) < (X.length : Int) := by omega
  have hk0 : (0 : Int) ≤ (k : Int) := by omega
  have hkc : (k : Int) ≤ (cap : Int) := by omega
  have hk1 : (k : Int) + 1 ≤ (X.length : Int) := by omega
  have hk1c : (k : Int) + 1 ≤ (cap : Int) := by omega
  by_cases hcap : cap = k + 1
  · subst hcap
    have hXk : Hid (X.length = k + 1) := Lib.hid (by omega)
    have hkk : (k : Int) ≤ (k : Int) + 1 := by omega
    have hXki : (X.length : Int) ≤ (k : Int) + 1 := by omega
    go_enter Try.func11, Try.ntmps11
    go_wp2_with fail
    refine HF.out.mono ?_
    rintro e w2 ⟨rfl, b2⟩
    have B2 := Lib.hid (HB.out.trans (b2.mono (by simp)))
    clear b2 HF HB
    have hbs := B2.out.size
    have hl2 : rb < w2.heap.size := Nat.lt_of_lt_of_le hl hbs
    have s0 := (B2.out.cell (p := ⟨rb, 0, none⟩) hl).trans HH0.out
    have s1 := (B2.out.frozen (p := ⟨rb, 0, none⟩) hl).trans HHf.out
    have S0 := Lib.hid s0
    have S1 := Lib.hid s1
    have hRX := Lib.hid (fun W (hb : Below w2.heap.size w2 W) => (HR.out.below (B' := w.heap.size) (below_thenI B2.out hb) (Nat.le_refl _) (Nat.le_refl _)))
    go_wp2_with fail
    have hw2 : (0 : Int) ≤ (k : Int) + 1 := by omega
    have hw1 : IntKind.i64.wrap ((k : Int) + 1) = (k : Int) + 1 := IntWalk.i64_in _ (by omega)
    have hw3 : ((k : Int) + 1).toNat = k + 1 := by omega
    go_region_law ((first
      | (refine stepAppI (by rfl) (.tmp 15) (.tmp 21) (by rfl) w2.heap.size _ 0 [] (by rfl) (by clear hw1 hw3; first | exact own_eI _ _ _ (by first | rfl | (simp; done) | (simp; omega)) (by first | omega | (simp; done) | (simp; omega)) | exact (own_eI _ _ _ (by first | rfl | (simp; done) | (simp; omega)) (by first | omega | (simp; done) | (simp; omega))).alloc _) ⟨g, o, none⟩ (X.take k) k _ w.heap.size (by rfl) (by clear hw1 hw3; simp; omega) (rowsI_take (hRX.out _ (by clear hw1 hw3; exact (show Below w2.heap.size w2 _ from (by repeat (first | (with_reducible exact Below.refl _ _) | (with_reducible exact Below.refl _ _) | (with_reducible refine Below.setCell ?_ (by first | omega | (simp; done) | (simp; omega)) _) | (with_reducible refine Below.drew ?_) | (with_reducible refine Below.alloc ?_ (by first | omega | (simp; done) | (simp; omega)) _)))))) k) (by clear hw1 hw3; simp; omega) (by clear hw1 hw3; first | omega | (simp; done) | (simp; omega)) ?_
         intro v3 w3 O3 g3
         have b23 : Below w2.heap.size w2 w3 := Below.grown (by clear hw1 hw3; exact (show Below w2.heap.size w2 _ from (by repeat (first | (with_reducible exact Below.refl _ _) | (with_reducible exact Below.refl _ _) | (with_reducible refine Below.setCell ?_ (by first | omega | (simp; done) | (simp; omega)) _) | (with_reducible refine Below.drew ?_) | (with_reducible refine Below.alloc ?_ (by first | omega | (simp; done) | (simp; omega)) _))))) g3 (by clear hw1 hw3; first | omega | (simp; done) | (simp; omega)) (by intro j hj; clear hw1 hw3; have e : some w2.heap.size = some j := hj; injection e with e; omega)
         have H23 := Lib.hid b23
         have s03 := (b23.cell (p := ⟨rb, 0, none⟩) hl2).trans S0.out
         have s13 := (b23.frozen (p := ⟨rb, 0, none⟩) hl2).trans S1.out
         clear b23 g3)
      | (refine stepAppI (by rfl) (.tmp 22) (.tmp 29) (by rfl) w2.heap.size _ (0 + (X.take k).length) _ (by rfl) O3 ⟨g, o, none⟩ (X.drop (k + 1)) _ _ w.heap.size (by rfl) (by first | (simp; done) | (clear hw1 hw3; have := hXk.out; simp; omega)) (rowsI_empty (by clear hw1 hw3; have := hXk.out; simp; omega)) (by clear hw1 hw3; simp; omega) H23.out.size ?_
         intro v5 w5 O5 g5
         have b25 : Below w2.heap.size w2 w5 := own_snocI H23.out O3 g5
         have H25 := Lib.hid b25
         have s05 := (b25.cell (p := ⟨rb, 0, none⟩) hl2).trans S0.out
         have s15 := (b25.frozen (p := ⟨rb, 0, none⟩) hl2).trans S1.out
         have O6 := own_remI rfl O5
         obtain ⟨A5, c5, rfl, _, _, _⟩ := rowsI_of_own O6
         clear b25 g5 O5 O3 s03 s13)))
    all_goals
      clear hw1 hw3
      have eL : (X.take k ++ X.drop (k + 1)).length = min k X.length + (X.length - (k + 1)) := by simp
      have EL := Lib.hid eL
      clear eL
      go_wp2
      go_ret
      refine ⟨rfl, _, w5, rfl, below_thenI B2.out H25.out, ?_⟩
      refine slice_len (own_lower O6 hbs) ?_
      first | (simp; done) | (simp; omega) | (have := hXk.out; simp; omega)
  · have hcapi : (k : Int) + 1 < (cap : Int) := by omega
    go_enter Try.func11, Try.ntmps11
    go_wp2_with fail
    refine HF.out.mono ?_
    rintro e w2 ⟨rfl, b2⟩
    have B2 := Lib.hid (HB.out.trans (b2.mono (by simp)))
    clear b2 HF HB
    have hbs := B2.out.size
    have hl2 : rb < w2.heap.size := Nat.lt_of_lt_of_le hl hbs
    have s0 := (B2.out.cell (p := ⟨rb, 0, none⟩) hl).trans HH0.out
    have s1 := (B2.out.frozen (p := ⟨rb, 0, none⟩) hl).trans HHf.out
    have S0 := Lib.hid s0
    have S1 := Lib.hid s1
    have hRX := Lib.hid (fun W (hb : Below w2.heap.size w2 W) => (HR.out.below (B' := w.heap.size) (below_thenI B2.out hb) (Nat.le_refl _) (Nat.le_refl _)))
    go_wp2_with fail
    have hw2 : (0 : Int) ≤ (k : Int) + 1 := by omega
    have hw1 : IntKind.i64.wrap ((k : Int) + 1) = (k : Int) + 1 := IntWalk.i64_in _ (by omega)
    have hw3 : ((k : Int) + 1).toNat = k + 1 := by omega
    go_region_law ((first
      | (refine stepAppI (by rfl) (.tmp 15) (.tmp 21) (by rfl) w2.heap.size _ 0 [] (by rfl) (by clear hw1 hw3; first | exact own_eI _ _ _ (by first | rfl | (simp; done) | (simp; omega)) (by first | omega | (simp; done) | (simp; omega)) | exact (own_eI _ _ _ (by first | rfl | (simp; done) | (simp; omega)) (by first | omega | (simp; done) | (simp; omega))).alloc _) ⟨g, o, none⟩ (X.take k) k _ w.heap.size (by rfl) (by clear hw1 hw3; simp; omega) (rowsI_take (hRX.out _ (by clear hw1 hw3; exact (show Below w2.heap.size w2 _ from (by repeat (first | (with_reducible exact Below.refl _ _) | (with_reducible exact Below.refl _ _) | (with_reducible refine Below.setCell ?_ (by first | omega | (simp; done) | (simp; omega)) _) | (with_reducible refine Below.drew ?_) | (with_reducible refine Below.alloc ?_ (by first | omega | (simp; done) | (simp; omega)) _)))))) k) (by clear hw1 hw3; simp; omega) (by clear hw1 hw3; first | omega | (simp; done) | (simp; omega)) ?_
         intro v3 w3 O3 g3
         have b23 : Below w2.heap.size w2 w3 := Below.grown (by clear hw1 hw3; exact (show Below w2.heap.size w2 _ from (by repeat (first | (with_reducible exact Below.refl _ _) | (with_reducible exact Below.refl _ _) | (with_reducible refine Below.setCell ?_ (by first | omega | (simp; done) | (simp; omega)) _) | (with_reducible refine Below.drew ?_) | (with_reducible refine Below.alloc ?_ (by first | omega | (simp; done) | (simp; omega)) _))))) g3 (by clear hw1 hw3; first | omega | (simp; done) | (simp; omega)) (by intro j hj; clear hw1 hw3; have e : some w2.heap.size = some j := hj; injection e with e; omega)
         have H23 := Lib.hid b23
         have s03 := (b23.cell (p := ⟨rb, 0, none⟩) hl2).trans S0.out
         have s13 := (b23.frozen (p := ⟨rb, 0, none⟩) hl2).trans S1.out
         clear b23 g3)
      | (refine stepAppI (by rfl) (.tmp 22) (.tmp 29) (by rfl) w2.heap.size _ (0 + (X.take k).length) _ (by rfl) O3 ⟨g, o + (k + 1) * 10, none⟩ (X.drop (k + 1)) _ _ w.heap.size (by rfl) (by first | (simp; done) | (clear hw1 hw3; have := hXk.out; simp; omega)) (rowsI_drop (hRX.out _ H23.out) (k + 1)) (by clear hw1 hw3; simp; omega) H23.out.size ?_
         intro v5 w5 O5 g5
         have b25 : Below w2.heap.size w2 w5 := own_snocI H23.out O3 g5
         have H25 := Lib.hid b25
         have s05 := (b25.cell (p := ⟨rb, 0, none⟩) hl2).trans S0.out
         have s15 := (b25.frozen (p := ⟨rb, 0, none⟩) hl2).trans S1.out
         have O6 := own_remI rfl O5
         obtain ⟨A5, c5, rfl, _, _, _⟩ := rowsI_of_own O6
         clear b25 g5 O5 O3 s03 s13)))
    all_goals
      clear hw1 hw3
      have eL : (X.take k ++ X.drop (k + 1)).length = min k X.length + (X.length - (k + 1)) := by simp
      have EL := Lib.hid eL
      clear eL
      go_wp2
      go_ret
      refine ⟨rfl, _, w5, rfl, below_thenI B2.out H25.out, ?_⟩
      refine slice_len (own_lower O6 hbs) ?_
      first | (simp; done) | (simp; omega) | (have := hXk.out; simp; omega)

end Go.Proofs.Ytehkofeokccdeaa
