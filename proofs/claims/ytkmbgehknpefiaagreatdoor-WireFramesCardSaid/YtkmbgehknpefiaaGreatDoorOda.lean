/-
  What the document's Reader holds; its Fail, B, End, Left: by exact answers. Condition: it lies in memory.
-/
import Derived.Test.YtkmbgehknpefiaaGreatDoorOrv
namespace Go.Proofs.YtkmbgehknpefiaaGreatDoor
set_option linter.unusedSimpArgs false
set_option linter.unusedVariables false
open Go.RowKit

/-- the document's Reader in block b: behind an error, what is left is not asked for. -/
structure DdAt (top b : Nat) (W : World) (s : RS) : Prop where
  lt : b < top
  fits : top ≤ W.heap.size
  all : ∃ A n c, W.heap[b]? = some (.cells #[.slice A n c, .int .i64 s.E] 108 (0, 0)) ∧ (s.E = 0 → n = s.L.length) ∧ n ≤ c ∧ c ≤ maxLen ∧
    (s.E = 0 → s.L ≠ [] → ∃ g o, A = some ⟨g, o, none⟩ ∧ g < top ∧ g ≠ b ∧ ∀ j x, s.L[j]? = some x → W.cell? ⟨g, o + j, none⟩ = some (.int .u8 x.toNat))
theorem DdAt.below {top b : Nat} {W W' : World} {s : RS} (h : DdAt top b W s) (hb : Below top W W') : DdAt top b W' s := by
  obtain ⟨h1, h2, A, n, c, h3, h4, h5, h7, h6⟩ := h
  refine ⟨h1, Nat.le_trans h2 hb.size, A, n, c, (hb.block b h1).trans h3, h4, h5, h7, fun h0 hx => ?_⟩
  obtain ⟨g, o, e, hg, hne, hc⟩ := h6 h0 hx
  exact ⟨g, o, e, hg, hne, fun j x hj => (hb.cell (p := ⟨g, o + j, none⟩) hg).trans (hc j x hj)⟩
theorem DdAt.up {top top' b : Nat} {W : World} {s : RS} (h : DdAt top b W s) (hle : top ≤ top') (ht : top' ≤ W.heap.size) : DdAt top' b W s := by
  obtain ⟨h1, h2, A, n, c, h3, h4, h5, h7, h6⟩ := h
  refine ⟨Nat.lt_of_lt_of_le h1 hle, ht, A, n, c, h3, h4, h5, h7, fun h0 hx => ?_⟩
  obtain ⟨g, o, e, hg, hne, hc⟩ := h6 h0 hx
  exact ⟨g, o, e, Nat.lt_of_lt_of_le hg hle, hne, hc⟩
theorem DdAt.keep {top b : Nat} {W W' : World} {s s' : RS} (h : DdAt top b W s) (hg : W.grownBy W' (some b)) {A : Option Addr} {n c : Nat} (h3 : W'.heap[b]? = some (.cells #[.slice A n c, .int .i64 s'.E] 108 (0, 0))) (h4 : s'.E = 0 → n = s'.L.length) (h7 : n ≤ c) (h5 : c ≤ maxLen)
    (h6 : s'.E = 0 → s'.L ≠ [] → ∃ g o, A = some ⟨g, o, none⟩ ∧ g < top ∧ g ≠ b ∧ ∀ j x, s'.L[j]? = some x → W.cell? ⟨g, o + j, none⟩ = some (.int .u8 x.toNat)) : DdAt top b W' s' := by
  refine ⟨h.lt, Nat.le_trans h.fits hg.size, A, n, c, h3, h4, h7, h5, fun h0 hx => ?_⟩
  obtain ⟨g, o, e, hgt, hne, hc⟩ := h6 h0 hx
  exact ⟨g, o, e, hgt, hne, fun j x hj => (World.cell?_of_block (a := ⟨g, o + j, none⟩) (hg.block g (Nat.lt_of_lt_of_le hgt h.fits) (by simpa using hne))).trans (hc j x hj)⟩

set_option maxRecDepth 100000 in
set_option maxHeartbeats 1000000 in
theorem dFail (top b e : Nat) (s : RS) (W : World) (h : DdAt top b W s) (he : e ≠ 0) :
    Calls Tryz.prog 112 #[.pointer (some ⟨b, 0, none⟩), .int .i64 e] W fun r W' => r = .returned (.tuple #[]) ∧ DdAt top b W' (s.fail e) ∧ W.grownBy W' (some b) := by
  have H := Lib.hid h
  obtain ⟨h1, h2, A, n, c, h3, h4, h5, h7, h6⟩ := h
  have R := Lib.hid h3
  have c1 : W.cell? ⟨b, 1, none⟩ = some (.int .i64 s.E) := (cell_of_row _ _ 1 _ _ _ h3).trans rfl
  have f1 := frz_row 1 h3
  clear h3 h6
  by_cases hs : s.E = 0
  · have hs' : (s.E : Int) = 0 := by omega
    have HF : Hid (s.fail e = ⟨[], e⟩) := Lib.hid (by unfold RS.fail; rw [if_pos ⟨hs, he⟩])
    go_enter Tryz.func112, Tryz.ntmps112
    go_wp2
    go_end0
    refine ⟨rfl, ?_, grownSet _ _ _ _⟩
    rw [HF.out]
    refine H.out.keep (grownSet _ _ _ _) (A := A) (n := n) (c := c) ?_ (fun h => absurd h he) h5 h7 (fun h => absurd h he)
    rw [heap_setCell_same _ _ _ _ _ _ R.out]
    rfl
  · have hs' : ¬ (s.E : Int) = 0 := by omega
    have HF : Hid (s.fail e = s) := Lib.hid (by unfold RS.fail; rw [if_neg (fun h => hs h.1)])
    go_enter Tryz.func112, Tryz.ntmps112
    go_wp2
    go_end0
    exact ⟨rfl, by rw [HF.out]; exact H.out, grownRefl _ _⟩

set_option maxRecDepth 100000 in
set_option maxHeartbeats 1000000 in
theorem dB (top b : Nat) (s : RS) (W : World) (h : DdAt top b W s) :
    Calls Tryz.prog 42 #[.pointer (some ⟨b, 0, none⟩)] W fun e W' => e = .returned (.int .u8 s.b.1) ∧ DdAt top b W' s.b.2 ∧ W.grownBy W' (some b) := by
  have KF := Lib.hid (dFail top b 6 s W h (by decide))
  have H := Lib.hid h
  obtain ⟨h1, h2, A, n, c, h3, h4, h5, h7, h6⟩ := h
  have R := Lib.hid h3
  have c0 : W.cell? ⟨b, 0, none⟩ = some (.slice A n c) := (cell_of_row _ _ 0 _ _ _ h3).trans rfl
  have c1 : W.cell? ⟨b, 1, none⟩ = some (.int .i64 s.E) := (cell_of_row _ _ 1 _ _ _ h3).trans rfl
  have f0 := frz_row 0 h3
  have H6 := Lib.hid h6
  clear h3 h6
  obtain ⟨L, E⟩ := s
  by_cases hs : E = 0
  · subst hs
    obtain rfl := h4 rfl
    have hs' : ((0 : Nat) : Int) = 0 := rfl
    cases L with
    | nil =>
      have HF : Hid (RS.fail 6 ⟨[], 0⟩ = (RS.b ⟨[], 0⟩).2) := Lib.hid rfl
      go_enter Tryz.func42, Tryz.ntmps42
      go_wp2_with fail
      refine KF.out.mono ?_
      rintro r w1 ⟨rfl, hd, hg⟩
      go_wp2
      go_ret
      exact ⟨rfl, hd, hg⟩
    | cons x L =>
      obtain ⟨g, o, rfl, hg, hne, hc⟩ := H6.out rfl (by simp)
      have hx : W.cell? ⟨g, o, none⟩ = some (.int .u8 x.toNat) := hc 0 x rfl
      have HC := Lib.hid hc
      have h5' : L.length + 1 ≤ c := h5
      have c0' : W.cell? ⟨b, 0, none⟩ = some (.slice (some ⟨g, o, none⟩) (L.length + 1) c) := c0
      have hl0 : ¬ ((L.length : Int) + 1 = 0) := by omega
      clear hc c0 h5 h4
      go_enter Tryz.func42, Tryz.ntmps42
      go_wp2
      · go_ret
        have hL : L = [] := List.eq_nil_of_length_eq_zero (by omega)
        refine ⟨rfl, H.out.keep (grownSet _ _ _ _) (A := some ⟨g, o, none⟩) (n := L.length) (c := 0) ?_ (fun _ => rfl) (by subst hL; exact Nat.le_refl _) (by unfold maxLen; omega) (fun _ hx => absurd hL hx), grownSet _ _ _ _⟩
        rw [heap_setCell_same _ _ _ _ _ _ R.out]
        rfl
      · go_ret
        refine ⟨rfl, H.out.keep (grownSet _ _ _ _) (A := some ⟨g, o + 1, none⟩) (n := L.length) (c := c - 1) ?_ (fun _ => rfl) (by show L.length ≤ c - 1; omega) (by omega) (fun _ _ => ⟨g, o + 1, rfl, hg, hne, fun j y hj => ?_⟩), grownSet _ _ _ _⟩
        · rw [heap_setCell_same _ _ _ _ _ _ R.out]
          rfl
        · have := HC.out (j + 1) y hj
          rw [show o + 1 + j = o + (j + 1) by omega]
          exact this
  · have hs' : ¬ (E : Int) = 0 := by omega
    have hb : RS.b ⟨L, E⟩ = (0, ⟨L, E⟩) := by unfold RS.b; rw [if_neg hs]
    have hf : RS.fail 6 ⟨L, E⟩ = ⟨L, E⟩ := by unfold RS.fail; rw [if_neg (fun h => hs h.1)]
    rw [hb]
    rw [hf] at KF
    go_enter Tryz.func42, Tryz.ntmps42
    go_wp2_with fail
    refine KF.out.mono ?_
    rintro r w1 ⟨rfl, hd, hg⟩
    go_wp2
    go_ret
    exact ⟨rfl, hd, hg⟩

set_option maxRecDepth 100000 in
set_option maxHeartbeats 1000000 in
theorem dEnd (top b : Nat) (s : RS) (W : World) (h : DdAt top b W s) :
    Calls Tryz.prog 45 #[.pointer (some ⟨b, 0, none⟩)] W fun e W' => e = .returned (.int .i64 s.fin) ∧ W' = W := by
  obtain ⟨h1, h2, A, n, c, h3, h4, h5, h7, h6⟩ := h
  have c0 : W.cell? ⟨b, 0, none⟩ = some (.slice A n c) := (cell_of_row _ _ 0 _ _ _ h3).trans rfl
  have c1 : W.cell? ⟨b, 1, none⟩ = some (.int .i64 s.E) := (cell_of_row _ _ 1 _ _ _ h3).trans rfl
  clear h3 h6
  unfold RS.fin
  by_cases hs : s.E = 0
  · rw [if_pos hs]
    have hs' : (s.E : Int) = 0 := by omega
    obtain rfl := h4 hs
    by_cases hl : s.L = []
    · rw [if_pos hl]
      have hl' : ¬ (0 : Int) < (s.L.length : Int) := by rw [hl]; simp
      go_enter Tryz.func45, Tryz.ntmps45
      go_wp2
      go_ret
      exact ⟨rfl, rfl⟩
    · rw [if_neg hl]
      have hl' : (0 : Int) < (s.L.length : Int) := by have := List.length_pos_iff.2 hl; omega
      go_enter Tryz.func45, Tryz.ntmps45
      go_wp2
      go_ret
      exact ⟨rfl, rfl⟩
  · rw [if_neg hs]
    have hs' : ¬ (s.E : Int) = 0 := by omega
    go_enter Tryz.func45, Tryz.ntmps45
    go_wp2
    go_ret
    exact ⟨rfl, rfl⟩

end Go.Proofs.YtkmbgehknpefiaaGreatDoor
