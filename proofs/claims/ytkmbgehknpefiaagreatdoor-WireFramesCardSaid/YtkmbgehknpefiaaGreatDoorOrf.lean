/-
  A Reader's Fail and End: by exact answers. Condition: it lies in memory.
-/
import Derived.Test.YtkmbgehknpefiaaGreatDoorOra
namespace Go.Proofs.YtkmbgehknpefiaaGreatDoor
set_option linter.unusedSimpArgs false
set_option linter.unusedVariables false
open Go.RowKit

theorem frz_row {W : World} {b : Nat} {cs : Array Value} {t : TypeId} (j : Nat) (h : W.heap[b]? = some (.cells cs t (0, 0))) : W.frozen? ⟨b, j, none⟩ = false := by simp [World.frozen?, h]
theorem grownSet (W : World) (b i : Nat) (v : Value) : W.grownBy (W.setCell ⟨b, i, none⟩ v) (some b) :=
  ⟨rfl, rfl, rfl, by simp, fun k _ hk => Below.heap_setCell _ _ _ k (fun e => hk (by rw [e]))⟩
theorem grownTrans {W W' W2 : World} {row : Option Nat} (h : W.grownBy W' row) (k : W'.grownBy W2 row) : W.grownBy W2 row :=
  ⟨k.os.trans h.os, k.tape.trans h.tape, k.output.trans h.output, Nat.le_trans h.size k.size, fun i hi hn => (k.block i (Nat.lt_of_lt_of_le hi h.size) hn).trans (h.block i hi hn)⟩
theorem grownRefl (W : World) (row : Option Nat) : W.grownBy W row := ⟨rfl, rfl, rfl, Nat.le_refl _, fun _ _ _ => rfl⟩
/-- what a reader's step does: it turns the reader's block alone. -/
theorem RdAt.keep {top b : Nat} {W W' : World} {s s' : RS} (h : RdAt top b W s) (hg : W.grownBy W' (some b)) {A : Option Addr} {c : Nat} (h3 : W'.heap[b]? = some (.cells #[.slice A s'.L.length c, .bool true, .int .i64 s'.E] 177 (0, 0))) (h4 : s'.L.length ≤ c) (h5 : c ≤ maxLen)
    (h6 : s'.L ≠ [] → ∃ g o, A = some ⟨g, o, none⟩ ∧ g < top ∧ g ≠ b ∧ ∀ j x, s'.L[j]? = some x → W.cell? ⟨g, o + j, none⟩ = some (.int .u8 x.toNat)) : RdAt top b W' s' := by
  refine ⟨h.lt, Nat.le_trans h.fits hg.size, A, c, h3, h4, h5, fun hx => ?_⟩
  obtain ⟨g, o, e, hgt, hne, hc⟩ := h6 hx
  exact ⟨g, o, e, hgt, hne, fun j x hj => (World.cell?_of_block (a := ⟨g, o + j, none⟩) (hg.block g (Nat.lt_of_lt_of_le hgt h.fits) (by simpa using hne))).trans (hc j x hj)⟩

set_option maxRecDepth 100000 in
set_option maxHeartbeats 1000000 in
theorem failO (top b e : Nat) (s : RS) (W : World) (h : RdAt top b W s) :
    Calls Tryz.prog 151 #[.pointer (some ⟨b, 0, none⟩), .int .i64 e] W fun r W' => r = .returned (.tuple #[]) ∧ RdAt top b W' (s.fail e) ∧ W.grownBy W' (some b) := by
  have K := Lib.hid (errO top b s W h)
  have H := Lib.hid h
  obtain ⟨h1, h2, A, c, h3, h4, h5, h6⟩ := h
  have R := Lib.hid h3
  have c0 : W.cell? ⟨b, 0, none⟩ = some (.slice A s.L.length c) := (cell_of_row _ _ 0 _ _ _ h3).trans rfl
  have c2 : W.cell? ⟨b, 2, none⟩ = some (.int .i64 s.E) := (cell_of_row _ _ 2 _ _ _ h3).trans rfl
  have f0 := frz_row 0 h3
  have f2 := frz_row 2 h3
  clear h3 h6
  by_cases he : e = 0
  · subst he
    go_enter Tryz.func151, Tryz.ntmps151
    go_wp2
    refine bodyPost_ret (results_none rfl _ _ _) rfl ?_
    exact ⟨rfl, by simpa [RS.fail] using H.out, grownRefl _ _⟩
  · have he' : ¬ (e : Int) = 0 := by omega
    by_cases hs : s.E = 0
    · have hs' : (s.E : Int) = 0 := by omega
      have HF : Hid (s.fail e = ⟨[], e⟩) := Lib.hid (by unfold RS.fail; rw [if_pos ⟨hs, he⟩])
      go_enter Tryz.func151, Tryz.ntmps151
      go_wp2_with fail
      refine K.out.mono ?_
      rintro r w1 ⟨rfl, rfl⟩
      go_wp2
      go_end0
      refine ⟨rfl, ?_, grownTrans (grownSet _ _ _ _) (grownSet _ _ _ _)⟩
      rw [HF.out]
      refine H.out.keep (grownTrans (grownSet _ _ _ _) (grownSet _ _ _ _)) (A := none) (c := 0) ?_ (Nat.zero_le _) (by unfold maxLen; omega) (fun hx => absurd rfl hx)
      rw [heap_setCell_same _ _ _ _ _ _ (heap_setCell_same _ _ _ _ _ _ R.out)]
      rfl
    · have hs' : ¬ (s.E : Int) = 0 := by omega
      have HF : Hid (s.fail e = s) := Lib.hid (by unfold RS.fail; rw [if_neg (fun h => hs h.1)])
      go_enter Tryz.func151, Tryz.ntmps151
      go_wp2_with fail
      refine K.out.mono ?_
      rintro r w1 ⟨rfl, rfl⟩
      go_wp2
      · refine bodyPost_ret (results_none rfl _ _ _) rfl ?_
        exact ⟨rfl, by rw [HF.out]; exact H.out, grownRefl _ _⟩
      · exfalso
        rename_i h
        simp at h
        omega

/-- End's answer. -/
def RS.fin (s : RS) : Nat := if s.E = 0 then (if s.L = [] then 0 else 6) else s.E
set_option maxRecDepth 100000 in
set_option maxHeartbeats 1000000 in
theorem endO (top b : Nat) (s : RS) (W : World) (h : RdAt top b W s) :
    Calls Tryz.prog 41 #[.pointer (some ⟨b, 0, none⟩)] W fun e W' => e = .returned (.int .i64 s.fin) ∧ W' = W := by
  have K := Lib.hid (errO top b s W h)
  have K2 := Lib.hid (leftO top b s W h)
  clear h
  unfold RS.fin
  by_cases hs : s.E = 0
  · rw [if_pos hs]
    have hs' : (s.E : Int) = 0 := by omega
    by_cases hl : s.L = []
    · rw [if_pos hl]
      have hl' : ¬ (0 : Int) < (s.L.length : Int) := by rw [hl]; simp
      go_enter Tryz.func41, Tryz.ntmps41
      go_wp2_with fail
      refine K.out.mono ?_
      rintro r w1 ⟨rfl, rfl⟩
      go_wp2_with fail
      refine K2.out.mono ?_
      rintro r w1 ⟨rfl, rfl⟩
      go_wp2
      go_ret
      exact ⟨rfl, rfl⟩
    · rw [if_neg hl]
      have hl' : (0 : Int) < (s.L.length : Int) := by have := List.length_pos_iff.2 hl; omega
      go_enter Tryz.func41, Tryz.ntmps41
      go_wp2_with fail
      refine K.out.mono ?_
      rintro r w1 ⟨rfl, rfl⟩
      go_wp2_with fail
      refine K2.out.mono ?_
      rintro r w1 ⟨rfl, rfl⟩
      go_wp2
      go_ret
      exact ⟨rfl, rfl⟩
  · rw [if_neg hs]
    have hs' : ¬ (s.E : Int) = 0 := by omega
    go_enter Tryz.func41, Tryz.ntmps41
    go_wp2_with fail
    refine K.out.mono ?_
    rintro r w1 ⟨rfl, rfl⟩
    go_wp2
    go_ret
    exact ⟨rfl, rfl⟩

end Go.Proofs.YtkmbgehknpefiaaGreatDoor
