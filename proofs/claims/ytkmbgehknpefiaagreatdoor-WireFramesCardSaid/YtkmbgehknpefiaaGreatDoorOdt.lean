/-
  The document's Reader: its texts: by exact answers. Condition: it lies in memory.
-/
import Derived.Test.YtkmbgehknpefiaaGreatDoorOdu
namespace Go.Proofs.YtkmbgehknpefiaaGreatDoor
set_option linter.unusedSimpArgs false
set_option linter.unusedVariables false
open Go.RowKit

theorem text_u (most : Nat) (s : RS) : RS.text most s = (if (s.u most).2.E = 0 then (if (s.u most).1 ≤ (s.u most).2.L.length then ((s.u most).2.L.take (s.u most).1, ⟨(s.u most).2.L.drop (s.u most).1, 0⟩) else ([], ⟨[], 6⟩)) else ([], (s.u most).2)) := rfl

set_option maxRecDepth 100000 in
set_option maxHeartbeats 2000000 in
theorem dT (top b most : Nat) (s : RS) (W : World) (h : DdAt top b W s) (hm : most ≤ 9223372036854775807) :
    Calls Tryz.prog 75 #[.pointer (some ⟨b, 0, none⟩), .int .i64 most] W fun e W' => e = .returned (.string ⟨(s.text most).1.toArray⟩) ∧ DdAt top b W' (s.text most).2 ∧ W.grownBy W' (some b) := by
  have K1 := Lib.hid (dU top b most s W h (by omega))
  rw [text_u]
  obtain ⟨N, hN⟩ : ∃ N, s.u most = N := ⟨_, rfl⟩
  rw [hN] at K1 ⊢
  clear h
  have hm0 : (0 : Int) ≤ (most : Int) := by omega
  by_cases hE : N.2.E = 0
  · rw [if_pos hE]
    have hE' : (N.2.E : Int) = 0 := by omega
    by_cases hN' : N.1 ≤ N.2.L.length
    · rw [if_pos hN']
      have hN2 : ¬ (N.2.L.length : Int) < (N.1 : Int) := by omega
      go_enter Tryz.func75, Tryz.ntmps75
      go_wp2_with fail
      refine K1.out.mono ?_
      rintro e w1 ⟨rfl, H, hg⟩
      obtain ⟨b1, b2, A, n, c, b3, b4, b5, b7, b6⟩ := id H
      obtain rfl := b4 hE
      have c0 : w1.cell? ⟨b, 0, none⟩ = some (.slice A N.2.L.length c) := (cell_of_row _ _ 0 _ _ _ b3).trans rfl
      have c1 : w1.cell? ⟨b, 1, none⟩ = some (.int .i64 N.2.E) := (cell_of_row _ _ 1 _ _ _ b3).trans rfl
      have f0 := frz_row 0 b3
      have R := Lib.hid b3
      have H6 := Lib.hid (b6 hE)
      have hlen : N.2.L.length ≤ 9223372036854775807 := by unfold maxLen at b7; omega
      clear b3 b6 b4
      cases A with
      | none =>
        have hl0 : N.2.L = [] := by
          rcases Classical.em (N.2.L = []) with h | h
          · exact h
          · obtain ⟨g, o, e, -⟩ := H6.out h
            cases e
        have hl1 : N.2.L.length = 0 := by rw [hl0]; rfl
        have hn0 : N.1 = 0 := by omega
        have hcv : ∀ c', Sem.run Tryz.prog (convert 41 9 (.slice none 0 c')) w1 = .ok (.string ByteArray.empty) w1 := fun c' => run_convert_bytes_nil w1 _ _ Tryz.underlying41 Tryz.underlying5 0 c' _ Tryz.underlying9
        have htk : List.take N.1 N.2.L = [] := by rw [hl0]; simp
        have hdr : List.drop N.1 N.2.L = [] := by rw [hl0]; simp
        rw [hl1] at c0
        rw [hn0]
        go_wp2
        go_ret
        refine ⟨by rw [htk]; rfl, ?_, grownTrans hg (grownSet _ _ _ _)⟩
        rw [hdr]
        refine H.keep (grownSet _ _ _ _) (A := none) (n := 0) (c := c) ?_ (fun _ => rfl) (Nat.zero_le _) b7 (fun _ h => absurd rfl h)
        rw [heap_setCell_same _ _ _ _ _ _ R.out, hE]
        rfl
      | some a =>
        have htl : (N.2.L.take N.1).length = N.1 := by rw [List.length_take]; omega
        have hcv : ∀ c', Sem.run Tryz.prog (convert 41 9 (.slice (some a) N.1 c')) w1 = .ok (.string ⟨(N.2.L.take N.1).toArray⟩) w1 := by
          intro c'
          have := run_convert_bytes_back w1 41 9 5 a c' (N.2.L.take N.1) Tryz.underlying41 Tryz.underlying5 Tryz.underlying9 (fun j hj => by
            have hne : N.2.L ≠ [] := by intro e; rw [e] at hj; simp at hj
            obtain ⟨g, o, e, _, _, hc⟩ := H6.out hne
            cases e
            rw [addr_add]
            have hj2 : j < N.2.L.length := by rw [htl] at hj; omega
            have := hc j _ (List.getElem?_eq_getElem hj2)
            rw [this]
            simp)
          rw [htl] at this
          exact this
        go_wp2
        · go_ret
          have hdr : List.drop N.1 N.2.L = [] := List.drop_eq_nil_of_le (by omega)
          have hz : N.2.L.length - N.1 = 0 := by omega
          refine ⟨rfl, ?_, grownTrans hg (grownSet _ _ _ _)⟩
          rw [hdr]
          refine H.keep (grownSet _ _ _ _) (A := some a) (n := 0) (c := 0) ?_ (fun _ => rfl) (Nat.zero_le _) (by unfold maxLen; omega) (fun _ h => absurd rfl h)
          rw [heap_setCell_same _ _ _ _ _ _ R.out, hE, hz]
          rfl
        · go_ret
          refine ⟨rfl, H.keep (grownSet _ _ _ _) (A := some (a.add N.1)) (n := N.2.L.length - N.1) (c := c - N.1) ?_ (fun _ => by show _ = (List.drop N.1 N.2.L).length; rw [List.length_drop]) (by omega) (by omega) (fun _ hne => ?_), grownTrans hg (grownSet _ _ _ _)⟩
          · rw [heap_setCell_same _ _ _ _ _ _ R.out, hE]
            rfl
          · obtain ⟨g, o, e, hgt, hgb, hc⟩ := H6.out (by intro e; exact hne (by show List.drop N.1 N.2.L = []; rw [e]; simp))
            cases e
            refine ⟨g, o + N.1, by rw [addr_add], hgt, hgb, fun j x hj => ?_⟩
            rw [show o + N.1 + j = o + (N.1 + j) by omega]
            exact hc (N.1 + j) x (by rw [← List.getElem?_drop]; exact hj)
    · rw [if_neg hN']
      have hN2 : (N.2.L.length : Int) < (N.1 : Int) := by omega
      go_enter Tryz.func75, Tryz.ntmps75
      go_wp2_with fail
      refine K1.out.mono ?_
      rintro e w1 ⟨rfl, H, hg⟩
      obtain ⟨b1, b2, A, n, c, b3, b4, b5, b7, b6⟩ := id H
      obtain rfl := b4 hE
      have c0 : w1.cell? ⟨b, 0, none⟩ = some (.slice A N.2.L.length c) := (cell_of_row _ _ 0 _ _ _ b3).trans rfl
      have c1 : w1.cell? ⟨b, 1, none⟩ = some (.int .i64 N.2.E) := (cell_of_row _ _ 1 _ _ _ b3).trans rfl
      have hlen : N.2.L.length ≤ 9223372036854775807 := by unfold maxLen at b7; omega
      have KF := Lib.hid (dFail top b 6 N.2 w1 H (by decide))
      rw [show RS.fail 6 N.2 = ⟨[], 6⟩ by unfold RS.fail; rw [if_pos ⟨hE, by decide⟩]] at KF
      clear b3 b6 b4 H
      go_wp2_with fail
      refine KF.out.mono ?_
      rintro r w2 ⟨rfl, hd, hg2⟩
      go_wp2
      go_ret
      exact ⟨rfl, hd, grownTrans hg hg2⟩
  · rw [if_neg hE]
    have hE' : ¬ (N.2.E : Int) = 0 := by omega
    go_enter Tryz.func75, Tryz.ntmps75
    go_wp2_with fail
    refine K1.out.mono ?_
    rintro e w1 ⟨rfl, H, hg⟩
    obtain ⟨b1, b2, A, n, c, b3, b4, b5, b7, b6⟩ := id H
    have c1 : w1.cell? ⟨b, 1, none⟩ = some (.int .i64 N.2.E) := (cell_of_row _ _ 1 _ _ _ b3).trans rfl
    have KF := Lib.hid (dFail top b 6 N.2 w1 H (by decide))
    rw [show RS.fail 6 N.2 = N.2 by unfold RS.fail; rw [if_neg (fun h => hE h.1)]] at KF
    clear b3 b6 b4 H
    go_wp2_with fail
    refine KF.out.mono ?_
    rintro r w2 ⟨rfl, hd, hg2⟩
    go_wp2
    go_ret
    exact ⟨rfl, hd, grownTrans hg hg2⟩

end Go.Proofs.YtkmbgehknpefiaaGreatDoor
