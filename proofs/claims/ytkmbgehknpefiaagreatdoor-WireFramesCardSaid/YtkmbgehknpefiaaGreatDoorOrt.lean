/-
  A signed number and a text off a cursor: by exact answers. Condition: the Reader lies in memory, without an error.
-/
import Derived.Test.YtkmbgehknpefiaaGreatDoorOrn
import Derived.Laws.IdiomStrings
import Derived.Laws.BytesArg
namespace Go.Proofs.YtkmbgehknpefiaaGreatDoor
set_option linter.unusedSimpArgs false
set_option linter.unusedVariables false
open Go.RowKit

theorem numAt_le (most : Nat) : ∀ (l : List UInt8) (i v : Nat), v < 128 ^ i → (numAt most i v l).1 ≤ most := by
  intro l i v hv
  by_cases h : (numAt most i v l).2.E = 0
  · obtain ⟨u, -, -, hm, -⟩ := numAt_back most l i v _ _ hv rfl h
    exact hm
  · have : ∀ (l : List UInt8) (i v : Nat), (numAt most i v l).2.E ≠ 0 → (numAt most i v l).1 = 0 := by
      intro l
      induction l with
      | nil => intro i v _; rfl
      | cons x L ih =>
        intro i v h
        unfold numAt at h ⊢
        split
        · rfl
        · split
          · rfl
          · split
            · split
              · rfl
              · rename_i h1 h2 h3 h4
                rw [if_neg h1, if_neg h2, if_pos h3, if_neg h4] at h
                exact absurd rfl h
            · rename_i h1 h2 h3
              rw [if_neg h1, if_neg h2, if_neg h3] at h
              exact ih _ _ h
    rw [this l i v h]
    exact Nat.zero_le _
theorem numAt_zero (most : Nat) (l : List UInt8) (h : (numAt most 0 0 l).2.E ≠ 0) : (numAt most 0 0 l).1 = 0 := by
  have : ∀ (l : List UInt8) (i v : Nat), (numAt most i v l).2.E ≠ 0 → (numAt most i v l).1 = 0 := by
    intro l
    induction l with
    | nil => intro i v _; rfl
    | cons x L ih =>
      intro i v h
      unfold numAt at h ⊢
      split
      · rfl
      · split
        · rfl
        · split
          · split
            · rfl
            · rename_i h1 h2 h3 h4
              rw [if_neg h1, if_neg h2, if_pos h3, if_neg h4] at h
              exact absurd rfl h
          · rename_i h1 h2 h3
            rw [if_neg h1, if_neg h2, if_neg h3] at h
            exact ih _ _ h
  exact this l 0 0 h

set_option maxRecDepth 100000 in
set_option maxHeartbeats 1000000 in
theorem sgnO (top b : Nat) (L : List UInt8) (W : World) (h : RdAt top b W ⟨L, 0⟩) :
    Calls Tryz.prog 198 #[.pointer (some ⟨b, 0, none⟩)] W fun e W' => e = .returned (.tuple #[.int .i64 (zag (numAt 18446744073709551615 0 0 L).1), .int .i64 (numAt 18446744073709551615 0 0 L).2.E]) ∧ ∃ L', RdAt top b W' ⟨L', 0⟩ ∧ ((numAt 18446744073709551615 0 0 L).2.E = 0 → L' = (numAt 18446744073709551615 0 0 L).2.L) ∧ W.grownBy W' (some b) := by
  have K1 := Lib.hid (numO top b 18446744073709551615 L W h (by decide))
  have hv := numAt_le 18446744073709551615 L 0 0 (by decide)
  obtain ⟨N, hN⟩ : ∃ N, numAt 18446744073709551615 0 0 L = N := ⟨_, rfl⟩
  rw [hN] at K1 hv ⊢
  have K2 := Lib.hid (fun w => zagO N.1 w (by omega))
  clear h
  go_enter Tryz.func198, Tryz.ntmps198
  go_wp2_with fail
  refine K1.out.mono ?_
  rintro e w1 ⟨rfl, H⟩
  go_wp2_with fail
  refine (K2.out _).mono ?_
  rintro e w2 ⟨rfl, rfl⟩
  go_wp2
  go_ret2
  exact ⟨rfl, H⟩

/-- the cursor's text. -/
def textAt (most : Nat) (L : List UInt8) : List UInt8 × RS :=
  if (numAt most 0 0 L).2.E = 0 then (if (numAt most 0 0 L).1 ≤ (numAt most 0 0 L).2.L.length then ((numAt most 0 0 L).2.L.take (numAt most 0 0 L).1, ⟨(numAt most 0 0 L).2.L.drop (numAt most 0 0 L).1, 0⟩) else ([], ⟨[], 6⟩)) else ([], (numAt most 0 0 L).2)

set_option maxRecDepth 100000 in
set_option maxHeartbeats 1000000 in
theorem txtO (top b : Nat) (most : Int) (L : List UInt8) (W : World) (h : RdAt top b W ⟨L, 0⟩) (hm : most ≤ 9223372036854775807) :
    Calls Tryz.prog 169 #[.pointer (some ⟨b, 0, none⟩), .int .i64 most] W fun e W' => e = .returned (.tuple #[.string ⟨(textAt most.toNat L).1.toArray⟩, .int .i64 (textAt most.toNat L).2.E]) ∧ ∃ L', RdAt top b W' ⟨L', 0⟩ ∧ ((textAt most.toNat L).2.E = 0 → L' = (textAt most.toNat L).2.L) ∧ W.grownBy W' (some b) := by
  have K1 := Lib.hid (numO top b most.toNat L W h (by omega))
  have hv := numAt_le most.toNat L 0 0 (by decide)
  unfold textAt
  obtain ⟨N, hN⟩ : ∃ N, numAt most.toNat 0 0 L = N := ⟨_, rfl⟩
  rw [hN] at K1 hv ⊢
  clear h
  by_cases hE : N.2.E = 0
  · rw [if_pos hE]
    have hE' : (N.2.E : Int) = 0 := by omega
    by_cases hN' : N.1 ≤ N.2.L.length
    · rw [if_pos hN']
      have hN2 : ¬ (N.2.L.length : Int) < (N.1 : Int) := by omega
      rcases Int.lt_or_le most 0 with hs | hs
      · rw [show ((most.toNat : Nat) : Int) = 0 by omega] at K1
        go_enter Tryz.func169, Tryz.ntmps169
        go_wp2_with fail
        refine K1.out.mono ?_
        rintro e w1 ⟨rfl, L', H, hL, hg⟩
        obtain rfl := hL hE
        obtain ⟨b1, b2, A, c, b3, b4, b5, b6⟩ := id H
        have c0 : w1.cell? ⟨b, 0, none⟩ = some (.slice A N.2.L.length c) := (cell_of_row _ _ 0 _ _ _ b3).trans rfl
        have f0 := frz_row 0 b3
        have R := Lib.hid b3
        have H6 := Lib.hid b6
        have b4' : N.2.L.length ≤ c := b4
        have hlen : N.2.L.length ≤ 9223372036854775807 := by unfold maxLen at b5; omega
        clear b3 b6
        cases A with
        | none =>
          have hl0 : N.2.L = [] := by
            rcases Classical.em (N.2.L = []) with h | h
            · exact h
            · obtain ⟨g, o, e, -⟩ := H6.out h
              cases e
          have hl1 : N.2.L.length = 0 := by rw [hl0]; rfl
          have hn0 : N.1 = 0 := by omega
          have hcv : ∀ c', Sem.run Tryz.prog (convert 41 9 (.slice none 0 c')) w1 = .ok (.string ByteArray.empty) w1 := fun c' => run_convert_bytes_nil w1 _ _ Tryz.underlying41 Tryz.underlying5 0 c' _ Tryz.underlying9
          have htk : List.take N.1 N.2.L = [] := by rw [hl0]; simp
          have hdr : List.drop N.1 N.2.L = [] := by rw [hl0]; simp
          rw [hl1] at c0
          rw [hn0]
          go_wp2
          go_ret2
          refine ⟨by rw [htk]; rfl, [], H.keep (grownSet _ _ _ _) (A := none) (c := c) ?_ (Nat.zero_le _) b5 (fun h => absurd rfl h), (fun _ => hdr.symm), grownTrans hg (grownSet _ _ _ _)⟩
          rw [heap_setCell_same _ _ _ _ _ _ R.out]
          rfl
        | some a =>
          have htl : (N.2.L.take N.1).length = N.1 := by rw [List.length_take]; omega
          have hcv : ∀ c', Sem.run Tryz.prog (convert 41 9 (.slice (some a) N.1 c')) w1 = .ok (.string ⟨(N.2.L.take N.1).toArray⟩) w1 := by
            intro c'
            have := run_convert_bytes_back w1 41 9 5 a c' (N.2.L.take N.1) Tryz.underlying41 Tryz.underlying5 Tryz.underlying9 (fun j hj => by
              have hne : N.2.L ≠ [] := by intro e; rw [e] at hj; simp at hj
              obtain ⟨g, o, e, _, _, hc⟩ := H6.out hne
              cases e
              rw [addr_add]
              have hj2 : j < N.2.L.length := by rw [htl] at hj; omega
              have := hc j _ (List.getElem?_eq_getElem hj2)
              rw [this]
              simp)
            rw [htl] at this
            exact this
          go_wp2
          · go_ret2
            have hdr : List.drop N.1 N.2.L = [] := List.drop_eq_nil_of_le (by omega)
            have hz : N.2.L.length - N.1 = 0 := by omega
            refine ⟨rfl, [], H.keep (grownSet _ _ _ _) (A := some a) (c := 0) ?_ (Nat.zero_le _) (by unfold maxLen; omega) (fun h => absurd rfl h), by rw [hdr], grownTrans hg (grownSet _ _ _ _)⟩
            rw [heap_setCell_same _ _ _ _ _ _ R.out, hz]
            rfl
          · go_ret2
            refine ⟨rfl, List.drop N.1 N.2.L, H.keep (grownSet _ _ _ _) (A := some (a.add N.1)) (c := c - N.1) ?_ (by show (List.drop N.1 N.2.L).length ≤ _; rw [List.length_drop]; omega) (by omega) (fun hne => ?_), rfl, grownTrans hg (grownSet _ _ _ _)⟩
            · rw [heap_setCell_same _ _ _ _ _ _ R.out]
              show some _ = some (Obj.cells #[.slice _ (List.drop N.1 N.2.L).length _, _, _] _ _)
              rw [List.length_drop]
              rfl
            · obtain ⟨g, o, e, hgt, hgb, hc⟩ := H6.out (by intro e; exact hne (by show List.drop N.1 N.2.L = []; rw [e]; simp))
              cases e
              refine ⟨g, o + N.1, by rw [addr_add], hgt, hgb, fun j x hj => ?_⟩
              rw [show o + N.1 + j = o + (N.1 + j) by omega]
              exact hc (N.1 + j) x (by rw [← List.getElem?_drop]; exact hj)
      · rw [show ((most.toNat : Nat) : Int) = most by omega] at K1
        go_enter Tryz.func169, Tryz.ntmps169
        go_wp2_with fail
        refine K1.out.mono ?_
        rintro e w1 ⟨rfl, L', H, hL, hg⟩
        obtain rfl := hL hE
        obtain ⟨b1, b2, A, c, b3, b4, b5, b6⟩ := id H
        have c0 : w1.cell? ⟨b, 0, none⟩ = some (.slice A N.2.L.length c) := (cell_of_row _ _ 0 _ _ _ b3).trans rfl
        have f0 := frz_row 0 b3
        have R := Lib.hid b3
        have H6 := Lib.hid b6
        have b4' : N.2.L.length ≤ c := b4
        have hlen : N.2.L.length ≤ 9223372036854775807 := by unfold maxLen at b5; omega
        clear b3 b6
        cases A with
        | none =>
          have hl0 : N.2.L = [] := by
            rcases Classical.em (N.2.L = []) with h | h
            · exact h
            · obtain ⟨g, o, e, -⟩ := H6.out h
              cases e
          have hl1 : N.2.L.length = 0 := by rw [hl0]; rfl
          have hn0 : N.1 = 0 := by omega
          have hcv : ∀ c', Sem.run Tryz.prog (convert 41 9 (.slice none 0 c')) w1 = .ok (.string ByteArray.empty) w1 := fun c' => run_convert_bytes_nil w1 _ _ Tryz.underlying41 Tryz.underlying5 0 c' _ Tryz.underlying9
          have htk : List.take N.1 N.2.L = [] := by rw [hl0]; simp
          have hdr : List.drop N.1 N.2.L = [] := by rw [hl0]; simp
          rw [hl1] at c0
          rw [hn0]
          go_wp2
          go_ret2
          refine ⟨by rw [htk]; rfl, [], H.keep (grownSet _ _ _ _) (A := none) (c := c) ?_ (Nat.zero_le _) b5 (fun h => absurd rfl h), (fun _ => hdr.symm), grownTrans hg (grownSet _ _ _ _)⟩
          rw [heap_setCell_same _ _ _ _ _ _ R.out]
          rfl
        | some a =>
          have htl : (N.2.L.take N.1).length = N.1 := by rw [List.length_take]; omega
          have hcv : ∀ c', Sem.run Tryz.prog (convert 41 9 (.slice (some a) N.1 c')) w1 = .ok (.string ⟨(N.2.L.take N.1).toArray⟩) w1 := by
            intro c'
            have := run_convert_bytes_back w1 41 9 5 a c' (N.2.L.take N.1) Tryz.underlying41 Tryz.underlying5 Tryz.underlying9 (fun j hj => by
              have hne : N.2.L ≠ [] := by intro e; rw [e] at hj; simp at hj
              obtain ⟨g, o, e, _, _, hc⟩ := H6.out hne
              cases e
              rw [addr_add]
              have hj2 : j < N.2.L.length := by rw [htl] at hj; omega
              have := hc j _ (List.getElem?_eq_getElem hj2)
              rw [this]
              simp)
            rw [htl] at this
            exact this
          go_wp2
          · go_ret2
            have hdr : List.drop N.1 N.2.L = [] := List.drop_eq_nil_of_le (by omega)
            have hz : N.2.L.length - N.1 = 0 := by omega
            refine ⟨rfl, [], H.keep (grownSet _ _ _ _) (A := some a) (c := 0) ?_ (Nat.zero_le _) (by unfold maxLen; omega) (fun h => absurd rfl h), by rw [hdr], grownTrans hg (grownSet _ _ _ _)⟩
            rw [heap_setCell_same _ _ _ _ _ _ R.out, hz]
            rfl
          · go_ret2
            refine ⟨rfl, List.drop N.1 N.2.L, H.keep (grownSet _ _ _ _) (A := some (a.add N.1)) (c := c - N.1) ?_ (by show (List.drop N.1 N.2.L).length ≤ _; rw [List.length_drop]; omega) (by omega) (fun hne => ?_), rfl, grownTrans hg (grownSet _ _ _ _)⟩
            · rw [heap_setCell_same _ _ _ _ _ _ R.out]
              show some _ = some (Obj.cells #[.slice _ (List.drop N.1 N.2.L).length _, _, _] _ _)
              rw [List.length_drop]
              rfl
            · obtain ⟨g, o, e, hgt, hgb, hc⟩ := H6.out (by intro e; exact hne (by show List.drop N.1 N.2.L = []; rw [e]; simp))
              cases e
              refine ⟨g, o + N.1, by rw [addr_add], hgt, hgb, fun j x hj => ?_⟩
              rw [show o + N.1 + j = o + (N.1 + j) by omega]
              exact hc (N.1 + j) x (by rw [← List.getElem?_drop]; exact hj)
    · rw [if_neg hN']
      have hN2 : (N.2.L.length : Int) < (N.1 : Int) := by omega
      rcases Int.lt_or_le most 0 with hs | hs
      · exfalso
        omega
      · rw [show ((most.toNat : Nat) : Int) = most by omega] at K1
        go_enter Tryz.func169, Tryz.ntmps169
        go_wp2_with fail
        refine K1.out.mono ?_
        rintro e w1 ⟨rfl, L', H, hL, hg⟩
        obtain rfl := hL hE
        obtain ⟨b1, b2, A, c, b3, b4, b5, b6⟩ := id H
        have c0 : w1.cell? ⟨b, 0, none⟩ = some (.slice A N.2.L.length c) := (cell_of_row _ _ 0 _ _ _ b3).trans rfl
        have b4' : N.2.L.length ≤ c := b4
        have hlen : N.2.L.length ≤ 9223372036854775807 := by unfold maxLen at b5; omega
        clear b3 b6
        go_wp2
        go_ret2
        exact ⟨rfl, _, H, (fun h => by cases h), hg⟩
  · rw [if_neg hE]
    have hE' : ¬ (N.2.E : Int) = 0 := by omega
    rcases Int.lt_or_le most 0 with hs | hs
    · rw [show ((most.toNat : Nat) : Int) = 0 by omega] at K1
      go_enter Tryz.func169, Tryz.ntmps169
      go_wp2_with fail
      refine K1.out.mono ?_
      rintro e w1 ⟨rfl, L', H, hL, hg⟩
      go_wp2
      go_ret2
      exact ⟨rfl, L', H, hL, hg⟩
    · rw [show ((most.toNat : Nat) : Int) = most by omega] at K1
      go_enter Tryz.func169, Tryz.ntmps169
      go_wp2_with fail
      refine K1.out.mono ?_
      rintro e w1 ⟨rfl, L', H, hL, hg⟩
      go_wp2
      go_ret2
      exact ⟨rfl, L', H, hL, hg⟩

end Go.Proofs.YtkmbgehknpefiaaGreatDoor
