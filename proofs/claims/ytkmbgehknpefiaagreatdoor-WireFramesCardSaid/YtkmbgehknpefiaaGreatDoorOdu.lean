/-
  The document's Reader: its numbers: by exact answers. Condition: it lies in memory.
-/
import Derived.Test.YtkmbgehknpefiaaGreatDoorOda
namespace Go.Proofs.YtkmbgehknpefiaaGreatDoor
set_option linter.unusedSimpArgs false
set_option linter.unusedVariables false
open Go.RowKit

theorem drop_cons_of {L : List UInt8} {k : Nat} {x : UInt8} (h : L[k]? = some x) : L.drop k = x :: L.drop (k + 1) := by
  obtain ⟨hk, hx⟩ := List.getElem?_eq_some_iff.1 h
  rw [List.drop_eq_getElem_cons hk, hx]
theorem d_or (v n k : Nat) (hn : n < 256) (hk : k < 10) (h : ¬ (k = 9 ∧ 1 < n % 128)) (hv : v < 128 ^ k) :
    bits .or .u64 (v : Int) (IntKind.u64.wrap ((n : Int) % 128 * 2 ^ (7 * k))) = ((v + n % 128 * 128 ^ k : Nat) : Int) := by
  have := grp_or v n k hn hk h hv
  rw [andNot8 n (by omega) (by omega)] at this
  rw [Nat.mul_comm 7 k]
  exact this
theorem d_or9 (v : Nat) (hv : v < 128 ^ 9) : bits .or .u64 (v : Int) 9223372036854775808 = ((v + 1 % 128 * 128 ^ 9 : Nat) : Int) := by
  have := d_or v 1 9 (by decide) (by decide) (by decide) hv
  rw [← this]
  congr 1
theorem d_or0 (v : Nat) (hv : v < 128 ^ 0) : bits .or .u64 (v : Int) 0 = ((v + 0 % 128 * 128 ^ 0 : Nat) : Int) := by
  have := d_or v 0 0 (by decide) (by decide) (by decide) hv
  rw [← this]
  congr 1

set_option maxRecDepth 100000 in
set_option maxHeartbeats 3000000 in
theorem dU (top b most : Nat) (s : RS) (W : World) (h : DdAt top b W s) (hm : most < 18446744073709551616) :
    Calls Tryz.prog 74 #[.pointer (some ⟨b, 0, none⟩), .int .u64 most] W fun e W' => e = .returned (.int .u64 (s.u most).1) ∧ DdAt top b W' (s.u most).2 ∧ W.grownBy W' (some b) := by
  have KF := Lib.hid (fun e he => dFail top b e s W h he)
  have H := Lib.hid h
  obtain ⟨h1, h2, A, n, c, h3, h4, h5, h7, h6⟩ := h
  have R := Lib.hid h3
  have c0 : W.cell? ⟨b, 0, none⟩ = some (.slice A n c) := (cell_of_row _ _ 0 _ _ _ h3).trans rfl
  have c1 : W.cell? ⟨b, 1, none⟩ = some (.int .i64 s.E) := (cell_of_row _ _ 1 _ _ _ h3).trans rfl
  have f0 := frz_row 0 h3
  have H6 := Lib.hid h6
  clear h3 h6
  obtain ⟨L, E⟩ := s
  by_cases hs : E = 0
  · subst hs
    obtain rfl := h4 rfl
    have hlen : L.length ≤ 9223372036854775807 := by unfold maxLen at h7; have h5' : L.length ≤ c := h5; omega
    rw [u_eq]
    have hbad : ∀ e, e ≠ 0 → RS.fail e ⟨L, 0⟩ = ⟨[], e⟩ := fun e he => by unfold RS.fail; rw [if_pos ⟨rfl, he⟩]
    have K6 := Lib.hid (KF.out 6 (by decide))
    have K5 := Lib.hid (KF.out 5 (by decide))
    rw [hbad 6 (by decide)] at K6
    rw [hbad 5 (by decide)] at K5
    clear hbad KF h4
    go_enter Tryz.func74, Tryz.ntmps74
    go_wp2
    go_loopw [5, 6] (fun x y wx => wx = W ∧ ∃ (v k : Nat), x = .int .u64 v ∧ y = .int .i64 k ∧ k ≤ 10 ∧ Hid (v < 128 ^ k ∧ v < 18446744073709551616) ∧ Hid (numAt most 0 0 L = numAt most k v (L.drop k))) (fun _ y _ => 10 - (intOf y).toNat)
    case atStart => exact ⟨rfl, 0, 0, rfl, rfl, by omega, Lib.hid ⟨by simp, by omega⟩, Lib.hid rfl⟩
    case round =>
      obtain ⟨rfl, v, k, rfl, rfl, hk, HV, HN⟩ := hrel
      have hk0 : (0 : Int) ≤ (k : Int) := by omega
      by_cases hlt : k < 10
      · have hlt' : (k : Int) < 10 := by omega
        by_cases hkl : k < L.length
        · have hkl' : ¬ (L.length : Int) ≤ (k : Int) := by omega
          obtain ⟨g, o, rfl, hg0, hne, hc⟩ := H6.out (by trivial) (by intro e; have e' : L = [] := e; rw [e'] at hkl; simp at hkl)
          obtain ⟨x, hx⟩ : ∃ x, L[k]? = some x := ⟨_, List.getElem?_eq_getElem hkl⟩
          obtain ⟨n, hn⟩ : ∃ n, x.toNat = n := ⟨_, rfl⟩
          have hn8 : n < 256 := by rw [← hn]; exact x.toNat_lt
          have hcx : wr.cell? ⟨g, o + k, none⟩ = some (.int .u8 n) := by rw [← hn]; exact hc k x hx
          have HC := Lib.hid hc
          have HOR : Hid (¬ (k = 9 ∧ 1 < n % 128) → bits .or .u64 (v : Int) (IntKind.u64.wrap ((n : Int) % 128 * 2 ^ (7 * k))) = ((v + n % 128 * 128 ^ k : Nat) : Int)) := Lib.hid (fun h => d_or v n k hn8 hlt h HV.out.1)
          have HLOW : Hid (n < 128 → ¬ ((k = 9 ∧ 1 < n) ∨ (0 < k ∧ n = 0)) → numAt most 0 0 L = if most < v + n % 128 * 128 ^ k then (0, ⟨[], 5⟩) else (v + n % 128 * 128 ^ k, ⟨L.drop (k + 1), 0⟩)) := Lib.hid (fun h1 h2 => by
            rw [HN.out, drop_cons_of hx, numAt_low most k v x _ hlt (by rw [hn]; exact h2) (by rw [hn]; exact h1), hn, Nat.mod_eq_of_lt h1])
          have HBAD : Hid ((k = 9 ∧ 1 < n) ∨ (0 < k ∧ n = 0) → numAt most 0 0 L = (0, ⟨[], 6⟩)) := Lib.hid (fun h => by
            rw [HN.out, drop_cons_of hx, numAt_bad most k v x _ (by rw [hn]; exact h)])
          have HMORE : Hid (¬ n < 128 → ¬ (k = 9 ∧ 1 < n % 128) → numAt most 0 0 L = numAt most (k + 1) (v + n % 128 * 128 ^ k) (L.drop (k + 1))) := Lib.hid (fun h1 h2 => by
            rw [HN.out, drop_cons_of hx, numAt_more most k v x _ hlt (by rw [hn]; exact h2) (by rw [hn]; exact h1), hn])
          clear hc hx hn
          by_cases h9 : k = 9
          · subst h9
            by_cases hn1 : 1 < n
            · have hn1' : (1 : Int) < (n : Int) := by omega
              go_wp2_with fail
              refine K6.out.mono ?_
              rintro r w1 ⟨rfl, hd, hg⟩
              go_wp2
              go_ret
              rw [HBAD.out (by simp; omega)]
              exact ⟨rfl, hd, hg⟩
            · rcases (show n = 0 ∨ n = 1 by omega) with rfl | rfl
              · go_wp2_with fail
                refine K6.out.mono ?_
                rintro r w1 ⟨rfl, hd, hg⟩
                go_wp2
                go_ret
                rw [HBAD.out (by simp)]
                exact ⟨rfl, hd, hg⟩
              · go_wp2_with fail
                all_goals first
                  | (have hq : (most : Int) < bits BinOp.or IntKind.u64 (v : Int) 9223372036854775808 := by assumption
                     refine K5.out.mono ?_
                     rintro r w1 ⟨rfl, hd, hg⟩
                     go_wp2
                     go_ret
                     rw [d_or9 v HV.out.1] at hq
                     have hq2 : most < (v + 1 % 128 * 128 ^ 9) := by omega
                     rw [HLOW.out (by omega) (by omega), if_pos hq2]
                     exact ⟨rfl, hd, hg⟩)
                  | (have hq : bits BinOp.or IntKind.u64 (v : Int) 9223372036854775808 ≤ (most : Int) := by assumption
                     rw [d_or9 v HV.out.1] at hq
                     have hq2 : ¬ most < (v + 1 % 128 * 128 ^ 9) := by omega
                     have hck : c = 9 + 1 := by assumption
                     go_ret
                     rw [HLOW.out (by omega) (by omega), if_neg hq2]
                     refine ⟨by rw [← d_or9 v HV.out.1]; rfl, H.out.keep (grownSet _ _ _ _) (A := some ⟨g, o, none⟩) (n := L.length - (9 + 1)) (c := 0) ?_ (fun _ => by show _ = (L.drop (9 + 1)).length; rw [List.length_drop]) (by have h5' : L.length ≤ c := h5; omega) (by unfold maxLen; omega) (fun _ hx => absurd (show L.drop (9 + 1) = [] from List.drop_eq_nil_of_le (by have h5' : L.length ≤ c := h5; omega)) hx), grownSet _ _ _ _⟩
                     rw [heap_setCell_same _ _ _ _ _ _ R.out]
                     rfl)
                  | (have hq : bits BinOp.or IntKind.u64 (v : Int) 9223372036854775808 ≤ (most : Int) := by assumption
                     rw [d_or9 v HV.out.1] at hq
                     have hq2 : ¬ most < (v + 1 % 128 * 128 ^ 9) := by omega
                     have hck : ¬ c = 9 + 1 := by assumption
                     go_ret
                     rw [HLOW.out (by omega) (by omega), if_neg hq2]
                     refine ⟨by rw [← d_or9 v HV.out.1]; rfl, H.out.keep (grownSet _ _ _ _) (A := some ⟨g, o + (9 + 1), none⟩) (n := L.length - (9 + 1)) (c := c - (9 + 1)) ?_ (fun _ => by show _ = (L.drop (9 + 1)).length; rw [List.length_drop]) (by have h5' : L.length ≤ c := h5; omega) (by omega) (fun _ _ => ⟨g, o + (9 + 1), rfl, hg0, hne, fun j y hj => ?_⟩), grownSet _ _ _ _⟩
                     · rw [heap_setCell_same _ _ _ _ _ _ R.out]
                       rfl
                     · rw [show o + (9 + 1) + j = o + (9 + 1 + j) by omega]
                       exact HC.out (9 + 1 + j) y (by rw [← List.getElem?_drop]; exact hj))
                  | (have hL : L = [] := by assumption
                     refine K6.out.mono ?_
                     rintro r w1 ⟨rfl, hd, hg⟩
                     go_wp2
                     go_ret
                     rw [hL]
                     exact ⟨rfl, hd, hg⟩)
                  | (refine K6.out.mono ?_
                     rintro r w1 ⟨rfl, hd, hg⟩
                     go_wp2
                     go_ret
                     rw [HBAD.out (by omega)]
                     exact ⟨rfl, hd, hg⟩)
          · have h9' : ¬ (k : Int) = 9 := by omega
            by_cases hz : n = 0
            · subst hz
              by_cases hk1 : 0 < k
              · have hk1' : (0 : Int) < (k : Int) := by omega
                go_wp2_with fail
                refine K6.out.mono ?_
                rintro r w1 ⟨rfl, hd, hg⟩
                go_wp2
                go_ret
                rw [HBAD.out (by simp; omega)]
                exact ⟨rfl, hd, hg⟩
              · obtain rfl : k = 0 := by omega
                rw [Nat.add_zero] at hcx
                go_wp2_with fail
                all_goals first
                  | (have hq : (most : Int) < bits BinOp.or IntKind.u64 (v : Int) 0 := by assumption
                     refine K5.out.mono ?_
                     rintro r w1 ⟨rfl, hd, hg⟩
                     go_wp2
                     go_ret
                     rw [d_or0 v HV.out.1] at hq
                     have hq2 : most < (v + 0 % 128 * 128 ^ 0) := by omega
                     rw [HLOW.out (by omega) (by omega), if_pos hq2]
                     exact ⟨rfl, hd, hg⟩)
                  | (have hq : bits BinOp.or IntKind.u64 (v : Int) 0 ≤ (most : Int) := by assumption
                     rw [d_or0 v HV.out.1] at hq
                     have hq2 : ¬ most < (v + 0 % 128 * 128 ^ 0) := by omega
                     have hck : c = 0 + 1 := by assumption
                     go_ret
                     rw [HLOW.out (by omega) (by omega), if_neg hq2]
                     refine ⟨by rw [← d_or0 v HV.out.1]; rfl, H.out.keep (grownSet _ _ _ _) (A := some ⟨g, o, none⟩) (n := L.length - (0 + 1)) (c := 0) ?_ (fun _ => by show _ = (L.drop (0 + 1)).length; rw [List.length_drop]) (by have h5' : L.length ≤ c := h5; omega) (by unfold maxLen; omega) (fun _ hx => absurd (show L.drop (0 + 1) = [] from List.drop_eq_nil_of_le (by have h5' : L.length ≤ c := h5; omega)) hx), grownSet _ _ _ _⟩
                     rw [heap_setCell_same _ _ _ _ _ _ R.out]
                     rfl)
                  | (have hq : bits BinOp.or IntKind.u64 (v : Int) 0 ≤ (most : Int) := by assumption
                     rw [d_or0 v HV.out.1] at hq
                     have hq2 : ¬ most < (v + 0 % 128 * 128 ^ 0) := by omega
                     have hck : ¬ c = 0 + 1 := by assumption
                     go_ret
                     rw [HLOW.out (by omega) (by omega), if_neg hq2]
                     refine ⟨by rw [← d_or0 v HV.out.1]; rfl, H.out.keep (grownSet _ _ _ _) (A := some ⟨g, o + (0 + 1), none⟩) (n := L.length - (0 + 1)) (c := c - (0 + 1)) ?_ (fun _ => by show _ = (L.drop (0 + 1)).length; rw [List.length_drop]) (by have h5' : L.length ≤ c := h5; omega) (by omega) (fun _ _ => ⟨g, o + (0 + 1), rfl, hg0, hne, fun j y hj => ?_⟩), grownSet _ _ _ _⟩
                     · rw [heap_setCell_same _ _ _ _ _ _ R.out]
                       rfl
                     · rw [show o + (0 + 1) + j = o + (0 + 1 + j) by omega]
                       exact HC.out (0 + 1 + j) y (by rw [← List.getElem?_drop]; exact hj))
                  | (have hL : L = [] := by assumption
                     refine K6.out.mono ?_
                     rintro r w1 ⟨rfl, hd, hg⟩
                     go_wp2
                     go_ret
                     rw [hL]
                     exact ⟨rfl, hd, hg⟩)
                  | (refine K6.out.mono ?_
                     rintro r w1 ⟨rfl, hd, hg⟩
                     go_wp2
                     go_ret
                     rw [HBAD.out (by omega)]
                     exact ⟨rfl, hd, hg⟩)
            · have hz' : ¬ (n : Int) = 0 := by omega
              by_cases h128 : n < 128
              · have h128' : (n : Int) < 128 := by omega
                go_wp2_with fail
                all_goals first
                  | (have hq : (most : Int) < bits BinOp.or IntKind.u64 (v : Int) (IntKind.u64.wrap ((n : Int) % 128 * 2 ^ (7 * k))) := by assumption
                     refine K5.out.mono ?_
                     rintro r w1 ⟨rfl, hd, hg⟩
                     go_wp2
                     go_ret
                     rw [HOR.out (by omega)] at hq
                     have hq2 : most < (v + n % 128 * 128 ^ k) := by omega
                     rw [HLOW.out (by omega) (by omega), if_pos hq2]
                     exact ⟨rfl, hd, hg⟩)
                  | (have hq : bits BinOp.or IntKind.u64 (v : Int) (IntKind.u64.wrap ((n : Int) % 128 * 2 ^ (7 * k))) ≤ (most : Int) := by assumption
                     rw [HOR.out (by omega)] at hq
                     have hq2 : ¬ most < (v + n % 128 * 128 ^ k) := by omega
                     have hck : c = k + 1 := by assumption
                     go_ret
                     rw [HLOW.out (by omega) (by omega), if_neg hq2]
                     refine ⟨by rw [← HOR.out (by omega)]; rfl, H.out.keep (grownSet _ _ _ _) (A := some ⟨g, o, none⟩) (n := L.length - (k + 1)) (c := 0) ?_ (fun _ => by show _ = (L.drop (k + 1)).length; rw [List.length_drop]) (by have h5' : L.length ≤ c := h5; omega) (by unfold maxLen; omega) (fun _ hx => absurd (show L.drop (k + 1) = [] from List.drop_eq_nil_of_le (by have h5' : L.length ≤ c := h5; omega)) hx), grownSet _ _ _ _⟩
                     rw [heap_setCell_same _ _ _ _ _ _ R.out]
                     rfl)
                  | (have hq : bits BinOp.or IntKind.u64 (v : Int) (IntKind.u64.wrap ((n : Int) % 128 * 2 ^ (7 * k))) ≤ (most : Int) := by assumption
                     rw [HOR.out (by omega)] at hq
                     have hq2 : ¬ most < (v + n % 128 * 128 ^ k) := by omega
                     have hck : ¬ c = k + 1 := by assumption
                     go_ret
                     rw [HLOW.out (by omega) (by omega), if_neg hq2]
                     refine ⟨by rw [← HOR.out (by omega)]; rfl, H.out.keep (grownSet _ _ _ _) (A := some ⟨g, o + (k + 1), none⟩) (n := L.length - (k + 1)) (c := c - (k + 1)) ?_ (fun _ => by show _ = (L.drop (k + 1)).length; rw [List.length_drop]) (by have h5' : L.length ≤ c := h5; omega) (by omega) (fun _ _ => ⟨g, o + (k + 1), rfl, hg0, hne, fun j y hj => ?_⟩), grownSet _ _ _ _⟩
                     · rw [heap_setCell_same _ _ _ _ _ _ R.out]
                       rfl
                     · rw [show o + (k + 1) + j = o + (k + 1 + j) by omega]
                       exact HC.out (k + 1 + j) y (by rw [← List.getElem?_drop]; exact hj))
                  | (have hL : L = [] := by assumption
                     refine K6.out.mono ?_
                     rintro r w1 ⟨rfl, hd, hg⟩
                     go_wp2
                     go_ret
                     rw [hL]
                     exact ⟨rfl, hd, hg⟩)
                  | (refine K6.out.mono ?_
                     rintro r w1 ⟨rfl, hd, hg⟩
                     go_wp2
                     go_ret
                     rw [HBAD.out (by omega)]
                     exact ⟨rfl, hd, hg⟩)
              · have h128' : ¬ (n : Int) < 128 := by omega
                go_wp2_with fail
                all_goals (refine ⟨⟨by trivial, v + n % 128 * 128 ^ k, k + 1, by rw [HOR.out (by omega)], rfl, by omega, Lib.hid (grp_next v n k hn8 hlt (by omega) HV.out.1), Lib.hid (HMORE.out h128 (by omega))⟩, by simp [intOf]; omega⟩)
        · have hkl' : (L.length : Int) ≤ (k : Int) := by omega
          go_wp2_with fail
          refine K6.out.mono ?_
          rintro r w1 ⟨rfl, hd, hg⟩
          go_wp2
          go_ret
          have e : L.drop k = [] := List.drop_eq_nil_of_le (by omega)
          rw [HN.out, e]
          exact ⟨rfl, hd, hg⟩
      · have hlt' : ¬ (k : Int) < 10 := by omega
        obtain rfl : k = 10 := by omega
        go_wp2_with fail
        refine K6.out.mono ?_
        rintro r w1 ⟨rfl, hd, hg⟩
        go_wp2
        go_ret
        rw [HN.out, numAt_ten]
        exact ⟨rfl, hd, hg⟩
  · have hs' : ¬ (E : Int) = 0 := by omega
    have hf : RS.fail 6 ⟨L, E⟩ = ⟨L, E⟩ := by unfold RS.fail; rw [if_neg (fun h => hs h.1)]
    have hu : RS.u most ⟨L, E⟩ = (0, ⟨L, E⟩) := by unfold RS.u; rw [if_neg hs]
    have K6 := Lib.hid (KF.out 6 (by decide))
    rw [hf] at K6
    rw [hu]
    clear KF
    go_enter Tryz.func74, Tryz.ntmps74
    go_wp2
    go_loopw [5, 6] (fun x y wx => wx = W ∧ x = .int .u64 0 ∧ y = .int .i64 0) (fun _ y _ => 10 - (intOf y).toNat)
    case atStart => exact ⟨rfl, rfl, rfl⟩
    case round =>
      obtain ⟨rfl, rfl, rfl⟩ := hrel
      go_wp2_with fail
      refine K6.out.mono ?_
      rintro r w1 ⟨rfl, hd, hg⟩
      go_wp2
      go_ret
      exact ⟨rfl, hd, hg⟩

end Go.Proofs.YtkmbgehknpefiaaGreatDoor
