/-
  A number off a cursor: by exact answers. Condition: the Reader lies in memory, without an error.
-/
import Derived.Test.YtkmbgehknpefiaaGreatDoorOro
import Derived.Test.YtkmbgehknpefiaaGreatDoorOnm
namespace Go.Proofs.YtkmbgehknpefiaaGreatDoor
set_option linter.unusedSimpArgs false
set_option linter.unusedVariables false
open Go.RowKit

/-- what 'ended' tells. -/
def endV (n : Bool) (most v : Nat) : Nat := if n then 0 else if most < v then 0 else v
def endE (n : Bool) (most v : Nat) : Nat := if n then 6 else if most < v then 5 else 0
theorem end_low (most k v : Nat) (x : UInt8) (L : List UInt8) (hk : k < 10) (h : ¬ ((k = 9 ∧ 1 < x.toNat) ∨ (0 < k ∧ x.toNat = 0))) (hx : x.toNat < 128) :
    (endV false most (v + x.toNat * 128 ^ k) = (numAt most k v (x :: L)).1 ∧ endE false most (v + x.toNat * 128 ^ k) = (numAt most k v (x :: L)).2.E) ∧ ((numAt most k v (x :: L)).2.E = 0 → L = (numAt most k v (x :: L)).2.L) := by
  rw [numAt_low most k v x L hk h hx]
  unfold endV endE
  by_cases hm : most < v + x.toNat * 128 ^ k
  · simp [hm]
  · simp [hm]

set_option maxRecDepth 100000 in
set_option maxHeartbeats 1000000 in
theorem numO (top b most : Nat) (L : List UInt8) (W : World) (h : RdAt top b W ⟨L, 0⟩) (hm : most < 18446744073709551616) :
    Calls Tryz.prog 161 #[.pointer (some ⟨b, 0, none⟩), .int .u64 most] W fun e W' => e = .returned (.tuple #[.int .u64 (numAt most 0 0 L).1, .int .i64 (numAt most 0 0 L).2.E]) ∧ ∃ L', RdAt top b W' ⟨L', 0⟩ ∧ ((numAt most 0 0 L).2.E = 0 → L' = (numAt most 0 0 L).2.L) ∧ W.grownBy W' (some b) := by
  go_enter Tryz.func161, Tryz.ntmps161
  go_wp2
  go_loopw [6, 12] (fun x y wx => ∃ (v k : Nat) (M : List UInt8), x = .int .u64 v ∧ y = .int .i64 k ∧ k ≤ 10 ∧ Hid (v < 128 ^ k ∧ v < 18446744073709551616) ∧ Hid (numAt most 0 0 L = numAt most k v M) ∧ Hid (RdAt top b wx ⟨M, 0⟩) ∧ Hid (W.grownBy wx (some b))) (fun _ y _ => 10 - (intOf y).toNat)
  case atStart => exact ⟨0, 0, L, rfl, rfl, by omega, Lib.hid ⟨by simp, by omega⟩, Lib.hid rfl, Lib.hid h, Lib.hid (grownRefl _ _)⟩
  case round =>
    clear h
    obtain ⟨v, k, M, rfl, rfl, hk, HV, HN, HR, HG⟩ := hrel
    have hk0 : (0 : Int) ≤ (k : Int) := by omega
    have hbad : ∀ (W' : World) (L' : List UInt8), numAt most k v M = (0, ⟨[], 6⟩) → RdAt top b W' ⟨L', 0⟩ → W.grownBy W' (some b) →
        Ending.returned (.tuple #[.int .u64 0, .int .i64 6]) = Ending.returned (.tuple #[.int .u64 (numAt most 0 0 L).1, .int .i64 (numAt most 0 0 L).2.E]) ∧ ∃ L', RdAt top b W' ⟨L', 0⟩ ∧ ((numAt most 0 0 L).2.E = 0 → L' = (numAt most 0 0 L).2.L) ∧ W.grownBy W' (some b) := by
      intro W' L' e hr hg
      rw [HN.out, e]
      exact ⟨rfl, L', hr, (fun h => by cases h), hg⟩
    have HBAD := Lib.hid hbad
    clear hbad
    by_cases hlt : k < 10
    · have hlt' : (k : Int) < 10 := by omega
      cases M with
      | nil =>
        have K := Lib.hid (octO0 top b wr HR.out)
        go_wp2_with fail
        refine K.out.mono ?_
        rintro e w1 ⟨rfl, rfl⟩
        go_wp2
        go_ret2
        exact HBAD.out _ [] rfl HR.out HG.out
      | cons x M =>
        obtain ⟨n, hn⟩ : ∃ n, x.toNat = n := ⟨_, rfl⟩
        have hn8 : n < 256 := by rw [← hn]; exact x.toNat_lt
        have K := Lib.hid (octO1 top b x M wr HR.out)
        rw [hn] at K
        have HX := Lib.hid hn
        have KE : Hid (∀ (v : Nat) (n : Bool) (w : World), Calls Tryz.prog 185 #[.int .u64 v, .int .u64 most, .bool n] w fun e w' => e = .returned (.tuple #[.int .u64 (endV n most v : Nat), .int .i64 (endE n most v : Nat)]) ∧ w' = w) := Lib.hid (fun v n w => endedO v most n w)
        have HLOW : Hid (n < 128 → ¬ ((k = 9 ∧ 1 < n) ∨ (0 < k ∧ n = 0)) → ∀ W', RdAt top b W' ⟨M, 0⟩ → W.grownBy W' (some b) →
          Ending.returned (.tuple #[.int .u64 (endV false most (v + n % 128 * 128 ^ k) : Nat), .int .i64 (endE false most (v + n % 128 * 128 ^ k) : Nat)]) = Ending.returned (.tuple #[.int .u64 (numAt most 0 0 L).1, .int .i64 (numAt most 0 0 L).2.E]) ∧ ∃ L', RdAt top b W' ⟨L', 0⟩ ∧ ((numAt most 0 0 L).2.E = 0 → L' = (numAt most 0 0 L).2.L) ∧ W.grownBy W' (some b)) := Lib.hid (by
            intro hx h W' hr hg
            rw [HN.out, Nat.mod_eq_of_lt hx, ← hn]
            obtain ⟨⟨h1, h2⟩, h3⟩ := end_low most k v x M hlt (by rw [hn]; exact h) (by rw [hn]; exact hx)
            rw [h1, h2]
            exact ⟨rfl, M, hr, h3, hg⟩)
        have HOV := Lib.hid (grp_ovf n k hn8 hlt)
        clear hn
        by_cases h128 : n < 128
        · have h128' : ¬ (128 : Int) ≤ (n : Int) := by omega
          go_wp2_with fail
          refine K.out.mono ?_
          rintro e w1 ⟨rfl, r1, g1⟩
          have R1 := Lib.hid r1
          have G1 := Lib.hid (grownTrans HG.out g1)
          clear r1 g1
          go_wp2_with fail
          · rename_i hov
            rw [HOV.out] at hov
            go_ret2
            have hov := of_decide_eq_true hov
            exact HBAD.out _ M (numAt_bad _ _ _ _ _ (.inl ⟨hov.1, by rw [HX.out]; omega⟩)) R1.out G1.out
          · rename_i hov _ _ _ h0 _ _
            rw [HOV.out] at hov
            have hov := of_decide_eq_false hov
            subst h0
            rw [show bits .or .u64 (v : Int) (IntKind.u64.wrap (IntKind.u64.wrap (bits .andNot .u8 0 128) * 2 ^ (k * 7))) = ((v + 0 % 128 * 128 ^ k : Nat) : Int) from grp_or v 0 k (by decide) hlt (by simp) HV.out.1]
            by_cases hk1 : 0 < k
            · rw [show decide (0 < k) = true by simp [hk1]]
              refine (KE.out _ _ _).mono ?_
              rintro e w2 ⟨rfl, rfl⟩
              go_wp2
              go_ret2
              exact HBAD.out _ M (numAt_bad _ _ _ _ _ (.inr ⟨hk1, HX.out⟩)) R1.out G1.out
            · rw [show decide (0 < k) = false by simp [hk1]]
              refine (KE.out _ _ _).mono ?_
              rintro e w2 ⟨rfl, rfl⟩
              go_wp2
              go_ret2
              have q := HLOW.out (by decide) (by omega) _ R1.out G1.out
              rw [show v + 0 % 128 * 128 ^ k = v by simp] at q
              exact q
          · rename_i hov _ _ _ h0 _ _
            rw [HOV.out] at hov
            have hov := of_decide_eq_false hov
            rw [grp_or v n k hn8 hlt hov HV.out.1]
            refine (KE.out _ _ _).mono ?_
            rintro e w2 ⟨rfl, rfl⟩
            go_wp2
            go_ret2
            exact HLOW.out h128 (by omega) _ R1.out G1.out
        · have h128' : (128 : Int) ≤ (n : Int) := by omega
          go_wp2_with fail
          refine K.out.mono ?_
          rintro e w1 ⟨rfl, r1, g1⟩
          have R1 := Lib.hid r1
          have G1 := Lib.hid (grownTrans HG.out g1)
          clear r1 g1
          go_wp2_with fail
          · rename_i hov
            rw [HOV.out] at hov
            go_ret2
            have hov := of_decide_eq_true hov
            exact HBAD.out _ M (numAt_bad _ _ _ _ _ (.inl ⟨hov.1, by rw [HX.out]; omega⟩)) R1.out G1.out
          · rename_i hov _ _
            rw [HOV.out] at hov
            have hov := of_decide_eq_false hov
            refine ⟨⟨v + n % 128 * 128 ^ k, k + 1, M, by rw [grp_or v n k hn8 hlt hov HV.out.1], rfl, by omega, Lib.hid (grp_next v n k hn8 hlt hov HV.out.1), Lib.hid (by rw [HN.out, numAt_more _ _ _ _ _ hlt (by rw [HX.out]; exact hov) (by rw [HX.out]; exact h128), HX.out]), R1, G1⟩, by simp [intOf]; omega⟩
    · have hlt' : ¬ (k : Int) < 10 := by omega
      obtain rfl : k = 10 := by omega
      go_wp2
      go_ret2
      exact HBAD.out _ M (numAt_ten _ _ _) HR.out HG.out

end Go.Proofs.YtkmbgehknpefiaaGreatDoor
