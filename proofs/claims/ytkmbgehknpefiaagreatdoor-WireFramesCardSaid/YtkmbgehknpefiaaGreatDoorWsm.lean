/-
  Do bytes end with the sum of those ahead of it: by exact answers. Condition: bytes and table lie in memory.
-/
import Derived.Test.YtkmbgehknpefiaaGreatDoorWta
namespace Go.Proofs.YtkmbgehknpefiaaGreatDoor
set_option linter.unusedSimpArgs false
set_option linter.unusedVariables false
open Go.RowKit

theorem BytesAt.take {W : World} {B : Nat} {A : Option Addr} {L : List UInt8} (h : BytesAt W B A L) (n : Nat) : BytesAt W B A (L.take n) := fun hx => by
  obtain ⟨b, o, e, hb, hc⟩ := h (by rintro rfl; simp at hx)
  refine ⟨b, o, e, hb, fun j x hj => hc j x ?_⟩
  rw [List.getElem?_take] at hj
  split at hj
  · exact hj
  · cases hj
/-- do bytes end with the sum of those ahead of it? -/
def summedB (x : List UInt8) : Bool := decide (4 ≤ x.length ∧ x.drop (x.length - 4) = be4 (Crc.sumN (x.take (x.length - 4))))
theorem summedB_yes {x : List UInt8} (h4 : 4 ≤ x.length) (h : ∀ j, j < 4 → x[x.length - 4 + j]? = (be4 (Crc.sumN (x.take (x.length - 4))))[j]?) : summedB x = true := by
  unfold summedB
  refine decide_eq_true ⟨h4, List.ext_getElem? fun j => ?_⟩
  rw [List.getElem?_drop]
  rcases Nat.lt_or_ge j 4 with hj | hj
  · exact h j hj
  · rw [List.getElem?_eq_none (by omega), List.getElem?_eq_none (by rw [be4_length]; omega)]
theorem summedB_no {x : List UInt8} (j : Nat) (h : x[x.length - 4 + j]? ≠ (be4 (Crc.sumN (x.take (x.length - 4))))[j]?) : summedB x = false := by
  unfold summedB
  refine decide_eq_false fun ⟨_, he⟩ => h ?_
  rw [← he, List.getElem?_drop]

set_option maxRecDepth 100000 in
set_option maxHeartbeats 1000000 in
theorem summedO (A : Option Addr) (x : List UInt8) (c : Nat) (W : World) (h : BytesAt W W.heap.size A x) (hl : x.length ≤ 140737488355328) (hc : x.length ≤ c) (hT : TabAt W.heap.size W) :
    Calls Tryz.prog 70 #[.slice A x.length c] W fun e W' => e = .returned (.bool (summedB x)) ∧ Below W.heap.size W W' := by
  by_cases h4 : x.length < 4
  · have h4' : (x.length : Int) - 4 < 0 := by omega
    have hs : summedB x = false := by unfold summedB; exact decide_eq_false fun ⟨h, _⟩ => absurd h (by omega)
    rw [hs]
    go_enter Tryz.func70, Tryz.ntmps70
    go_wp2
    go_ret
    exact ⟨rfl, Below.refl _ _⟩
  · obtain ⟨g, o, rfl, hg, hcx⟩ := h (by rintro rfl; simp at h4)
    obtain ⟨n, hn⟩ : ∃ n, x.length = n + 4 := ⟨x.length - 4, by omega⟩
    have htl : (x.take n).length = n := by rw [List.length_take]; omega
    have K1 := sumO (some ⟨g, o, none⟩) (x.take n) c W (h.take n) (by omega) hT.2
    rw [htl] at K1
    have HK1 := Lib.hid K1
    have HC := Lib.hid hcx
    have hsl := Crc.sumN_lt (x.take n)
    obtain ⟨s, hs⟩ : ∃ s, Crc.sumN (x.take n) = s := ⟨_, rfl⟩
    have HYES : Hid ((∀ j, j < 4 → x[n + j]? = (be4 s)[j]?) → summedB x = true) := Lib.hid (fun hq => summedB_yes (by omega) (by rw [show x.length - 4 = n by omega, hs]; exact hq))
    have HNO : Hid (∀ j, x[n + j]? ≠ (be4 s)[j]? → summedB x = false) := Lib.hid (fun j hq => summedB_no j (by rw [show x.length - 4 = n by omega, hs]; exact hq))
    rw [hs] at HK1 hsl
    have HS := Lib.hid (fun (i : Nat) (y : UInt8) w => sumByteO s i y w hsl)
    have HN := Lib.hid hn
    obtain ⟨m, hm⟩ : ∃ m, x.length = m := ⟨_, rfl⟩
    rw [hm] at hn hc hl ⊢
    subst hn
    have HM := Lib.hid hm
    clear h hcx htl K1 hs hsl hm hT h4
    have h4' : ¬ ((n : Int) + 4 - 4 < 0) := by omega
    go_enter Tryz.func70, Tryz.ntmps70
    go_wp2_with fail
    refine HK1.out.mono ?_
    rintro e w1 ⟨rfl, rfl⟩
    go_wp2
    go_loopw [15] (fun v wx => Hid (Below w1.heap.size w1 wx) ∧ ∃ k : Nat, v = .int .i64 k ∧ k ≤ 4 ∧ Hid (∀ j, j < k → x[n + j]? = (be4 s)[j]?)) (fun v _ => 4 - (intOf v).toNat)
    case atStart => exact ⟨Lib.hid (Below.refl _ _), 0, rfl, by omega, Lib.hid (fun j hj => by omega)⟩
    case round =>
      obtain ⟨B, k, rfl, hk, I⟩ := hrel
      by_cases hk4 : k < 4
      · have hk4' : (k : Int) < 4 := by omega
        obtain ⟨y, hy⟩ : ∃ y, (be4 s)[k]? = some y := ⟨_, List.getElem?_eq_getElem (by rw [be4_length]; exact hk4)⟩
        obtain ⟨z, hz⟩ : ∃ z, x[n + k]? = some z := ⟨_, List.getElem?_eq_getElem (by rw [HN.out]; omega)⟩
        have K3 := Lib.hid (fun w => HS.out k y w hy)
        have hcell : wr.drew.cell? ⟨g, o + (n + k), none⟩ = some (.int .u8 z.toNat) := (B.out.drew.cell (p := ⟨g, o + (n + k), none⟩) hg).trans (HC.out (n + k) z hz)
        have BD := Lib.hid B.out.drew
        have hnk : ((n : Int) + (k : Int)).toNat = n + k := by omega
        have hwk : IntKind.i64.wrap ((n : Int) + (k : Int)) = (n : Int) + (k : Int) := IntWalk.i64_in _ (by omega)
        have hnk0 : (0 : Int) ≤ (n : Int) + (k : Int) := by omega
        have hnk1 : (n : Int) + (k : Int) < (n : Int) + 4 := by omega
        have HY := Lib.hid hy
        have HZ := Lib.hid hz
        clear hy hz
        by_cases hzy : z = y
        · subst hzy
          have I2 : Hid (∀ j, j < k + 1 → x[n + j]? = (be4 s)[j]?) := Lib.hid (fun j hj => by
            rcases Nat.lt_or_ge j k with h | h
            · exact I.out j h
            · obtain rfl : j = k := by omega
              rw [HY.out, HZ.out])
          go_wp2
          go_region_law (go_simp; go_at_call 128; refine (K3.out _).mono ?_; rintro e w3 ⟨rfl, rfl⟩; dsimp only)
          go_wp2
          all_goals first
            | (exfalso; rename_i h; simp at h; done)
            | (refine ⟨⟨BD, k + 1, by go_num, by omega, I2⟩, ?_⟩; simp [intOf]; omega)
            | (go_roundw; (case rel => exact ⟨BD, k + 1, by go_num, by omega, I2⟩); (case measure => simp [intOf]; omega))
        · have hzy' : ¬ ((z.toNat : Int) = (y.toNat : Int)) := by
            intro h
            exact hzy (UInt8.toNat_inj.1 (by omega))
          have HF := Lib.hid (HNO.out k (by rw [HY.out, HZ.out]; intro h; exact hzy (Option.some.inj h)))
          go_wp2
          go_region_law (go_simp; go_at_call 128; refine (K3.out _).mono ?_; rintro e w3 ⟨rfl, rfl⟩; dsimp only)
          go_wp2
          all_goals first
            | (exfalso; rename_i h; simp at h; exact hzy h)
            | (go_ret; exact ⟨by rw [HF.out]; rfl, BD.out⟩)
            | skip
      · have hk4' : ¬ (k : Int) < 4 := by omega
        obtain rfl : k = 4 := by omega
        have HT := Lib.hid (HYES.out I.out)
        go_wp2
        go_ret
        exact ⟨by rw [HT.out]; rfl, B.out⟩

end Go.Proofs.YtkmbgehknpefiaaGreatDoor
