/-
  A Writer's numbers and texts; its bytes: by exact answers. Condition: the Writer is the caller's own; what was written takes at most 2^47 bytes.
-/
import Derived.Test.YtkmbgehknpefiaaGreatDoorOwr
import Derived.Laws.BitsAllLaws
namespace Go.Proofs.YtkmbgehknpefiaaGreatDoor
set_option linter.unusedSimpArgs false
set_option linter.unusedVariables false
open Go.RowKit

set_option maxRecDepth 100000 in
set_option maxHeartbeats 1000000 in
theorem wU (base b : Nat) (L : List UInt8) (n : Nat) (W : World) (h : WrAt base b L W) (hB : base ≤ W.heap.size) (hl : L.length + 10 ≤ 140737488355328) (hn : n < 18446744073709551616) :
    Calls Tryz.prog 80 #[.pointer (some ⟨b, 0, none⟩), .int .u64 n] W fun e W' => e = .returned (.tuple #[]) ∧ WrAt base b (L ++ putU n) W' ∧ Below base W W' ∧ KeepW b W W' := by
  obtain ⟨i0, hi, hz0, hz1, hz2⟩ := info_parts byteI
  go_enter Tryz.func80, Tryz.ntmps80
  go_wp2
  go_loopw [1] (fun x wx => ∃ (m k : Nat) (M : List UInt8), x = .int .u64 m ∧ m < 18446744073709551616 ∧ Hid (k ≤ 9 ∧ m < 2 ^ (64 - 7 * k) ∧ M.length = L.length + k) ∧ Hid (M ++ putU m = L ++ putU n) ∧ Hid (WrAt base b M wx) ∧ Hid (Below base W wx) ∧ Hid (KeepW b W wx)) (fun x _ => (intOf x).toNat)
  case atStart => exact ⟨n, 0, L, rfl, hn, Lib.hid ⟨by omega, by simpa using hn, rfl⟩, Lib.hid rfl, Lib.hid h, Lib.hid (Below.refl _ _), Lib.hid (KeepW.refl _ _)⟩
  case round =>
    clear h hn
    obtain ⟨m, k, M, rfl, hm, HK, HP, I, B, K⟩ := hrel
    obtain ⟨hb, v, bV, hrow⟩ := I.out
    have hBw : base ≤ wr.heap.size := Nat.le_trans hB B.out.size
    have hc := bV.cell
    have hm0 : (0 : Int) ≤ (m : Int) := by omega
    have hpl : M.length + 1 ≤ 140737488355328 := by rw [HK.out.2.2]; have := HK.out.1; omega
    by_cases hlt : m < 128
    · have hm2 : (m : Int) < 128 := by omega
      have HR := Lib.hid (hrow.alloc (.cells #[.int .u8 (m : Int)] 5))
      have HX := Lib.hid (show Lib.byteCells (M ++ [UInt8.ofNat m]) = Lib.byteCells M ++ [.int .u8 (m : Int)] by rw [Lib.byteCells_append]; simp only [Lib.byteCells, List.map_cons, List.map_nil]; rw [toNat_of (by omega)])
      have HQ : Hid (L ++ putU n = M ++ [UInt8.ofNat m]) := Lib.hid (by rw [← HP.out, putU_small hlt])
      have hwm : ((m : Int) % 256) = (m : Int) := by omega
      go_wp2_with (at_builtin
                   refine wpList_append_own _ rfl _ _ 41 rfl base 5 i0 (.int .u8 0) 1 1 Tryz.underlying41 hi hz0 hz1 hz2 rfl (by decide) _ _ _ rfl HR.out ⟨wr.heap.size, 0, none⟩ 1 1 [.int .u8 (m : Int)] rfl rfl (cell_one_new _ _ _) (by simp [Value.oneCell']) (by unfold maxLen; omega) (by omega) (by simp; omega) ?_
                   intro v' w1 hown' hgrow _
                   obtain ⟨g', cap', rfl⟩ := ownsRow_succ hown'
                   obtain ⟨hv1, hv2, hr2, hb2, hk2⟩ := wr_append hb bV hrow hBw hown' hgrow
                   have hc1 := hv1.cell
                   have hf1 := hv1.frozen
                   clear hown' hgrow)
      go_end0
      exact ⟨rfl, ⟨hb, _, hv2, by rw [HQ.out, HX.out, List.length_append]; exact hr2⟩, B.out.trans hb2, K.out.trans hk2⟩
    · have hm2 : (128 : Int) ≤ (m : Int) := by omega
      have hor : bits .or .u8 ((m : Int) % 256) 128 = ((m % 128 + 128 : Nat) : Int) := by
        have h1 : ((m : Int) % 256) = ((m % 256 : Nat) : Int) := by omega
        rw [h1, show (128 : Int) = ((128 : Nat) : Int) from rfl, u8_or_nat _ _ (by omega) (by omega)]
        congr 1
        have h2 : ∀ j : Fin 256, j.val ||| 128 = j.val % 128 + 128 := by decide
        have h3 := h2 ⟨m % 256, by omega⟩
        simp only at h3
        rw [h3]
        omega
      have HOR := Lib.hid hor
      have HR := Lib.hid (hrow.alloc (.cells #[.int .u8 (bits .or .u8 ((m : Int) % 256) 128)] 5))
      have HX := Lib.hid (show Lib.byteCells (M ++ [UInt8.ofNat (m % 128 + 128)]) = Lib.byteCells M ++ [.int .u8 (bits .or .u8 ((m : Int) % 256) 128)] by rw [Lib.byteCells_append, hor]; simp only [Lib.byteCells, List.map_cons, List.map_nil]; rw [toNat_of (by omega)])
      clear hor
      have HQ : Hid ((M ++ [UInt8.ofNat (m % 128 + 128)]) ++ putU (m / 128) = L ++ putU n) := Lib.hid (by rw [← HP.out, putU_big hlt, List.append_assoc]; rfl)
      have HKK : Hid (k + 1 ≤ 9 ∧ m / 128 < 2 ^ (64 - 7 * (k + 1)) ∧ (M ++ [UInt8.ofNat (m % 128 + 128)]).length = L.length + (k + 1)) := Lib.hid (by
        obtain ⟨hk9, hmk, hpk⟩ := HK.out
        have hk8 : k ≤ 8 := by
          rcases Nat.lt_or_ge k 9 with h | h
          · omega
          · have : k = 9 := by omega
            subst this
            simp at hmk
            omega
        refine ⟨by omega, ?_, by rw [List.length_append, hpk]; rfl⟩
        have e : 64 - 7 * k = 64 - 7 * (k + 1) + 7 := by omega
        rw [e, Nat.pow_add] at hmk
        exact Nat.div_lt_of_lt_mul (by rw [Nat.mul_comm]; exact hmk))
      go_wp2_with (at_builtin
                   refine wpList_append_own _ rfl _ _ 41 rfl base 5 i0 (.int .u8 0) 1 1 Tryz.underlying41 hi hz0 hz1 hz2 rfl (by decide) _ _ _ rfl HR.out ⟨wr.heap.size, 0, none⟩ 1 1 [.int .u8 (bits .or .u8 ((m : Int) % 256) 128)] rfl rfl (cell_one_new _ _ _) (by simp [Value.oneCell']) (by unfold maxLen; omega) (by omega) (by simp; omega) ?_
                   intro v' w1 hown' hgrow _
                   obtain ⟨g', cap', rfl⟩ := ownsRow_succ hown'
                   obtain ⟨hv1, hv2, hr2, hb2, hk2⟩ := wr_append hb bV hrow hBw hown' hgrow
                   have hc1 := hv1.cell
                   have hf1 := hv1.frozen
                   clear hown' hgrow)
      go_roundw
      case rel => exact ⟨m / 128, k + 1, M ++ [UInt8.ofNat (m % 128 + 128)], by go_num, by omega, HKK, HQ, Lib.hid ⟨hb, _, hv2, by rw [HX.out, List.length_append]; exact hr2⟩, Lib.hid (B.out.trans hb2), Lib.hid (K.out.trans hk2)⟩
      case measure => simp [intOf]; omega

end Go.Proofs.YtkmbgehknpefiaaGreatDoor
