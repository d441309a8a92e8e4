/-
  The document's Sum: by exact answers. Condition: the bytes lie in memory.
-/
import Derived.Test.YtkmbgehknpefiaaGreatDoorOsm
namespace Go.Proofs.YtkmbgehknpefiaaGreatDoor
set_option linter.unusedSimpArgs false
set_option linter.unusedVariables false
open Go.RowKit

set_option maxRecDepth 100000 in
set_option maxHeartbeats 1000000 in
theorem dSum (A : Option Addr) (L : List UInt8) (c : Nat) (W : World) (h : BytesAt W W.heap.size A L) (hl : L.length ≤ 140737488355328) :
    Calls Tryz.prog 72 #[.slice A L.length c] W fun e W' => e = .returned (.int .u32 (Crc.sumN L)) ∧ W' = W := by
  go_enter Tryz.func72, Tryz.ntmps72
  go_wp2
  go_loopw [3, 4] (fun x y wx => wx = W ∧ ∃ (s k : Nat), x = .int .u32 s ∧ y = .int .i64 k ∧ k ≤ L.length ∧ s < 4294967296 ∧ Hid (Crc.crcN 4294967295 L = Crc.crcN s (L.drop k))) (fun _ y _ => L.length - (intOf y).toNat)
  case atStart => exact ⟨rfl, 4294967295, 0, rfl, rfl, by omega, by omega, Lib.hid rfl⟩
  case round =>
    obtain ⟨rfl, s, k, rfl, rfl, hk, hs, HN⟩ := hrel
    have hk0 : (0 : Int) ≤ (k : Int) := by omega
    by_cases hkl : k < L.length
    · have hkl' : (k : Int) < (L.length : Int) := by omega
      obtain ⟨g, o, rfl, hg0, hc⟩ := h (by intro e; rw [e] at hkl; simp at hkl)
      obtain ⟨xb, hx⟩ : ∃ x, L[k]? = some x := ⟨_, List.getElem?_eq_getElem hkl⟩
      obtain ⟨n, hn⟩ : ∃ n, xb.toNat = n := ⟨_, rfl⟩
      have hn8 : n < 256 := by rw [← hn]; exact xb.toNat_lt
      have hcx : wr.cell? ⟨g, o + k, none⟩ = some (.int .u8 n) := by rw [← hn]; exact hc k xb hx
      have HXL := Lib.hid hx
      have HXN := Lib.hid hn
      clear h hc hx hn
      go_wp2
      go_loopw [3, 5] (fun x y wx => wx = wr ∧ ∃ (x' j : Nat), x = .int .u32 x' ∧ y = .int .i64 (7 - (j : Int)) ∧ j ≤ 8 ∧ x' < 4294967296 ∧ Hid (Crc.bitsN s n j = x')) (fun _ y _ => (intOf y + 1).toNat)
      case atStart => exact ⟨by trivial, s, 0, rfl, rfl, by omega, hs, Lib.hid rfl⟩
      case round =>
        obtain ⟨rfl, x, j, rfl, rfl, hj8, hxl, HX⟩ := hrel
        rcases (show j = 0 ∨ j = 1 ∨ j = 2 ∨ j = 3 ∨ j = 4 ∨ j = 5 ∨ j = 6 ∨ j = 7 ∨ j = 8 by omega) with rfl | rfl | rfl | rfl | rfl | rfl | rfl | rfl | rfl
        · have hxo : bits BinOp.xor IntKind.u32 ((x : Int) * 2 % 4294967296) 79764919 = ((x * 2 % 4294967296 ^^^ 79764919 : Nat) : Int) := by
            rw [show ((x : Int) * 2 % 4294967296) = ((x * 2 % 4294967296 : Nat) : Int) by omega]
            exact u32_xor_nat _ 79764919 (by omega) (by omega)
          have HXO := Lib.hid hxo
          clear hxo
          go_wp2
          · have hq : ((n : Int) / 128 % 2 != (x : Int) / 2147483648) = true := by assumption
            have hb : ¬ n / 128 % 2 = x / 2147483648 := by simp at hq; omega
            have HC : Hid (Crc.bitsN s n 1 = x * 2 % 4294967296 ^^^ 79764919) := Lib.hid (by
              show Crc.bitN (Crc.bitsN s n 0) (n / 2 ^ 7 % 2) = _
              rw [HX.out]
              unfold Crc.bitN
              rw [if_neg hb])
            have hlt2 : x * 2 % 4294967296 ^^^ 79764919 < 4294967296 := Nat.xor_lt_two_pow (n := 32) (by omega) (by omega)
            go_roundw
            case rel => exact ⟨by trivial, x * 2 % 4294967296 ^^^ 79764919, 1, by rw [HXO.out], by rfl, by omega, hlt2, HC⟩
            case measure => simp [intOf]
          · have hq : ((n : Int) / 128 % 2 != (x : Int) / 2147483648) = false := by assumption
            have hb : n / 128 % 2 = x / 2147483648 := by simp at hq; omega
            have HC : Hid (Crc.bitsN s n 1 = x * 2 % 4294967296) := Lib.hid (by
              show Crc.bitN (Crc.bitsN s n 0) (n / 2 ^ 7 % 2) = _
              rw [HX.out]
              unfold Crc.bitN
              rw [if_pos hb])
            go_roundw
            case rel => exact ⟨by trivial, x * 2 % 4294967296, 1, by go_num, by rfl, by omega, by omega, HC⟩
            case measure => simp [intOf]
        · have hxo : bits BinOp.xor IntKind.u32 ((x : Int) * 2 % 4294967296) 79764919 = ((x * 2 % 4294967296 ^^^ 79764919 : Nat) : Int) := by
            rw [show ((x : Int) * 2 % 4294967296) = ((x * 2 % 4294967296 : Nat) : Int) by omega]
            exact u32_xor_nat _ 79764919 (by omega) (by omega)
          have HXO := Lib.hid hxo
          clear hxo
          go_wp2
          · have hq : ((n : Int) / 64 % 2 != (x : Int) / 2147483648) = true := by assumption
            have hb : ¬ n / 64 % 2 = x / 2147483648 := by simp at hq; omega
            have HC : Hid (Crc.bitsN s n 2 = x * 2 % 4294967296 ^^^ 79764919) := Lib.hid (by
              show Crc.bitN (Crc.bitsN s n 1) (n / 2 ^ 6 % 2) = _
              rw [HX.out]
              unfold Crc.bitN
              rw [if_neg hb])
            have hlt2 : x * 2 % 4294967296 ^^^ 79764919 < 4294967296 := Nat.xor_lt_two_pow (n := 32) (by omega) (by omega)
            go_roundw
            case rel => exact ⟨by trivial, x * 2 % 4294967296 ^^^ 79764919, 2, by rw [HXO.out], by rfl, by omega, hlt2, HC⟩
            case measure => simp [intOf]
          · have hq : ((n : Int) / 64 % 2 != (x : Int) / 2147483648) = false := by assumption
            have hb : n / 64 % 2 = x / 2147483648 := by simp at hq; omega
            have HC : Hid (Crc.bitsN s n 2 = x * 2 % 4294967296) := Lib.hid (by
              show Crc.bitN (Crc.bitsN s n 1) (n / 2 ^ 6 % 2) = _
              rw [HX.out]
              unfold Crc.bitN
              rw [if_pos hb])
            go_roundw
            case rel => exact ⟨by trivial, x * 2 % 4294967296, 2, by go_num, by rfl, by omega, by omega, HC⟩
            case measure => simp [intOf]
        · have hxo : bits BinOp.xor IntKind.u32 ((x : Int) * 2 % 4294967296) 79764919 = ((x * 2 % 4294967296 ^^^ 79764919 : Nat) : Int) := by
            rw [show ((x : Int) * 2 % 4294967296) = ((x * 2 % 4294967296 : Nat) : Int) by omega]
            exact u32_xor_nat _ 79764919 (by omega) (by omega)
          have HXO := Lib.hid hxo
          clear hxo
          go_wp2
          · have hq : ((n : Int) / 32 % 2 != (x : Int) / 2147483648) = true := by assumption
            have hb : ¬ n / 32 % 2 = x / 2147483648 := by simp at hq; omega
            have HC : Hid (Crc.bitsN s n 3 = x * 2 % 4294967296 ^^^ 79764919) := Lib.hid (by
              show Crc.bitN (Crc.bitsN s n 2) (n / 2 ^ 5 % 2) = _
              rw [HX.out]
              unfold Crc.bitN
              rw [if_neg hb])
            have hlt2 : x * 2 % 4294967296 ^^^ 79764919 < 4294967296 := Nat.xor_lt_two_pow (n := 32) (by omega) (by omega)
            go_roundw
            case rel => exact ⟨by trivial, x * 2 % 4294967296 ^^^ 79764919, 3, by rw [HXO.out], by rfl, by omega, hlt2, HC⟩
            case measure => simp [intOf]
          · have hq : ((n : Int) / 32 % 2 != (x : Int) / 2147483648) = false := by assumption
            have hb : n / 32 % 2 = x / 2147483648 := by simp at hq; omega
            have HC : Hid (Crc.bitsN s n 3 = x * 2 % 4294967296) := Lib.hid (by
              show Crc.bitN (Crc.bitsN s n 2) (n / 2 ^ 5 % 2) = _
              rw [HX.out]
              unfold Crc.bitN
              rw [if_pos hb])
            go_roundw
            case rel => exact ⟨by trivial, x * 2 % 4294967296, 3, by go_num, by rfl, by omega, by omega, HC⟩
            case measure => simp [intOf]
        · have hxo : bits BinOp.xor IntKind.u32 ((x : Int) * 2 % 4294967296) 79764919 = ((x * 2 % 4294967296 ^^^ 79764919 : Nat) : Int) := by
            rw [show ((x : Int) * 2 % 4294967296) = ((x * 2 % 4294967296 : Nat) : Int) by omega]
            exact u32_xor_nat _ 79764919 (by omega) (by omega)
          have HXO := Lib.hid hxo
          clear hxo
          go_wp2
          · have hq : ((n : Int) / 16 % 2 != (x : Int) / 2147483648) = true := by assumption
            have hb : ¬ n / 16 % 2 = x / 2147483648 := by simp at hq; omega
            have HC : Hid (Crc.bitsN s n 4 = x * 2 % 4294967296 ^^^ 79764919) := Lib.hid (by
              show Crc.bitN (Crc.bitsN s n 3) (n / 2 ^ 4 % 2) = _
              rw [HX.out]
              unfold Crc.bitN
              rw [if_neg hb])
            have hlt2 : x * 2 % 4294967296 ^^^ 79764919 < 4294967296 := Nat.xor_lt_two_pow (n := 32) (by omega) (by omega)
            go_roundw
            case rel => exact ⟨by trivial, x * 2 % 4294967296 ^^^ 79764919, 4, by rw [HXO.out], by rfl, by omega, hlt2, HC⟩
            case measure => simp [intOf]
          · have hq : ((n : Int) / 16 % 2 != (x : Int) / 2147483648) = false := by assumption
            have hb : n / 16 % 2 = x / 2147483648 := by simp at hq; omega
            have HC : Hid (Crc.bitsN s n 4 = x * 2 % 4294967296) := Lib.hid (by
              show Crc.bitN (Crc.bitsN s n 3) (n / 2 ^ 4 % 2) = _
              rw [HX.out]
              unfold Crc.bitN
              rw [if_pos hb])
            go_roundw
            case rel => exact ⟨by trivial, x * 2 % 4294967296, 4, by go_num, by rfl, by omega, by omega, HC⟩
            case measure => simp [intOf]
        · have hxo : bits BinOp.xor IntKind.u32 ((x : Int) * 2 % 4294967296) 79764919 = ((x * 2 % 4294967296 ^^^ 79764919 : Nat) : Int) := by
            rw [show ((x : Int) * 2 % 4294967296) = ((x * 2 % 4294967296 : Nat) : Int) by omega]
            exact u32_xor_nat _ 79764919 (by omega) (by omega)
          have HXO := Lib.hid hxo
          clear hxo
          go_wp2
          · have hq : ((n : Int) / 8 % 2 != (x : Int) / 2147483648) = true := by assumption
            have hb : ¬ n / 8 % 2 = x / 2147483648 := by simp at hq; omega
            have HC : Hid (Crc.bitsN s n 5 = x * 2 % 4294967296 ^^^ 79764919) := Lib.hid (by
              show Crc.bitN (Crc.bitsN s n 4) (n / 2 ^ 3 % 2) = _
              rw [HX.out]
              unfold Crc.bitN
              rw [if_neg hb])
            have hlt2 : x * 2 % 4294967296 ^^^ 79764919 < 4294967296 := Nat.xor_lt_two_pow (n := 32) (by omega) (by omega)
            go_roundw
            case rel => exact ⟨by trivial, x * 2 % 4294967296 ^^^ 79764919, 5, by rw [HXO.out], by rfl, by omega, hlt2, HC⟩
            case measure => simp [intOf]
          · have hq : ((n : Int) / 8 % 2 != (x : Int) / 2147483648) = false := by assumption
            have hb : n / 8 % 2 = x / 2147483648 := by simp at hq; omega
            have HC : Hid (Crc.bitsN s n 5 = x * 2 % 4294967296) := Lib.hid (by
              show Crc.bitN (Crc.bitsN s n 4) (n / 2 ^ 3 % 2) = _
              rw [HX.out]
              unfold Crc.bitN
              rw [if_pos hb])
            go_roundw
            case rel => exact ⟨by trivial, x * 2 % 4294967296, 5, by go_num, by rfl, by omega, by omega, HC⟩
            case measure => simp [intOf]
        · have hxo : bits BinOp.xor IntKind.u32 ((x : Int) * 2 % 4294967296) 79764919 = ((x * 2 % 4294967296 ^^^ 79764919 : Nat) : Int) := by
            rw [show ((x : Int) * 2 % 4294967296) = ((x * 2 % 4294967296 : Nat) : Int) by omega]
            exact u32_xor_nat _ 79764919 (by omega) (by omega)
          have HXO := Lib.hid hxo
          clear hxo
          go_wp2
          · have hq : ((n : Int) / 4 % 2 != (x : Int) / 2147483648) = true := by assumption
            have hb : ¬ n / 4 % 2 = x / 2147483648 := by simp at hq; omega
            have HC : Hid (Crc.bitsN s n 6 = x * 2 % 4294967296 ^^^ 79764919) := Lib.hid (by
              show Crc.bitN (Crc.bitsN s n 5) (n / 2 ^ 2 % 2) = _
              rw [HX.out]
              unfold Crc.bitN
              rw [if_neg hb])
            have hlt2 : x * 2 % 4294967296 ^^^ 79764919 < 4294967296 := Nat.xor_lt_two_pow (n := 32) (by omega) (by omega)
            go_roundw
            case rel => exact ⟨by trivial, x * 2 % 4294967296 ^^^ 79764919, 6, by rw [HXO.out], by rfl, by omega, hlt2, HC⟩
            case measure => simp [intOf]
          · have hq : ((n : Int) / 4 % 2 != (x : Int) / 2147483648) = false := by assumption
            have hb : n / 4 % 2 = x / 2147483648 := by simp at hq; omega
            have HC : Hid (Crc.bitsN s n 6 = x * 2 % 4294967296) := Lib.hid (by
              show Crc.bitN (Crc.bitsN s n 5) (n / 2 ^ 2 % 2) = _
              rw [HX.out]
              unfold Crc.bitN
              rw [if_pos hb])
            go_roundw
            case rel => exact ⟨by trivial, x * 2 % 4294967296, 6, by go_num, by rfl, by omega, by omega, HC⟩
            case measure => simp [intOf]
        · have hxo : bits BinOp.xor IntKind.u32 ((x : Int) * 2 % 4294967296) 79764919 = ((x * 2 % 4294967296 ^^^ 79764919 : Nat) : Int) := by
            rw [show ((x : Int) * 2 % 4294967296) = ((x * 2 % 4294967296 : Nat) : Int) by omega]
            exact u32_xor_nat _ 79764919 (by omega) (by omega)
          have HXO := Lib.hid hxo
          clear hxo
          go_wp2
          · have hq : ((n : Int) / 2 % 2 != (x : Int) / 2147483648) = true := by assumption
            have hb : ¬ n / 2 % 2 = x / 2147483648 := by simp at hq; omega
            have HC : Hid (Crc.bitsN s n 7 = x * 2 % 4294967296 ^^^ 79764919) := Lib.hid (by
              show Crc.bitN (Crc.bitsN s n 6) (n / 2 ^ 1 % 2) = _
              rw [HX.out]
              unfold Crc.bitN
              rw [if_neg hb])
            have hlt2 : x * 2 % 4294967296 ^^^ 79764919 < 4294967296 := Nat.xor_lt_two_pow (n := 32) (by omega) (by omega)
            go_roundw
            case rel => exact ⟨by trivial, x * 2 % 4294967296 ^^^ 79764919, 7, by rw [HXO.out], by rfl, by omega, hlt2, HC⟩
            case measure => simp [intOf]
          · have hq : ((n : Int) / 2 % 2 != (x : Int) / 2147483648) = false := by assumption
            have hb : n / 2 % 2 = x / 2147483648 := by simp at hq; omega
            have HC : Hid (Crc.bitsN s n 7 = x * 2 % 4294967296) := Lib.hid (by
              show Crc.bitN (Crc.bitsN s n 6) (n / 2 ^ 1 % 2) = _
              rw [HX.out]
              unfold Crc.bitN
              rw [if_pos hb])
            go_roundw
            case rel => exact ⟨by trivial, x * 2 % 4294967296, 7, by go_num, by rfl, by omega, by omega, HC⟩
            case measure => simp [intOf]
        · have hxo : bits BinOp.xor IntKind.u32 ((x : Int) * 2 % 4294967296) 79764919 = ((x * 2 % 4294967296 ^^^ 79764919 : Nat) : Int) := by
            rw [show ((x : Int) * 2 % 4294967296) = ((x * 2 % 4294967296 : Nat) : Int) by omega]
            exact u32_xor_nat _ 79764919 (by omega) (by omega)
          have HXO := Lib.hid hxo
          clear hxo
          go_wp2
          · have hq : ((n : Int) % 2 != (x : Int) / 2147483648) = true := by assumption
            have hb : ¬ n / 1 % 2 = x / 2147483648 := by simp at hq; omega
            have HC : Hid (Crc.bitsN s n 8 = x * 2 % 4294967296 ^^^ 79764919) := Lib.hid (by
              show Crc.bitN (Crc.bitsN s n 7) (n / 2 ^ 0 % 2) = _
              rw [HX.out]
              unfold Crc.bitN
              rw [if_neg hb])
            have hlt2 : x * 2 % 4294967296 ^^^ 79764919 < 4294967296 := Nat.xor_lt_two_pow (n := 32) (by omega) (by omega)
            go_roundw
            case rel => exact ⟨by trivial, x * 2 % 4294967296 ^^^ 79764919, 8, by rw [HXO.out], by rfl, by omega, hlt2, HC⟩
            case measure => simp [intOf]
          · have hq : ((n : Int) % 2 != (x : Int) / 2147483648) = false := by assumption
            have hb : n / 1 % 2 = x / 2147483648 := by simp at hq; omega
            have HC : Hid (Crc.bitsN s n 8 = x * 2 % 4294967296) := Lib.hid (by
              show Crc.bitN (Crc.bitsN s n 7) (n / 2 ^ 0 % 2) = _
              rw [HX.out]
              unfold Crc.bitN
              rw [if_pos hb])
            go_roundw
            case rel => exact ⟨by trivial, x * 2 % 4294967296, 8, by go_num, by rfl, by omega, by omega, HC⟩
            case measure => simp [intOf]
        · have HC : Hid (Crc.crcN 4294967295 L = Crc.crcN x (L.drop (k + 1))) := Lib.hid (by
            rw [HN.out, drop_cons_of HXL.out]
            show Crc.crcN (Crc.cbN s _) _ = _
            rw [HXN.out, ← Crc.bits_all s n hs hn8, HX.out])
          go_wp2
          go_roundw
          case rel => exact ⟨by trivial, x, k + 1, rfl, by go_num, by omega, hxl, HC⟩
          case measure => simp [intOf]; omega
    · have hkl' : ¬ (k : Int) < (L.length : Int) := by omega
      have hd : L.drop k = [] := List.drop_eq_nil_of_le (by omega)
      rw [hd] at HN
      have HS : Hid (Crc.sumN L = 4294967295 - s) := Lib.hid (by unfold Crc.sumN; rw [HN.out]; rfl)
      go_wp2
      go_ret
      refine ⟨?_, rfl⟩
      rw [HS.out, show ((4294967295 - s : Nat) : Int) = 4294967295 - (s : Int) by omega]
      rfl

end Go.Proofs.YtkmbgehknpefiaaGreatDoor
