/-
  The program's Sum: by exact answers. Condition: the bytes lie in memory, the table as its initialiser lays it.
-/
import Derived.Test.YtkmbgehknpefiaaGreatDoorOwy
import Derived.Test.YtkmbgehknpefiaaGreatDoorOcb
import Derived.Test.YtkmbgehknpefiaaGreatDoorOdu
import Derived.Laws.BitsAllLaws
namespace Go.Proofs.YtkmbgehknpefiaaGreatDoor
set_option linter.unusedSimpArgs false
set_option linter.unusedVariables false
open Go.RowKit

theorem ones_xor32 (a : Nat) (h : a < 4294967296) : 4294967295 ^^^ a = 4294967295 - a := by
  have e := congrArg BitVec.toNat (BitVec.allOnes_xor (x := BitVec.ofNat 32 a))
  rw [BitVec.toNat_xor, BitVec.toNat_not, BitVec.toNat_ofNat, BitVec.toNat_allOnes, Nat.mod_eq_of_lt (by omega)] at e
  exact e

set_option maxRecDepth 100000 in
set_option maxHeartbeats 1000000 in
theorem sumO (A : Option Addr) (L : List UInt8) (c : Nat) (W : World) (h : BytesAt W W.heap.size A L) (hl : L.length ≤ 140737488355328) (hT : ∀ j, j < 16 → W.cell? ⟨1, j, none⟩ = some (.int .u32 (Crc.tab j))) :
    Calls Tryz.prog 127 #[.slice A L.length c] W fun e W' => e = .returned (.int .u32 (Crc.sumN L)) ∧ W' = W := by
  go_enter Tryz.func127, Tryz.ntmps127
  go_wp2
  go_loopw [3, 8] (fun x y wx => wx = W ∧ ∃ (s k : Nat), x = .int .u32 s ∧ y = .int .i64 k ∧ k ≤ L.length ∧ s < 4294967296 ∧ Hid (Crc.crcN 4294967295 L = Crc.crcN s (L.drop k))) (fun _ y _ => L.length - (intOf y).toNat)
  case atStart => exact ⟨rfl, 4294967295, 0, rfl, rfl, by omega, by omega, Lib.hid rfl⟩
  case round =>
    obtain ⟨rfl, s, k, rfl, rfl, hk, hs, HN⟩ := hrel
    have hk0 : (0 : Int) ≤ (k : Int) := by omega
    by_cases hkl : k < L.length
    · have hkl' : (k : Int) < (L.length : Int) := by omega
      obtain ⟨g, o, rfl, hg0, hc⟩ := h (by intro e; rw [e] at hkl; simp at hkl)
      obtain ⟨x, hx⟩ : ∃ x, L[k]? = some x := ⟨_, List.getElem?_eq_getElem hkl⟩
      obtain ⟨n, hn⟩ : ∃ n, x.toNat = n := ⟨_, rfl⟩
      have hn8 : n < 256 := by rw [← hn]; exact x.toNat_lt
      have hcx : wr.cell? ⟨g, o + k, none⟩ = some (.int .u8 n) := by rw [← hn]; exact hc k x hx
      obtain ⟨s1, hs1⟩ : ∃ s1, s ^^^ n * 16777216 = s1 := ⟨_, rfl⟩
      have l1 : s1 < 4294967296 := by rw [← hs1]; exact Crc.xc_lt s n hs hn8
      have e1 : bits BinOp.xor IntKind.u32 (s : Int) ((n : Int) * 16777216) = ((s1 : Nat) : Int) := by
        rw [← hs1, show ((n : Int) * 16777216) = ((n * 16777216 : Nat) : Int) by omega, u32_xor_nat _ _ hs (by omega)]
      obtain ⟨s2, hs2⟩ : ∃ s2, Crc.nib s1 = s2 := ⟨_, rfl⟩
      have l2 : s2 < 4294967296 := by rw [← hs2]; exact Crc.nib_lt s1 l1
      obtain ⟨s3, hs3⟩ : ∃ s3, Crc.nib s2 = s3 := ⟨_, rfl⟩
      have l3 : s3 < 4294967296 := by rw [← hs3]; exact Crc.nib_lt s2 l2
      obtain ⟨t1, ht1⟩ : ∃ t1, Crc.tab (s1 / 268435456) = t1 := ⟨_, rfl⟩
      obtain ⟨t2, ht2⟩ : ∃ t2, Crc.tab (s2 / 268435456) = t2 := ⟨_, rfl⟩
      have lt1 : t1 < 4294967296 := by rw [← ht1]; exact Crc.tab_lt _
      have lt2 : t2 < 4294967296 := by rw [← ht2]; exact Crc.tab_lt _
      have n1 : ((s1 : Int) / 268435456).toNat = s1 / 268435456 := by omega
      have n2 : ((s2 : Int) / 268435456).toNat = s2 / 268435456 := by omega
      have ct1 : wr.cell? ⟨1, s1 / 268435456, none⟩ = some (.int .u32 t1) := by rw [← ht1]; exact hT _ (by omega)
      have ct2 : wr.cell? ⟨1, s2 / 268435456, none⟩ = some (.int .u32 t2) := by rw [← ht2]; exact hT _ (by omega)
      have e2 : bits BinOp.xor IntKind.u32 ((s1 : Int) * 16 % 4294967296) (t1 : Int) = ((s2 : Nat) : Int) := by
        rw [← hs2, show ((s1 : Int) * 16 % 4294967296) = ((s1 * 16 % 4294967296 : Nat) : Int) by omega, u32_xor_nat _ _ (by omega) lt1, ← ht1]
        rfl
      have e3 : bits BinOp.xor IntKind.u32 ((s2 : Int) * 16 % 4294967296) (t2 : Int) = ((s3 : Nat) : Int) := by
        rw [← hs3, show ((s2 : Int) * 16 % 4294967296) = ((s2 * 16 % 4294967296 : Nat) : Int) by omega, u32_xor_nat _ _ (by omega) lt2, ← ht2]
        rfl
      have HC : Hid (Crc.crcN 4294967295 L = Crc.crcN s3 (L.drop (k + 1))) := Lib.hid (by
        rw [HN.out, drop_cons_of hx]
        show Crc.crcN (Crc.cbN s x.toNat) _ = _
        unfold Crc.cbN
        rw [hn, hs1, hs2, hs3])
      clear hT hc hx hn hs1 hs2 hs3 ht1 ht2 h HN
      go_wp2
      go_roundw
      case rel => exact ⟨by trivial, s3, k + 1, rfl, by go_num, by omega, l3, HC⟩
      case measure => simp [intOf]; omega
    · have hkl' : ¬ (k : Int) < (L.length : Int) := by omega
      have hd : L.drop k = [] := List.drop_eq_nil_of_le (by omega)
      rw [hd] at HN
      have HS : Hid (Crc.sumN L = 4294967295 - s) := Lib.hid (by unfold Crc.sumN; rw [HN.out]; rfl)
      go_wp2
      go_ret
      refine ⟨?_, rfl⟩
      have e : bits BinOp.xor IntKind.u32 IntKind.u32.max (s : Int) = ((4294967295 - s : Nat) : Int) := by
        rw [show IntKind.u32.max = ((4294967295 : Nat) : Int) from rfl, u32_xor_nat _ _ (by decide) hs, ones_xor32 s hs]
      rw [HS.out, ← e]
      rfl

end Go.Proofs.YtkmbgehknpefiaaGreatDoor
