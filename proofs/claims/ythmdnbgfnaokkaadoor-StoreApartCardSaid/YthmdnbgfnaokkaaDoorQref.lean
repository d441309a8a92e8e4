/-
  The document's store: where a key stands, by a contract. Condition: its list lies in memory.
-/
import Derived.Test.YthmdnbgfnaokkaaDoorQsrt
namespace Go.Proofs.YthmdnbgfnaokkaaDoor
set_option linter.unusedSimpArgs false
set_option linter.unusedVariables false
open Go.RowKit

theorem less_cmp : ∀ a b : List UInt8, Op.bytesLess a b = decide (Lib.compareBytes a b < 0)
  | [], [] => by simp [Op.bytesLess, Lib.compareBytes]
  | [], _ :: _ => by simp [Op.bytesLess, Lib.compareBytes]
  | _ :: _, [] => by simp [Op.bytesLess, Lib.compareBytes]
  | a :: p, b :: q => by
    have ih := less_cmp p q
    simp only [Op.bytesLess, Lib.compareBytes, ih]
    by_cases h1 : a < b
    · simp [h1]
    · by_cases h2 : b < a
      · have : a ≠ b := fun e => by rw [e] at h2; exact absurd h2 (by simp [UInt8.lt_iff_toNat_lt])
        simp [h1, h2, this]
      · have : a = b := UInt8.toNat_inj.1 (by simp only [UInt8.lt_iff_toNat_lt] at h1 h2; omega)
        simp [h1, h2, this]
/-- where a key stands, or would. -/
def fndW : List W3 → ByteArray → Nat
  | [], _ => 0
  | y :: L, k => if Op.bytesLess y.key.toList k.toList = true then fndW L k + 1 else 0
def atW (L : List W3) (k : ByteArray) : Bool := match L[fndW L k]? with
  | some y => decide (y.key = k)
  | none => false
theorem fndW_le (k : ByteArray) : ∀ L : List W3, fndW L k ≤ L.length
  | [] => Nat.le_refl _
  | y :: L => by
    unfold fndW
    split
    · have := fndW_le k L
      rw [List.length_cons]; omega
    · omega
theorem fndW_yes {k : ByteArray} : ∀ {L : List W3} {i : Nat} {y : W3}, i ≤ fndW L k → L[i]? = some y → Op.bytesLess y.key.toList k.toList = true → i + 1 ≤ fndW L k
  | [], i, y, _, h, _ => by simp at h
  | a :: L, 0, y, _, h, hl => by
    simp at h
    subst h
    unfold fndW
    rw [if_pos hl]
    omega
  | a :: L, i + 1, y, hi, h, hl => by
    unfold fndW at hi ⊢
    split at hi
    · rename_i ha
      rw [if_pos ha]
      have := fndW_yes (L := L) (i := i) (y := y) (by omega) (by simpa using h) hl
      omega
    · omega
theorem fndW_no {k : ByteArray} : ∀ {L : List W3} {i : Nat} {y : W3}, i ≤ fndW L k → L[i]? = some y → Op.bytesLess y.key.toList k.toList = false → i = fndW L k
  | [], i, y, _, h, _ => by simp at h
  | a :: L, 0, y, _, h, hl => by
    simp at h
    subst h
    unfold fndW
    rw [if_neg (by simp [hl])]
  | a :: L, i + 1, y, hi, h, hl => by
    unfold fndW at hi ⊢
    split at hi
    · rename_i ha
      rw [if_pos ha]
      have := fndW_no (L := L) (i := i) (y := y) (by omega) (by simpa using h) hl
      omega
    · omega

set_option maxRecDepth 100000 in
set_option maxHeartbeats 4000000 in
theorem findR (rb : Nat) (A : Option Addr) (L : List W3) (c : Nat) (key : ByteArray) (w : World) (h0 : w.cell? ⟨rb, 0, none⟩ = some (.slice A L.length c)) (hr : RowsW w w.heap.size A L) (hc : L.length ≤ c) (hm : c ≤ maxLen) :
    Calls Tryd.prog 68 #[.pointer (some ⟨rb, 0, none⟩), .string key] w fun e w' => e = .returned (.tuple #[.int .i64 (fndW L key), .bool (atW L key)]) ∧ Below w.heap.size w w' := by
  unfold maxLen at hm
  have hci : (L.length : Int) ≤ (c : Int) := by omega
  have hle := fndW_le key L
  go_enter Tryd.func68, Tryd.ntmps68
  go_wp2
  go_loop [6] (fun i => ∃ k : Nat, k ≤ fndW L key ∧ i = .int .i64 k) (fun i => L.length - (intOf i).toNat)
  case atStart => exact ⟨0, Nat.zero_le _, rfl⟩
  case round =>
    obtain ⟨k, hk, rfl⟩ := hrel
    by_cases hlt : k < L.length
    · obtain ⟨b, o, rfl, hb, C⟩ := hr.at_ hlt
      have hx : L[k]? = some L[k] := List.getElem?_eq_getElem hlt
      have HX := Lib.hid hx
      generalize L[k] = x at *
      obtain ⟨q0, q1, q2⟩ := C
      clear hx
      have hji : (k : Int) < (L.length : Int) := by omega
      have hj0 : (0 : Int) ≤ (k : Int) := by omega
      cases hb : Op.bytesLess x.key.toList key.toList with
      | true =>
        have hy := Lib.hid (fndW_yes hk HX.out hb)
        go_wp2
        go_round
        case rel => exact ⟨k + 1, hy.out, by go_num⟩
        case measure => simp [intOf]; omega
      | false =>
        have hy := fndW_no hk HX.out hb
        have ea : atW L key = decide (x.key = key) := by unfold atW; rw [← hy, HX.out]
        have EA := Lib.hid ea
        have HY := Lib.hid hy
        clear hy ea
        have hke : (x.key.toList == key.toList) = decide (x.key = key) := by
          by_cases e : x.key = key
          · simp [e]
          · simp [e, toList_injW]
        go_wp2
        go_quiet (fail)
        go_wp2
        go_ret2
        exact ⟨by rw [HY.out, EA.out]; rfl, Below.drewsN (Below.refl _ _)⟩
    · have hkk : k = L.length := by omega
      have hy : fndW L key = L.length := by omega
      have ea : atW L key = false := by unfold atW; rw [hy]; simp
      have EA := Lib.hid ea
      have HY := Lib.hid hy
      clear hy ea
      subst hkk
      go_wp2
      go_quiet (fail)
      go_wp2
      go_ret2
      exact ⟨by rw [HY.out, EA.out]; rfl, Below.drewsN (Below.refl _ _)⟩

end Go.Proofs.YthmdnbgfnaokkaaDoor
