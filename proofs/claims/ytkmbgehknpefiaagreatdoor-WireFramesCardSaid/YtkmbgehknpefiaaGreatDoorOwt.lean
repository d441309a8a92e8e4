/-
  A Writer's signed numbers, its texts; its bytes as a copy: by exact answers. Condition: the Writer is the caller's own; what was written takes at most 2^47 bytes.
-/
import Derived.Test.YtkmbgehknpefiaaGreatDoorOws
import Derived.Test.YtkmbgehknpefiaaGreatDoorOzg
namespace Go.Proofs.YtkmbgehknpefiaaGreatDoor
set_option linter.unusedSimpArgs false
set_option linter.unusedVariables false
open Go.RowKit

theorem putU_pos (v : Nat) : 0 < (putU v).length := by
  unfold putU
  split <;> simp
theorem putU_len : ∀ (k v : Nat), v < 128 ^ k → 0 < k → (putU v).length ≤ k := by
  intro k
  induction k with
  | zero => intro v _ h; omega
  | succ k ih =>
    intro v hv _
    by_cases h : v < 128
    · rw [putU_small h]; simp
    · rw [putU_big h, List.length_cons]
      have h0 : 0 < k := by
        rcases Nat.eq_zero_or_pos k with rfl | h0
        · simp at hv; omega
        · exact h0
      have := ih (v / 128) (Nat.div_lt_of_lt_mul (by rw [Nat.mul_comm, ← Nat.pow_succ]; exact hv)) h0
      omega
theorem putU_length (v : Nat) (h : v < 18446744073709551616) : (putU v).length ≤ 10 := putU_len 10 v (Nat.lt_trans h (by decide)) (by decide)
theorem ownsRow_pos {W : World} {base : Nat} {e : TypeId} {size : Nat} {v : Value} {k : Nat} {xs : List Value} (h : W.ownsRow base e size v k xs) (hk : 0 < k) : ∃ g cap, v = .slice (some ⟨g, 0, none⟩) k cap := by
  obtain ⟨k, rfl⟩ : ∃ j, k = j + 1 := ⟨k - 1, by omega⟩
  exact ownsRow_succ h
theorem zig_lt (v : Int) (h0 : -9223372036854775808 ≤ v) (h1 : v ≤ 9223372036854775807) : zig v < 18446744073709551616 := by
  unfold zig
  split <;> omega

set_option maxRecDepth 100000 in
set_option maxHeartbeats 1000000 in
theorem wI (base b : Nat) (L : List UInt8) (n : Int) (W : World) (h : WrAt base b L W) (hB : base ≤ W.heap.size) (hl : L.length + 10 ≤ 140737488355328) (h0 : -9223372036854775808 ≤ n) (h1 : n ≤ 9223372036854775807) :
    Calls Tryz.prog 176 #[.pointer (some ⟨b, 0, none⟩), .int .i64 n] W fun e W' => e = .returned (.tuple #[]) ∧ WrAt base b (L ++ putU (zig n)) W' ∧ Below base W W' ∧ KeepW b W W' := by
  have K1 := Lib.hid (fun w => zigO n w h0 h1)
  have K2 := Lib.hid (wU base b L (zig n) W h hB hl (zig_lt n h0 h1))
  clear h
  go_enter Tryz.func176, Tryz.ntmps176
  go_wp2_with fail
  refine (K1.out _).mono ?_
  rintro e w1 ⟨rfl, rfl⟩
  go_wp2_with fail
  refine K2.out.mono ?_
  rintro e w1 ⟨rfl, hw, hb, hk⟩
  go_wp2
  go_end0
  exact ⟨rfl, hw, hb, hk⟩

set_option maxRecDepth 100000 in
set_option maxHeartbeats 1000000 in
theorem wT (base b : Nat) (L T : List UInt8) (W : World) (h : WrAt base b L W) (hB : base ≤ W.heap.size) (hl : L.length + 10 + T.length ≤ 140737488355328) :
    Calls Tryz.prog 126 #[.pointer (some ⟨b, 0, none⟩), .string ⟨T.toArray⟩] W fun e W' => e = .returned (.tuple #[]) ∧ WrAt base b (L ++ putT T) W' ∧ Below base W W' ∧ KeepW b W W' := by
  obtain ⟨i0, hi, hz0, hz1, hz2⟩ := info_parts byteI
  have hT : T.length < 18446744073709551616 := by omega
  have hs : (ByteArray.mk T.toArray).size = T.length := by simp [ByteArray.size]
  have K2 := Lib.hid (wU base b L T.length W h hB (by omega) hT)
  clear h
  go_enter Tryz.func126, Tryz.ntmps126
  go_wp2_with fail
  refine K2.out.mono ?_
  rintro e w1 ⟨rfl, hw, hb1, hk1⟩
  obtain ⟨hb, v, bV, hrow⟩ := hw
  have hB1 : base ≤ w1.heap.size := Nat.le_trans hB hb1.size
  have hc := bV.cell
  have HX := Lib.hid (show Lib.byteCells (L ++ putT T) = Lib.byteCells (L ++ putU T.length) ++ Lib.strCells ⟨T.toArray⟩ by unfold putT; rw [← List.append_assoc, Lib.byteCells_append]; rfl)
  have HL := Lib.hid (show (L ++ putT T).length = (L ++ putU T.length).length + (ByteArray.mk T.toArray).size by unfold putT; rw [hs, ← List.append_assoc, List.length_append])
  have hpl : (L ++ putU T.length).length + (ByteArray.mk T.toArray).size ≤ 140737488355328 := by
    rw [hs, List.length_append]
    have := putU_length T.length hT
    omega
  go_wp2_with (at_builtin
               refine Lib.wpList_append_own_string _ rfl _ _ 41 9 rfl base 5 i0 Tryz.underlying41 Tryz.underlying9 hi hz0 hz1 hz2 _ _ _ rfl hrow _ rfl (by unfold maxLen; omega) hpl hB1 ?_
               intro v' w2 hown' hgrow _
               rw [hs, List.length_append] at hown'
               obtain ⟨g', cap', rfl⟩ := ownsRow_pos hown' (by have := putU_pos T.length; omega)
               obtain ⟨hv1, hv2, hr2, hb2, hk2⟩ := wr_append' hb bV hrow hB1 hown' hgrow
               have hc1 := hv1.cell
               have hf1 := hv1.frozen
               clear hown' hgrow)
  go_end0
  exact ⟨rfl, ⟨hb, _, hv2, by rw [HX.out, HL.out, hs, List.length_append]; exact hr2⟩, hb1.trans hb2, hk1.trans hk2⟩

end Go.Proofs.YtkmbgehknpefiaaGreatDoor
