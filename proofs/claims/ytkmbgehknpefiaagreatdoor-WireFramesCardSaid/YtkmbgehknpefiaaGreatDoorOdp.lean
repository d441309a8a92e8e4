/-
  The document's Put and Text: by exact answers. Condition: a text takes at most 2^40 bytes.
-/
import Derived.Test.YtkmbgehknpefiaaGreatDoorOwy
import Derived.Laws.BitsAllLaws
namespace Go.Proofs.YtkmbgehknpefiaaGreatDoor
set_option linter.unusedSimpArgs false
set_option linter.unusedVariables false
open Go.RowKit

set_option maxRecDepth 100000 in
set_option maxHeartbeats 1000000 in
theorem dPut (n : Nat) (W : World) (hn : n < 18446744073709551616) :
    Calls Tryz.prog 66 #[.int .u64 n] W fun e W' => ∃ v, e = .returned v ∧ W'.ownsRow W.heap.size 5 1 v (putU n).length (Lib.byteCells (putU n)) ∧ Below W.heap.size W W' := by
  obtain ⟨i0, hi, hz0, hz1, hz2⟩ := info_parts byteI
  go_enter Tryz.func66, Tryz.ntmps66
  go_wp2
  go_loopw [3, 0] (fun x y wx => ∃ (m k : Nat) (M : List UInt8), y = .int .u64 m ∧ m < 18446744073709551616 ∧ Hid (k ≤ 9 ∧ m < 2 ^ (64 - 7 * k) ∧ M.length = k) ∧ Hid (M ++ putU m = putU n) ∧ Hid (wx.ownsRow W.heap.size 5 1 x M.length (Lib.byteCells M)) ∧ Hid (Below W.heap.size W wx)) (fun _ y _ => (intOf y).toNat)
  case atStart => exact ⟨n, 0, [], rfl, hn, Lib.hid ⟨by omega, by simpa using hn, rfl⟩, Lib.hid rfl, Lib.hid (World.ownsRow_nil _ _ _ _), Lib.hid (Below.refl _ _)⟩
  case round =>
    clear hn
    obtain ⟨m, k, M, rfl, hm, HK, HP, O, B⟩ := hrel
    have hBw : W.heap.size ≤ wr.heap.size := B.out.size
    have hm0 : (0 : Int) ≤ (m : Int) := by omega
    have hpl : M.length + 1 ≤ 140737488355328 := by rw [HK.out.2.2]; have := HK.out.1; omega
    by_cases hlt : m < 128
    · have hm2 : ¬ (127 : Int) < (m : Int) := by omega
      go_wp2_with (at_builtin
                   refine wpList_append_own _ rfl _ _ 41 rfl W.heap.size 5 i0 (.int .u8 0) 1 1 Tryz.underlying41 hi hz0 hz1 hz2 rfl (by decide) _ _ _ rfl (O.out.alloc _) ⟨wr.heap.size, 0, none⟩ 1 1 [_] rfl rfl (cell_one_new _ _ _) (by simp [Value.oneCell']) (by unfold maxLen; omega) (by omega) (by simp; omega) ?_
                   intro v' w1 hown' hgrow _
                   obtain ⟨g', cap', rfl⟩ := ownsRow_succ hown'
                   have O1 := Lib.hid hown'
                   have B1 := Lib.hid ((B.out.alloc hBw _).grown hgrow (by simp; omega) fun j hj => (O.out.lt j hj).1)
                   clear hown' hgrow)
      go_ret
      refine ⟨_, rfl, ?_, B1.out⟩
      rw [← HP.out, putU_small hlt, List.length_append, Lib.byteCells_append]
      have e : Lib.byteCells [UInt8.ofNat m] = [.int .u8 (m : Int)] := by simp only [Lib.byteCells, List.map_cons, List.map_nil]; rw [toNat_of (by omega)]
      rw [e]
      exact O1.out
    · have hm2 : (127 : Int) < (m : Int) := by omega
      go_wp2_with (at_builtin
                   refine wpList_append_own _ rfl _ _ 41 rfl W.heap.size 5 i0 (.int .u8 0) 1 1 Tryz.underlying41 hi hz0 hz1 hz2 rfl (by decide) _ _ _ rfl (O.out.alloc _) ⟨wr.heap.size, 0, none⟩ 1 1 [_] rfl rfl (cell_one_new _ _ _) (by simp [Value.oneCell']) (by unfold maxLen; omega) (by omega) (by simp; omega) ?_
                   intro v' w1 hown' hgrow _
                   obtain ⟨g', cap', rfl⟩ := ownsRow_succ hown'
                   have O1 := Lib.hid hown'
                   have B1 := Lib.hid ((B.out.alloc hBw _).grown hgrow (by simp; omega) fun j hj => (O.out.lt j hj).1)
                   clear hown' hgrow)
      have HKK : Hid (k + 1 ≤ 9 ∧ m / 128 < 2 ^ (64 - 7 * (k + 1)) ∧ (M ++ [UInt8.ofNat (m % 128 + 128)]).length = k + 1) := Lib.hid (by
        obtain ⟨hk9, hmk, hpk⟩ := HK.out
        have hk8 : k ≤ 8 := by
          rcases Nat.lt_or_ge k 9 with h | h
          · omega
          · have : k = 9 := by omega
            subst this
            simp at hmk
            omega
        refine ⟨by omega, ?_, by rw [List.length_append, hpk]; rfl⟩
        have e : 64 - 7 * k = 64 - 7 * (k + 1) + 7 := by omega
        rw [e, Nat.pow_add] at hmk
        exact Nat.div_lt_of_lt_mul (by rw [Nat.mul_comm]; exact hmk))
      go_roundw
      case rel =>
        refine ⟨m / 128, k + 1, M ++ [UInt8.ofNat (m % 128 + 128)], by go_num, by omega, HKK, Lib.hid ?_, Lib.hid ?_, B1⟩
        · rw [← HP.out, putU_big hlt, List.append_assoc]
          rfl
        · rw [List.length_append, Lib.byteCells_append]
          have e : Lib.byteCells [UInt8.ofNat (m % 128 + 128)] = [.int .u8 ((m : Int) % 128 + 128)] := by
            simp only [Lib.byteCells, List.map_cons, List.map_nil]
            rw [toNat_of (by omega)]
            simp
          rw [e]
          exact O1.out
      case measure => simp [intOf]; omega

set_option maxRecDepth 100000 in
set_option maxHeartbeats 1000000 in
theorem dText (T : List UInt8) (W : World) (hl : T.length ≤ 1099511627776) :
    Calls Tryz.prog 68 #[.string ⟨T.toArray⟩] W fun e W' => ∃ v, e = .returned v ∧ W'.ownsRow W.heap.size 5 1 v (putT T).length (Lib.byteCells (putT T)) ∧ Below W.heap.size W W' := by
  obtain ⟨i0, hi, hz0, hz1, hz2⟩ := info_parts byteI
  have hs : (ByteArray.mk T.toArray).size = T.length := by simp [ByteArray.size]
  have K := Lib.hid (dPut T.length W (by omega))
  go_enter Tryz.func68, Tryz.ntmps68
  go_wp2_with fail
  refine K.out.mono ?_
  rintro e w1 ⟨v, rfl, hown, b1⟩
  have O := Lib.hid hown
  have B := Lib.hid b1
  clear hown b1
  have hBw : W.heap.size ≤ w1.heap.size := B.out.size
  have hpl : (putU T.length).length + (ByteArray.mk T.toArray).size ≤ 140737488355328 := by
    rw [hs]
    have := putU_length T.length (by omega)
    omega
  go_wp2_with (at_builtin
               refine Lib.wpList_append_own_string _ rfl _ _ 41 9 rfl W.heap.size 5 i0 Tryz.underlying41 Tryz.underlying9 hi hz0 hz1 hz2 _ _ _ rfl O.out _ rfl (by unfold maxLen; omega) hpl hBw ?_
               intro v' w2 hown' hgrow _
               rw [hs] at hown'
               have O1 := Lib.hid hown'
               have B1 := Lib.hid (B.out.grown hgrow hBw fun j hj => (O.out.lt j hj).1)
               clear hown' hgrow)
  go_ret
  refine ⟨_, rfl, ?_, B1.out⟩
  unfold putT
  rw [List.length_append, Lib.byteCells_append]
  exact O1.out

end Go.Proofs.YtkmbgehknpefiaaGreatDoor
