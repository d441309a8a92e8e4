/-
  beginning: is a row of strings the beginning of another one? Condition: the rows lie in memory.
-/
import Derived.Test.YtnagbiicpecamaaJqc
namespace Go.Proofs.Ytnagbiicpecamaa
set_option linter.unusedSimpArgs false
set_option linter.unusedVariables false
open Go.RowKit Go.Maps Go.Sort

def sv (B : List UInt8) : Value := .string ⟨B.toArray⟩
set_option maxRecDepth 100000 in
set_option maxHeartbeats 2000000 in
theorem beginW (W : World) (va vb : Value) (A B : List (List UInt8)) (ha : RowO W 9 1 va A.length (A.map sv)) (hb : RowO W 9 1 vb B.length (B.map sv)) (hp : A = B.take A.length) :
    Calls Try.prog 7 #[va, vb] W fun e W' => e = .returned (.bool true) ∧ Below W.heap.size W W' := by
  have hle : A.length ≤ B.length := by
    have := congrArg List.length hp
    rw [List.length_take] at this
    omega
  obtain ⟨Aa, ca, rfl, hca, hma, hAa⟩ := ha.slice
  obtain ⟨Ab, cb, rfl, hcb, hmb, hAb⟩ := hb.slice
  obtain ⟨n, hn⟩ : ∃ n, A.length = n := ⟨_, rfl⟩
  obtain ⟨m, hm⟩ : ∃ m, B.length = m := ⟨_, rfl⟩
  rw [hn] at ha hca hle hp
  rw [hm] at hb hcb hle
  rw [hn, hm]
  have HA := Lib.hid ha
  have HB := Lib.hid hb
  have HN := Lib.hid hn
  have HM := Lib.hid hm
  have HP := Lib.hid hp
  have HAA := Lib.hid hAa
  have HAB := Lib.hid hAb
  have HCA := Lib.hid hca
  have HCB := Lib.hid hcb
  have HMB := Lib.hid (show m ≤ 9223372036854775807 by unfold maxLen at hmb; omega)
  clear ha hb hn hm hp hAa hAb hca hcb hma hmb
  go_enter Try.func7, Try.ntmps7
  go_wp2
  go_loopw [5] (fun iv wr => ∃ k : Nat, k ≤ n ∧ iv = .int .i64 k ∧ Hid (Below W.heap.size W wr)) (fun iv _ => n - (intOf iv).toNat)
  case atStart => exact ⟨0, Nat.zero_le _, rfl, Lib.hid (Below.refl _ _)⟩
  case round =>
    obtain ⟨k, hk, rfl, B0⟩ := hrel
    by_cases hkn : k < n
    · have hki : (k : Int) < (n : Int) := by omega
      have hkm : (k : Int) < (m : Int) := by omega
      have hd1 : decide ((k : Int) < (n : Int)) = true := by simpa using hkn
      have hd2 : decide ((k : Int) < (m : Int)) = true := by simp; omega
      have hkA : k < A.length := by rw [HN.out]; exact hkn
      obtain ⟨x, hx⟩ : ∃ x, A[k]? = some x := ⟨_, List.getElem?_eq_getElem hkA⟩
      have hy : B[k]? = some x := by
        rw [HP.out, List.getElem?_take, if_pos hkn] at hx
        exact hx
      have hga : ∃ g o, Aa = some ⟨g, o, none⟩ := by
        rcases HAA.out with ⟨_, h0⟩ | h0
        · have := HCA.out
          omega
        · exact h0
      have hgb : ∃ g o, Ab = some ⟨g, o, none⟩ := by
        rcases HAB.out with ⟨_, h0⟩ | h0
        · have := HCB.out
          omega
        · exact h0
      obtain ⟨ga, oa, rfl⟩ := hga
      obtain ⟨gb, ob, rfl⟩ := hgb
      have la := HA.out.lt ga rfl
      have lb := HB.out.lt gb rfl
      have e0 : wr.cell? ⟨ga, oa + k, none⟩ = some (.string ⟨x.toArray⟩) := (B0.out.cell (p := ⟨ga, oa + k, none⟩) la).trans (HA.out.cells k _ (by rw [List.getElem?_map, hx]; rfl))
      have e1 : wr.cell? ⟨gb, ob + k, none⟩ = some (.string ⟨x.toArray⟩) := (B0.out.cell (p := ⟨gb, ob + k, none⟩) lb).trans (HB.out.cells k _ (by rw [List.getElem?_map, hy]; rfl))
      have t0 := cell_regrown e0
      have t1 := cell_regrown e1
      have hmb := HMB.out
      clear hkA hx hy la lb e0 e1
      go_wp2
      refine wp_region_quiet_below (by kernel_rfl) (by kernel_rfl) ?_
      repeat (go_big_quiet_step (fail))
      refine wpQuiet_nil ?_
      rintro w3 ⟨pz, rfl⟩
      have bz := below_regrown wr pz.d pz.os
      generalize grow (redrawn wr pz.d) pz.os = w3 at bz ⊢
      have B3 := Lib.hid (B0.out.trans (bz.mono B0.out.size))
      clear bz t0 t1
      go_wp2
      go_roundw
      case rel => exact ⟨k + 1, by omega, by go_num, B3⟩
      case measure => simp [intOf]; omega
    · obtain rfl : k = n := by omega
      have hki : ¬ (k : Int) < (k : Int) := by omega
      have hlei : (k : Int) ≤ (m : Int) := by omega
      have hled : decide ((k : Int) ≤ (m : Int)) = true := by simpa using hle
      go_wp2
      go_ret
      exact ⟨rfl, B0.out⟩

end Go.Proofs.Ytnagbiicpecamaa
