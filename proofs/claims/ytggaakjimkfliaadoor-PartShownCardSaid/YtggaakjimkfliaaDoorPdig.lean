/-
  The document's Digits of a number, by a contract. Condition: the number fits 64 bits.
-/
import Derived.Test.YtggaakjimkfliaaDoorPshow
import Derived.Laws.IdiomStrings
namespace Go.Proofs.YtggaakjimkfliaaDoor
set_option linter.unusedSimpArgs false
set_option linter.unusedVariables false
open Go.RowKit

theorem digB_small (z : Int) (h0 : 0 ≤ z) (h1 : z < 10) : digB z = ⟨#[UInt8.ofNat (48 + z.toNat)]⟩ := by
  obtain ⟨m, rfl⟩ : ∃ m : Nat, z = m := ⟨z.toNat, by omega⟩
  unfold digB
  rw [Lib.itoa_nonneg, Lib.decDigits, dif_pos (by omega)]
  simp
theorem digB_step (z : Int) (h0 : 10 ≤ z) : digB z = digB (z / 10) ++ digB (z % 10) := by
  obtain ⟨m, rfl⟩ : ∃ m : Nat, z = m := ⟨z.toNat, by omega⟩
  have e1 : ((m : Int) / 10) = ((m / 10 : Nat) : Int) := by omega
  have e2 : ((m : Int) % 10) = ((m % 10 : Nat) : Int) := by omega
  rw [e1, e2]
  unfold digB
  rw [Lib.itoa_nonneg, Lib.itoa_nonneg, Lib.itoa_nonneg, Lib.decDigits, dif_neg (by omega), Lib.decDigits.eq_def (m % 10), dif_pos (by omega)]
  apply ByteArray.ext
  simp
theorem digB_neg (z : Int) (h : z < 0) : digB z = ({ data := #[45] } : ByteArray) ++ digB (-z) := by
  obtain ⟨m, rfl⟩ : ∃ m : Nat, z = -(m : Int) := ⟨z.natAbs, by omega⟩
  unfold digB
  rw [Lib.itoa_neg m (by omega), show -(-(m : Int)) = m by omega, Lib.itoa_nonneg]
  apply ByteArray.ext
  simp

set_option maxRecDepth 100000 in
set_option maxHeartbeats 2000000 in
theorem digits_pos (N : Nat) : ∀ (z : Int) (w : World), 0 ≤ z → z ≤ 9223372036854775807 → z.toNat ≤ N →
    Calls Tryd.prog 27 #[.int .i64 z] w fun e w' => e = .returned (.string (digB z)) ∧ Below w.heap.size w w' := by
  induction N using Nat.strongRecOn with
  | _ N ih =>
    intro z w h0 h1 hN
    by_cases h10 : z < 10
    · have HS := digB_small z h0 h10
      have hcv : Sem.run Tryd.prog (convert 52 9 (.slice (some ⟨w.heap.size, 0, none⟩) 1 1)) (w.alloc (.cells #[.int .u8 (48 + z)] 5)) = .ok (.string (digB z)) (w.alloc (.cells #[.int .u8 (48 + z)] 5)) := by
        have := run_convert_bytes_back (P := Tryd.prog) (w.alloc (.cells #[.int .u8 (48 + z)] 5)) 52 9 5 ⟨w.heap.size, 0, none⟩ 1 [UInt8.ofNat (48 + z.toNat)] Tryd.underlying52 Tryd.underlying5 Tryd.underlying9 (fun j hj => by
          have hj0 : j = 0 := by simpa using hj
          subst hj0
          simp [Addr.add]
          omega)
        rw [HS]
        exact this
      clear HS
      go_enter Tryd.func27, Tryd.ntmps27
      go_wp2
      go_ret
      exact ⟨rfl, (Below.refl _ _).alloc (Nat.le_refl _) _⟩
    · have h10' : 10 ≤ z := by omega
      have HS := Lib.hid (digB_step z h10')
      have d1 := digB_size (z / 10) (by omega) (by omega)
      have d2 := digB_size (z % 10) (by omega) (by omega)
      have IH : Hid (∀ W, Calls Tryd.prog 27 #[.int .i64 (z / 10)] W fun e w' => e = .returned (.string (digB (z / 10))) ∧ Below W.heap.size W w') := Lib.hid (fun W => ih (z / 10).toNat (by omega) (z / 10) W (by omega) (by omega) (by omega))
      have IH2 : Hid (∀ W, Calls Tryd.prog 27 #[.int .i64 (z % 10)] W fun e w' => e = .returned (.string (digB (z % 10))) ∧ Below W.heap.size W w') := Lib.hid (fun W => ih (z % 10).toNat (by omega) (z % 10) W (by omega) (by omega) (by omega))
      clear ih
      go_enter Tryd.func27, Tryd.ntmps27
      go_wp2_with fail
      refine (IH.out _).mono ?_
      rintro e w1 ⟨rfl, b1⟩
      go_wp2_with fail
      refine (IH2.out _).mono ?_
      rintro e w2 ⟨rfl, b2⟩
      go_wp2
      go_ret
      exact ⟨by rw [HS.out]; rfl, b1.trans (b2.mono b1.size)⟩

set_option maxRecDepth 100000 in
set_option maxHeartbeats 2000000 in
theorem digits (z : Int) (w : World) (h0 : -9223372036854775808 ≤ z) (h1 : z ≤ 9223372036854775807) :
    Calls Tryd.prog 27 #[.int .i64 z] w fun e w' => e = .returned (.string (digB z)) ∧ Below w.heap.size w w' := by
  by_cases hz : 0 ≤ z
  · exact digits_pos _ z w hz h1 (Nat.le_refl _)
  · have D : Hid (∀ x W, 0 ≤ x → x ≤ 9223372036854775807 → Calls Tryd.prog 27 #[.int .i64 x] W fun e w' => e = .returned (.string (digB x)) ∧ Below W.heap.size W w') := Lib.hid (fun x W hx h1 => digits_pos _ x W hx h1 (Nat.le_refl _))
    have HN := Lib.hid (digB_neg z (by omega))
    by_cases h9 : z < -9
    · have hz' : z < 0 := by omega
      have HS := Lib.hid (digB_step (-z) (by omega))
      have d1 := digB_size ((-z) / 10) (by omega) (by omega)
      have d2 := digB_size ((-z) % 10) (by omega) (by omega)
      have t1 : z.tdiv 10 = -((-z) / 10) := by
        obtain ⟨m, rfl⟩ : ∃ m : Int, z = -m := ⟨-z, by omega⟩
        rw [Int.neg_tdiv, Int.tdiv_eq_ediv_of_nonneg (by omega), Int.neg_neg]
      have t2 : z.tmod 10 = -((-z) % 10) := by
        obtain ⟨m, rfl⟩ : ∃ m : Int, z = -m := ⟨-z, by omega⟩
        rw [Int.neg_tmod, Int.tmod_eq_emod_of_nonneg (by omega), Int.neg_neg]
      have E1 : Hid (wrap64 (-z.tdiv 10) = (-z) / 10) := Lib.hid (by rw [t1, Int.neg_neg]; exact IntWalk.wrap64_in _ (by omega))
      have E2 : Hid (wrap64 (-z.tmod 10) = (-z) % 10) := Lib.hid (by rw [t2, Int.neg_neg]; exact IntWalk.wrap64_in _ (by omega))
      have r1 : Hid (0 ≤ (-z) / 10 ∧ (-z) / 10 ≤ 9223372036854775807) := Lib.hid (by omega)
      have r2 : Hid (0 ≤ (-z) % 10 ∧ (-z) % 10 ≤ 9223372036854775807) := Lib.hid (by omega)
      clear t1 t2
      go_enter Tryd.func27, Tryd.ntmps27
      go_wp2_with fail
      rw [E1.out]
      refine (D.out _ _ r1.out.1 r1.out.2).mono ?_
      rintro e w1 ⟨rfl, b1⟩
      go_wp2_with fail
      rw [E2.out]
      refine (D.out _ _ r2.out.1 r2.out.2).mono ?_
      rintro e w2 ⟨rfl, b2⟩
      go_wp2
      go_ret
      exact ⟨ret_str (by rw [HN.out, HS.out, ByteArray.append_assoc]), b1.trans (b2.mono b1.size)⟩
    · have hz' : z < 0 := by omega
      have h9' : -9 ≤ z := by omega
      have d1 := digB_size (-z) (by omega) (by omega)
      go_enter Tryd.func27, Tryd.ntmps27
      go_wp2_with fail
      refine (D.out _ _ (by omega) (by omega)).mono ?_
      rintro e w1 ⟨rfl, b1⟩
      go_wp2
      go_ret
      exact ⟨by rw [HN.out]; rfl, b1⟩

end Go.Proofs.YtggaakjimkfliaaDoor
