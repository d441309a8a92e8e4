/-
  The walk of the law LinkBounds. No condition.
-/
import Derived.Test.YtgnfclikdfllnaaJar
namespace Go.Proofs.Ytgnfclikdfllnaa
set_option linter.unusedSimpArgs false
set_option linter.unusedVariables false
open Go.RowKit Go.Maps Go.Sort

/-- how many have been taken in. -/
def cnt (m i : Nat) : Nat := min i (min 32 m)
theorem due_all {L : List Ls} {now again : Int} (h : ∀ x ∈ L, x.told = false) (k : Nat) : dueL' now again L k = L.take k := by
  unfold dueL'
  refine List.filter_eq_self.2 fun x hx => ?_
  rw [h x (List.mem_of_mem_take hx)]
  rfl
structure BoJ (base : Nat) (W : World) (b mm m i : Nat) (wr : World) (v : Value) (L : List Ls) : Prop where
  pl : PL base wr b mm v 0 ⟨1, 1, 2, 3, 1, 18446744073709551615 - m + cnt m i, 18446744073709551615 - m, false⟩ L []
  len : L.length = cnt m i
  told : ∀ x ∈ L, x.told = false
  bl : Below W.heap.size W wr
theorem BoJ.same {base : Nat} {W : World} {b mm m i : Nat} {wr w : World} {v : Value} {L : List Ls} (h : BoJ base W b mm m i wr v L) (hb : Below wr.heap.size wr w) (hc : cnt m (i + 1) = cnt m i) : BoJ base W b mm m (i + 1) w v L := by
  refine ⟨?_, by rw [hc]; exact h.len, h.told, h.bl.trans (hb.mono h.bl.size)⟩
  rw [hc]
  exact h.pl.below hb
theorem bytes_one (w : World) (i : Nat) (hi : i < 256) : BytesAt (w.alloc (.cells #[.int .u8 (i : Int)] 5)) (w.heap.size + 1) (some ⟨w.heap.size, 0, none⟩) [UInt8.ofNat i] :=
  bytes_new w [UInt8.ofNat i] #[.int .u8 (i : Int)] (0, 0) (by simp [Lib.byteCells, toNat_of hi])

set_option maxRecDepth 100000 in
set_option maxHeartbeats 4000000 in
theorem walkBounds (n : Int) (first : Nat) (hn : -9223372036854775808 ≤ n ∧ n ≤ 9223372036854775807) (hf : first ≤ 18446744073709551615) (W : World) :
    Calls Try.prog 5 #[.int .i64 n, .int .u64 first] W fun e W' => e = .returned (.bool true) ∧ Below W.heap.size W W' := by
  obtain ⟨m, hm⟩ : ∃ m : Nat, first % 50 = m := ⟨_, rfl⟩
  have hm50 : m < 50 := by omega
  have hr1 : (first : Int).tmod 50 = (m : Int) := by rw [Int.tmod_eq_emod_of_nonneg (by omega)]; omega
  obtain ⟨a, ha⟩ : ∃ a : Int, n.tmod 60 = a := ⟨_, rfl⟩
  have ha2 : -60 < a ∧ a < 60 := by rw [← ha]; exact ⟨by have := Int.lt_tmod_of_pos n (show (0 : Int) < 60 by decide); omega, Int.tmod_lt_of_pos n (by decide)⟩
  obtain ⟨nn, hnn⟩ : ∃ nn : Nat, (a + 60).tmod 60 = (nn : Int) := ⟨((a + 60).tmod 60).toNat, by have := Int.tmod_nonneg (a := a + 60) 60 (by omega); omega⟩
  have hnn60 : nn < 60 := by have := Int.tmod_lt_of_pos (a + 60) (show (0 : Int) < 60 by decide); omega
  have KK := Lib.hid (fun w => knowsW w)
  have KE := Lib.hid (endsW (18446744073709551615 - m) 1 (by omega) (by omega) W)
  have hmm : ((18446744073709551615 - m : Nat) : Int) = 18446744073709551615 - (m : Int) := by omega
  rw [hmm] at KE
  clear hm hmm
  go_enter Try.func5, Try.ntmps5
  go_wp2_with fail
  refine KE.out.mono ?_
  rintro e w1 ⟨bx, mx, b_y, m_y, rfl, px, p_y, hb, hm, b1⟩
  have hc0 : cnt m 0 = 0 := by unfold cnt; omega
  have J0 : Hid (BoJ W.heap.size W bx mx m 0 w1 (.slice none 0 0) []) := Lib.hid ⟨by rw [hc0]; exact px, by rw [hc0]; rfl, fun _ hx => (by cases hx), b1⟩
  clear px p_y hb hm b1 KE
  go_wp2
  clear ha hnn hc0
  go_loopw [7, 8] (fun okv iv wr => ∃ i : Nat, i ≤ nn ∧ iv = .int .i64 i ∧ okv = .int .i64 (cnt m i : Nat) ∧ ∃ v L, Hid (BoJ W.heap.size W bx mx m i wr v L)) (fun _ iv _ => nn - (intOf iv).toNat)
  case atStart => exact ⟨0, Nat.zero_le _, rfl, by unfold cnt; simp, _, _, J0⟩
  case round =>
    obtain ⟨i, hi, rfl, rfl, v, L, J⟩ := hrel
    clear J0
    by_cases hin : i < nn
    · have hii : (i : Int) < (nn : Int) := by omega
      have hi60 : i < 60 := by omega
      obtain ⟨w2, hw2⟩ : ∃ Y, wr.alloc (.cells #[.int .u8 (i : Int)] 5) = Y := ⟨_, rfl⟩
      have b2 : Below wr.heap.size wr w2 := by rw [← hw2]; exact (Below.refl _ _).alloc (Nat.le_refl _) _
      have x2 := bytes_one wr i (by omega)
      have s2 : w2.heap.size = wr.heap.size + 1 := by rw [← hw2]; simp
      rw [hw2] at x2
      have P2 := J.out.pl.below b2
      have HW2 := Lib.hid hw2
      have B2 := Lib.hid b2
      by_cases hful : m ≤ 32 ∧ m ≤ i
      · have hc : cnt m i = m := by unfold cnt; omega
        have hc1 : cnt m (i + 1) = cnt m i := by unfold cnt; omega
        have KS := send_full _ _ _ _ _ _ _ _ _ P2 (some ⟨wr.heap.size, 0, none⟩) [UInt8.ofNat i] 1 (by simp only [hc]; omega)
        have e1 : (m : Int) ≤ (i : Int) := by omega
        have e2 : (m : Int) ≤ 32 := by omega
        have HC := Lib.hid hc1
        clear hc hc1 hful P2 x2 s2 b2 hw2
        by_cases h32 : (32 : Int) ≤ (i : Int)
        all_goals
          try rw [Int.not_le] at h32
          go_wp2_with (first
            | (rw [HW2.out])
            | (go_at_call 13; refine KS.mono ?_; rintro e' w' ⟨rfl, rfl⟩)
            | (go_at_call 12; refine (numE 11 _).mono ?_; rintro e' w' ⟨rfl, rfl⟩))
          go_roundw
          case rel => exact ⟨i + 1, by omega, by go_num, by rw [HC.out], v, L, Lib.hid (J.out.same B2.out HC.out)⟩
          case measure => simp [intOf]; omega
      · by_cases hbz : 32 ≤ i
        · have hc : cnt m i = 32 := by unfold cnt; omega
          have hc1 : cnt m (i + 1) = cnt m i := by unfold cnt; omega
          have hll := J.out.len
          have KS := send_busy _ _ _ _ _ _ _ _ _ P2 (some ⟨wr.heap.size, 0, none⟩) [UInt8.ofNat i] 1 ⟨by simp only [hc]; omega, by rw [hll, hc]; exact Nat.le_refl _⟩
          have e1 : (32 : Int) ≤ (i : Int) := by omega
          have e2 : ¬ (m : Int) ≤ 32 := by omega
          have HC := Lib.hid hc1
          clear hc hc1 hful P2 x2 s2 b2 hw2 hll
          by_cases h33 : (m : Int) ≤ (i : Int)
          all_goals
            try rw [Int.not_le] at h33
            go_wp2_with (first
              | (rw [HW2.out])
              | (go_at_call 13; refine KS.mono ?_; rintro e' w' ⟨rfl, rfl⟩)
              | (go_at_call 12; refine (numE 10 _).mono ?_; rintro e' w' ⟨rfl, rfl⟩))
            go_roundw
            case rel => exact ⟨i + 1, by omega, by go_num, by rw [HC.out], v, L, Lib.hid (J.out.same B2.out HC.out)⟩
            case measure => simp [intOf]; omega
        · have hc : cnt m i = i := by unfold cnt; omega
          have hc1 : cnt m (i + 1) = i + 1 := by unfold cnt; omega
          have hll := J.out.len
          have hmi : i < m := by omega
          have KS := send_ok _ _ _ _ _ _ _ _ _ P2 (some ⟨wr.heap.size, 0, none⟩) [UInt8.ofNat i] 1 (x2.up (by omega)) (by simp) (by simp) (by unfold maxLen; omega) (by simp only [hc]; omega) (by rw [hll, hc]; omega)
          have e1 : ¬ (32 : Int) ≤ (i : Int) := by omega
          have e2 : ¬ (m : Int) ≤ (i : Int) := by omega
          have HC := Lib.hid hc
          have HC1 := Lib.hid hc1
          have P2' := Lib.hid P2
          rw [hc]
          clear hc hc1 hful P2 x2 s2 b2 hw2 hll hbz
          go_wp2_with (first
            | (rw [HW2.out])
            | (go_at_call 13
               refine KS.mono ?_
               rintro e' w3 ⟨rfl, x, v3, hx1, hx2, hx3, hx4, p3, k3, f3⟩
               have P3 := Lib.hid p3
               have K3 := Lib.hid k3
               have HX3 := Lib.hid hx3
               clear p3 k3 f3 hx1 hx2 hx3 hx4)
            | (go_at_call 12; refine (numE 0 _).mono ?_; rintro e' w' ⟨rfl, rfl⟩))
          go_roundw
          case rel =>
            refine ⟨i + 1, by omega, by go_num, by rw [HC1.out]; go_num, v3, L ++ [x], Lib.hid ⟨?_, ?_, ?_, ?_⟩⟩
            · have := P3.out
              have e : 18446744073709551615 - m + cnt m i + 1 = 18446744073709551615 - m + cnt m (i + 1) := by rw [HC.out, HC1.out]; omega
              simp only [e] at this
              exact this
            · rw [List.length_append, J.out.len, HC.out, HC1.out]
              rfl
            · intro y hy
              rcases List.mem_append.1 hy with hy | hy
              · exact J.out.told y hy
              · obtain rfl : y = x := by simpa using hy
                exact HX3.out
            · exact J.out.bl.trans (B2.out.mono J.out.bl.size) |>.trans (P2'.out.kbelow K3.out (Nat.le_trans J.out.bl.size B2.out.size))
          case measure => simp [intOf]; omega
    · obtain rfl : i = nn := by omega
      have hii : ¬ (i : Int) < (i : Int) := by omega
      have KA := waitingL _ _ _ _ _ _ _ _ _ J.out.pl
      have KO := outW _ _ _ _ _ _ _ _ _ J.out.pl 0 (by omega)
      have hll := J.out.len
      rw [hll] at KA
      have hmin : min (i : Int) (min 32 (m : Int)) = ((cnt m i : Nat) : Int) := by unfold cnt; omega
      have hmin8 : min 8 (((cnt m i : Nat)) : Int) = ((min 8 (cnt m i) : Nat) : Int) := by omega
      have hP : Hid (∀ P : List Pk, P.map Pk.pu = fOut ⟨1, 1, 2, 3, 1, 18446744073709551615 - m + cnt m i, 18446744073709551615 - m, false⟩ 0 L → P.length = min 8 (cnt m i)) := Lib.hid fun P hP => by
        have := congrArg List.length hP
        rw [List.length_map] at this
        rw [this]
        unfold fOut
        rw [if_neg (by simp), due_all J.out.told, List.length_map, List.length_take, J.out.len]
      obtain ⟨q, hq⟩ : ∃ q, cnt m i = q := ⟨_, rfl⟩
      have hq32 : q ≤ 32 := by rw [← hq]; unfold cnt; omega
      have JJ := Lib.hid J.out
      rw [hq] at KA hmin hmin8 hP ⊢
      clear hll hq J
      go_wp2_with fail
      refine KA.mono ?_
      rintro e w2 ⟨rfl, rfl⟩
      clear KA
      go_wp2_with (first
        | (go_at_call 16
           refine KO.mono ?_
           rintro e' w3 hr
           unfold OutR at hr
           obtain ⟨pv, P, rfl, row3, _, eq3, p3, k3⟩ := hr
           have hl := hP.out P eq3
           obtain ⟨Ap, cpp, rfl, _, _, _⟩ := (RowO.of_owns row3).slice
           obtain ⟨pl, hpl⟩ : ∃ pl, P.length = pl := ⟨_, rfl⟩
           rw [hpl] at hl ⊢
           have hl2 : (pl : Int) = min 8 (q : Int) := by omega
           have B3 := Lib.hid (JJ.out.bl.trans (JJ.out.pl.kbelow k3 JJ.out.bl.size))
           clear row3 eq3 p3 k3 hpl KO)
        | (go_at_call 8
           refine (KK.out _).mono ?_
           rintro e' w4 ⟨rfl, b4⟩
           have B4 := Lib.hid (B3.out.trans (b4.mono B3.out.size))
           clear b4))
      all_goals
        go_ret
        exact ⟨rfl, B4.out⟩

end Go.Proofs.Ytgnfclikdfllnaa
