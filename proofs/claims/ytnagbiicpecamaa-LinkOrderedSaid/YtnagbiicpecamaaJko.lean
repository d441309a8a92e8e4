/-
  knows: what must come of a link: by an exact answer. No condition.
-/
import Derived.Test.YtnagbiicpecamaaJkn
namespace Go.Proofs.Ytnagbiicpecamaa
set_option linter.unusedSimpArgs false
set_option linter.unusedVariables false
open Go.RowKit Go.Maps Go.Sort

theorem hear_knows {α : Type} : hearP (α := α) ⟨2, 3, 1, 1, 2, 5, 5, false⟩ [] [] ⟨1, 1, 2, 3, 5, 5, true, [104, 105]⟩ = (⟨2, 3, 1, 1, 2, 5, 6, true⟩, [], [], [(5, [104, 105])]) := rfl
theorem len_one {α : Type} {L : List α} (h : L.length = 1) : ∃ x, L = [x] := by
  match L, h with
  | [x], _ => exact ⟨x, rfl⟩
set_option maxRecDepth 100000 in
set_option maxHeartbeats 4000000 in
theorem knowsW (W : World) : Calls Try.prog 4 #[] W fun e W' => e = .returned (.bool true) ∧ Below W.heap.size W W' := by
  have K0 := Lib.hid (endsW 5 2 (by omega) (by omega) W)
  go_enter Try.func4, Try.ntmps4
  go_wp2_with fail
  refine K0.out.mono ?_
  rintro e w1 ⟨bx, mx, b_y, m_y, rfl, px, p_y, hb, hm, b1⟩
  have hmax : max (2 : Int) 1 = 2 := rfl
  rw [hmax] at px p_y
  obtain ⟨w2, hw2⟩ : ∃ x, w1.alloc (.cells #[.int .u8 104, .int .u8 105] 5 (2, 3)) = x := ⟨_, rfl⟩
  have b2 : Below w1.heap.size w1 w2 := by rw [← hw2]; exact (Below.refl _ _).alloc (Nat.le_refl _) _
  have at2 := bytes_new w1 [104, 105] #[.int .u8 104, .int .u8 105] (2, 3) rfl
  rw [hw2] at at2
  have s2 : w2.heap.size = w1.heap.size + 1 := by rw [← hw2]; simp
  have KS := Lib.hid (send_ok W.heap.size w2 bx mx _ 0 ⟨1, 1, 2, 3, 2, 5, 5, false⟩ [] [] (px.below b2) (some ⟨w1.heap.size, 0, none⟩) [104, 105] 2 (at2.up (by omega)) (by decide) (by decide) (by unfold maxLen; omega) (by decide) (by decide))
  have PY := Lib.hid (p_y.below b2)
  have PX := Lib.hid (px.below b2)
  have HW2 := Lib.hid hw2
  have B2 := Lib.hid (b1.trans (b2.mono b1.size))
  have HB := Lib.hid hb
  have HM := Lib.hid hm
  clear px p_y hb hm b1 hmax hw2 b2 at2 s2 K0
  have KS' : Hid (Calls Try.prog 11 #[.pointer (some ⟨bx, 0, none⟩), .slice (some ⟨w1.heap.size, 0, none⟩) 2 2] w2 _) := KS
  clear KS
  have cv : Sem.run Try.prog (convert 44 44 (.slice (some ⟨w1.heap.size, 0, none⟩) 2 2)) (w1.alloc (.cells #[.int .u8 104, .int .u8 105] 5)) = .ok (.slice (some ⟨w1.heap.size, 0, none⟩) 2 2) w2 := by rw [← HW2.out]; exact Joins.run_convert_bytes_const_at w1 44 5 _ 2 2 _ rfl Try.underlying44 Try.underlying5
  go_wp2_with fail
  refine KS'.out.mono ?_
  clear KS' HW2 cv
  rintro e w3 ⟨rfl, x, v3, hx1, hx2, hx3, hx4, p3, k3, f3⟩
  have B3 := Lib.hid (B2.out.trans (PX.out.kbelow k3 B2.out.size |>.mono (Nat.le_refl _)))
  have PY3 := Lib.hid (PY.out.other PX.out k3 HB.out.symm HM.out.symm fun g hg => by cases hg)
  have VF := Lib.hid (fun g (hg : v3.ownBlock = some g) => p3.hv g hg)
  have KO := Lib.hid (outW W.heap.size w3 bx mx v3 0 _ _ _ p3 0 (by omega))
  have P3 := Lib.hid p3
  clear k3 p3 f3 PY PX
  go_wp2_with fail
  refine KO.out.mono ?_
  rintro e w4 hr
  unfold OutR at hr
  obtain ⟨pv, P, rfl, row4, ok4, eq4, p4, k4⟩ := hr
  have hdue : fOut { mn := 1, ml := 1, pn := 2, pl := 3, again := 2, next := 5 + 1, want := 5, owed := false } 0 ([] ++ [x]) = [(1, 1, 2, 3, 5, 5, true, [104, 105])] := by
    simp [fOut, dueL', dueB, puOf, hx1, hx2, hx3]
  rw [hdue] at eq4
  have hlP : P.length = 1 := by
    have := congrArg List.length eq4
    simpa using this
  obtain ⟨pk, rfl⟩ := len_one hlP
  obtain ⟨pfn, pfl, ptn, ptl, psq, pak, phas, ⟨pB, pA, pc⟩⟩ := pk
  have hpu : Pk.pu ⟨pfn, pfl, ptn, ptl, psq, pak, phas, ⟨pB, pA, pc⟩⟩ = (1, 1, 2, 3, 5, 5, true, [104, 105]) := by simpa using eq4
  simp only [Pk.pu, Prod.mk.injEq] at hpu
  obtain ⟨rfl, rfl, rfl, rfl, rfl, rfl, rfl, rfl⟩ := hpu
  have B4 := Lib.hid (B3.out.trans (P3.out.kbelow k4 B3.out.size))
  have PY4 := PY3.out.other P3.out k4 HB.out.symm HM.out.symm fun g hg => by cases hg
  have okp := ok4 _ (List.mem_singleton.2 rfl)
  have KH := Lib.hid (hearW W.heap.size w4 b_y m_y (.slice none 0 0) 0 ⟨2, 3, 1, 1, 2, 5, 5, false⟩ [] [] PY4 ⟨1, 1, 2, 3, 5, 5, true, [104, 105]⟩ pA pc (by
      obtain ⟨A, c, e, h1, h2, h3, h4⟩ := bytes_of_own okp.own
      cases e
      exact h2) (by decide) okp.at_.2.1 okp.at_.2.2.1 (by decide) (by decide) (by decide))
  obtain ⟨pg, pcap, rfl⟩ := ownsRow_succ row4
  have e0 := row4.cells (g := pg) rfl
  simp only [flat, Pk.cs, List.flatMap_cons, List.flatMap_nil, List.append_nil, addr_add, Nat.zero_add] at e0
  have g0 := e0 0 _ rfl
  have g1 := e0 1 _ rfl
  have g2 := e0 2 _ rfl
  have g3 := e0 3 _ rfl
  have g4 := e0 4 _ rfl
  have g5 := e0 5 _ rfl
  have g6 := e0 6 _ rfl
  have g7 := e0 7 _ rfl
  have P4 := Lib.hid p4
  have PY4' := Lib.hid PY4
  have hxo : Hid ((outL 0 2 ([] ++ [x]) 8).length = 1) := Lib.hid (by rw [outL_len]; rfl)
  clear e0 row4 ok4 eq4 hlP hdue okp p4 k4 PY4 KO PY3 P3
  simp only [Hp.cs] at KH
  go_wp2_with (first
    | (go_at_call 12; refine (numE 0 _).mono ?_; rintro e2 w2 ⟨rfl, rfl⟩)
    | fail)
  refine KH.out.mono ?_
  rintro e w5 hr
  unfold HearR at hr
  obtain ⟨dv, v5, K5, D, rfl, rowD, okD, hv5, p5, hK5, hD, k5⟩ := hr
  simp only [List.map_nil] at p5 hK5 hD
  rw [hear_knows] at p5 hK5 hD
  have hlD : D.length = 1 := by
    have := congrArg List.length hD
    simpa using this
  obtain ⟨d, rfl⟩ := len_one hlD
  obtain ⟨dq, ⟨dB, dA, dc⟩⟩ := d
  have hd : Kr.p ⟨dq, ⟨dB, dA, dc⟩⟩ = (5, [104, 105]) := by simpa using hD
  simp only [Kr.p, Prod.mk.injEq] at hd
  obtain ⟨rfl, rfl⟩ := hd
  obtain ⟨dg, dcap, rfl⟩ := ownsRow_succ rowD
  have g8 : w5.cell? ⟨dg, 0, none⟩ = some (.slice dA 2 dc) := by
    have := rowD.cells (g := dg) rfl 0 _ rfl
    simpa [addr_add, Bd.v] using this
  have okd := okD _ (List.mem_singleton.2 rfl)
  have hcv : Sem.run Try.prog (convert 44 9 (.slice dA 2 dc)) w5 = .ok (.string ⟨#[104, 105]⟩) w5 := conv_bytes (L := [104, 105]) okd.at_.1 dc
  have P5x := P4.out.other PY4'.out k5 HB.out HM.out fun g hg => (fun e => by cases e)
  have KW := Lib.hid (wantL _ _ _ _ _ _ _ _ _ p5)
  have KA := Lib.hid (waitingL _ _ _ _ _ _ _ _ _ P5x)
  have KI := Lib.hid (idleL _ _ _ _ _ _ _ _ _ P5x)
  rw [hxo.out] at KA KI
  have B5 := Lib.hid (B4.out.trans (PY4'.out.kbelow k5 B4.out.size))
  clear rowD okD hv5 p5 hK5 hD k5 hlD okd P5x KH g0 g1 g2 g3 g4 g5 g6 g7
  try simp only [List.length_singleton]
  go_wp2_with (first
    | (go_at_call 14; refine KW.out.mono ?_; rintro e2 w2 ⟨rfl, rfl⟩)
    | (go_at_call 15; refine KA.out.mono ?_; rintro e2 w2 ⟨rfl, rfl⟩)
    | (go_at_call 10; refine KI.out.mono ?_; rintro e2 w2 ⟨rfl, rfl⟩))
  go_ret
  exact ⟨rfl, B5.out⟩

end Go.Proofs.Ytnagbiicpecamaa
