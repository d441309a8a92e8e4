/-
  The program's order: Since at the head, of a member, by an exact answer. Condition: it lies in memory; the process's numbers fit their kinds.
-/
import Derived.Test.YtjdmjiikpnlkjaaRog
namespace Go.Proofs.Ytjdmjiikpnlkjaa
set_option linter.unusedSimpArgs false
set_option linter.unusedVariables false
open Go.RowKit Go.Maps Go.Sort
open V (P2)

def Rd.sinceN (d : Rd) (p : P2) (most : Int) : Nat := min most.toNat (d.L.length - d.has p)
set_option maxRecDepth 100000 in
set_option maxHeartbeats 2000000 in
theorem rSince (W : World) (b m : Nat) (lb : Option Nat) (d : Rd) (h : RP W b m lb d) (p : P2) (rp : Rg2 p) (most : Int) (hlead : d.lead = true) (hrk : 0 ≤ V.rk d.M p) (hmost : 0 ≤ most ∧ most ≤ 1000) :
    Calls Try.prog 25 #[.pointer (some ⟨b, 0, none⟩), .agg #[.int .u8 p.n, .int .u16 p.l], .int .i64 most] W fun e W' => ∃ v', e = .returned (.tuple #[.int .i64 (d.has p), v']) ∧ ∃ L', L'.map Le.v = (d.L.drop (d.has p)).take (d.sinceN p most) ∧ EnO W' v' L' ∧ (∀ g, v'.ownBlock = some g → W.heap.size ≤ g) ∧ Below W.heap.size W W' := by
  have HRP := Lib.hid h
  obtain ⟨⟨mv, lv, Lg⟩, hlb, h⟩ := h
  obtain ⟨A, c, hmv, hr, hc, hm⟩ := h.rows
  dsimp only at hmv hlb
  subst hmv
  obtain ⟨A5, c5, hlv, -, -, -⟩ := RowO.slice h.row
  have hl := h.len
  dsimp only at hlv hl
  rw [hl] at hlv
  subst hlv
  have HQ := Lib.hid h
  obtain ⟨k, hk0⟩ : ∃ k, W.heap.size = k := ⟨_, rfl⟩
  obtain ⟨w1, hw1⟩ : ∃ z, W.alloc (.cells #[.int .u8 p.n, .int .u16 p.l] 49) = z := ⟨_, rfl⟩
  have b1 : Below k W w1 := by rw [← hw1, ← hk0]; exact (Below.refl _ _).alloc (Nat.le_refl _) _
  have r1 : w1.heap[k]? = some (.cells #[.int .u8 p.n, .int .u16 p.l] 49 (0, 0)) := by rw [← hw1, ← hk0]; exact heap_alloc_new _ _
  have hp1 := HRP.out.below (hk0.symm ▸ b1)
  have hr1 := hr.below (hk0.symm ▸ b1) (Nat.le_refl _) (hk0.symm ▸ b1 : Below W.heap.size W w1).size
  obtain ⟨nM, hnM⟩ : ∃ n, d.M.length = n := ⟨_, rfl⟩
  obtain ⟨n, hn⟩ : ∃ n, d.L.length = n := ⟨_, rfl⟩
  have KL : Hid (∀ dd os, Calls Try.prog 38 #[.pointer (some ⟨b, 0, none⟩)] (grow (redrawn w1 dd) os) fun e w' => e = .returned (.bool true) ∧ Below (grow (redrawn w1 dd) os).heap.size (grow (redrawn w1 dd) os) w') := Lib.hid fun dd os => hlead ▸ rLeads _ b m lb d (hp1.below (below_regrown w1 dd os))
  have KR : Hid (∀ dd os, Calls Try.prog 35 #[.agg #[.int .u8 d.g, .int .u32 d.N, .slice A nM c], .agg #[.int .u8 p.n, .int .u16 p.l]] (grow (redrawn w1 dd) os) fun e w' => e = .returned (.int .i64 (V.rk d.M p)) ∧ Below (grow (redrawn w1 dd) os).heap.size (grow (redrawn w1 dd) os) w') := Lib.hid fun dd os => hnM ▸ V.rankO' d.g d.N A d.M c p _ (hr1.below (below_regrown w1 dd os) (Nat.le_refl _) (below_regrown w1 dd os).size) hc hm
  have q1 : w1.heap[b]? = some (.cells #[.int .u8 d.g, .int .u32 d.N, .slice A nM c, .int .u8 d.me.n, .int .u16 d.me.l, .slice A5 n c5, .int .i64 d.base, .int .i64 d.commit, .bool d.shut, .map (some m)] 81 (0, 0)) := by
    rw [← hnM, ← hn]
    exact (b1.block b (hk0 ▸ h.ltb)).trans h.blk
  have k0 := cell_regrown (cell_of q1 0 (.int .u8 d.g) rfl)
  have k1 := cell_regrown (cell_of q1 1 (.int .u32 d.N) rfl)
  have k2 := cell_regrown (cell_of q1 2 (.slice A nM c) rfl)
  have p0 := cell_regrown (cell_of r1 0 (.int .u8 p.n) rfl)
  have p1 := cell_regrown (cell_of r1 1 (.int .u16 p.l) rfl)
  have R1 : Hid (w1.heap[b]? = some (.cells #[.int .u8 d.g, .int .u32 d.N, .slice A nM c, .int .u8 d.me.n, .int .u16 d.me.l, .slice A5 n c5, .int .i64 d.base, .int .i64 d.commit, .bool d.shut, .map (some m)] 81 (0, 0)) ∧ w1.heap[k]? = some (.cells #[.int .u8 p.n, .int .u16 p.l] 49 (0, 0))) := Lib.hid ⟨q1, r1⟩
  have qlen : ∀ (W : World) (ty : TypeId), (Builtin.len_ #[37] ty #[.slice A5 n c5]).run Try.prog W = .ok (.int .i64 n) W := fun W ty => by first | rfl | go_simp
  have HW1 := Lib.hid hw1
  have HK := Lib.hid hk0
  have B1 := Lib.hid b1
  have HN := Lib.hid hn
  have few : n ≤ 400 := hn ▸ h.few
  have hhl := Rd.has_le h p
  rw [hn] at hhl
  have HLL := Lib.hid hhl
  clear h hlb hl hr hc hm hr1 hp1 b1 r1 q1 hw1 hk0 hn hnM hlead
  obtain ⟨r, hr⟩ : ∃ z, V.rk d.M p = z := ⟨_, rfl⟩
  rw [hr] at KR hrk
  clear hr
  have hdn : decide (r < 0) = false := decide_eq_false (by omega)
  obtain ⟨mo, rfl⟩ : ∃ mo : Nat, most = mo := ⟨most.toNat, by omega⟩
  have HSN : Hid (d.sinceN p mo = min mo (n - d.has p)) := Lib.hid (by unfold Rd.sinceN; rw [HN.out]; simp)
  have HRH : Hid (Rg2 p) := Lib.hid rp
  obtain ⟨hs, hhs⟩ : ∃ z, d.has p = z := ⟨_, rfl⟩
  have HHS := Lib.hid hhs
  rw [hhs] at hhl
  have qmax : ∀ (W : World) (ty : TypeId), (Builtin.max_ #[3, 3] ty #[.int .i64 mo, .int .i64 0]).run Try.prog W = .ok (.int .i64 mo) W := fun W ty => by go_simp; try omega
  have qmin : ∀ (W : World) (ty : TypeId), (Builtin.min_ #[3, 3] ty #[.int .i64 mo, .int .i64 ((n : Int) - hs)]).run Try.prog W = .ok (.int .i64 (min mo (n - hs) : Nat)) W := fun W ty => by go_simp; omega
  rw [hhs] at HSN ⊢
  clear hhs
  go_enter Try.func25, Try.ntmps25
  go_wp2_with (first
    | (rw [HW1.out, HK.out])
    | fail)
  refine wp_region_quiet_below (by kernel_rfl) (by kernel_rfl) ?_
  repeat (go_big_quiet_step (first | (go_at_call 38; exact Calls.regrown_of (KL.out _ _)) | (go_at_call 35; exact Calls.regrown_of (KR.out _ _)) | fail))
  refine wpQuiet_nil ?_
  rintro W9 ⟨p9, rfl⟩
  have b9 := below_regrown w1 p9.d p9.os
  have B9 := Lib.hid (B1.out.trans (b9.mono (HK.out ▸ B1.out.size)))
  generalize grow (redrawn w1 p9.d) p9.os = W9 at *
  have R9 : Hid (W9.heap[b]? = some (.cells #[.int .u8 d.g, .int .u32 d.N, .slice A nM c, .int .u8 d.me.n, .int .u16 d.me.l, .slice A5 n c5, .int .i64 d.base, .int .i64 d.commit, .bool d.shut, .map (some m)] 81 (0, 0)) ∧ W9.heap[k]? = some (.cells #[.int .u8 p.n, .int .u16 p.l] 49 (0, 0))) := Lib.hid ⟨(b9.block b (heap_lt R1.out.1)).trans R1.out.1, (b9.block k (heap_lt R1.out.2)).trans R1.out.2⟩
  have hp9 := HRP.out.below (HK.out.symm ▸ B9.out)
  have KH := Lib.hid (HHS.out ▸ rHas W9 b m lb d hp9 p HRH.out : Calls Try.prog 43 #[.pointer (some ⟨b, 0, none⟩), .agg #[.int .u8 p.n, .int .u16 p.l]] W9 fun e W' => e = .returned (.int .i64 hs) ∧ Below W9.heap.size W9 W')
  clear b9 k0 k1 k2 p0 p1 hdn hp9
  have x0 := cell_of R9.out.2 0 (.int .u8 p.n) rfl
  have x1 := cell_of R9.out.2 1 (.int .u16 p.l) rfl
  go_wp2_with fail
  refine KH.out.mono ?_
  rintro e w4 ⟨rfl, b4⟩
  have B4 := Lib.hid (B9.out.trans (b4.mono (by have := heap_lt R9.out.2; omega)))
  have k5 := cell_of ((b4.block b (heap_lt R9.out.1)).trans R9.out.1) 5 (.slice A5 n c5) rfl
  have KC : Hid (Calls Try.prog 33 #[.pointer (some ⟨b, 0, none⟩), .int .i64 hs, .int .i64 ((hs : Int) + ((min mo (n - hs) : Nat) : Int))] w4 fun e W' => ∃ v', e = .returned v' ∧ ∃ L', L'.map Le.v = (d.L.drop hs).take (min mo (n - hs)) ∧ EnO W' v' L' ∧ (∀ g, v'.ownBlock = some g → w4.heap.size ≤ g) ∧ Below w4.heap.size w4 W') := Lib.hid (by
    have := rCut w4 b m lb d (HRP.out.below (HK.out.symm ▸ B4.out)) hs (hs + min mo (n - hs)) (by omega) (by rw [HN.out]; omega)
    rw [show hs + min mo (n - hs) - hs = min mo (n - hs) by omega, Int.natCast_add] at this
    exact this)
  clear b4 x0 x1
  go_wp2_with fail
  refine KC.out.mono ?_
  rintro e w5 ⟨v, rfl, L', l1, l2, l3, l4⟩
  have B5 := Lib.hid (B4.out.trans (l4.mono (by have := B4.out.size; have := HK.out; omega)))
  have L1 := Lib.hid l1
  have L2 := Lib.hid l2
  have L3 : Hid (∀ g, v.ownBlock = some g → k ≤ g) := Lib.hid fun g hg => Nat.le_trans (by have := B4.out.size; have := HK.out; omega) (l3 g hg)
  clear l1 l2 l3 l4
  go_wp2_with fail
  refine bodyPost_ret (v := .tuple #[.int .i64 hs, v]) (by
    simp [results, Try.results25, go_sem]
    try go_simp) rfl ⟨v, rfl, L', ?_, L2.out, by rw [HK.out]; exact L3.out, by rw [HK.out]; exact B5.out⟩
  rw [HSN.out]
  exact L1.out

end Go.Proofs.Ytjdmjiikpnlkjaa
