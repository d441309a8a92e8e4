/-
  The program's proposer: made, in, Phase, Ballot, enough, Ready, by exact answers. Condition: it lies in memory.
-/
import Derived.Test.YtfkmodmgihadkaaGpd
import Derived.Test.YtfkmodmgihadkaaVix
namespace Go.Proofs.Ytfkmodmgihadkaa
set_option linter.unusedSimpArgs false
set_option linter.unusedVariables false
open Go.RowKit Go.Maps Go.Sort
open V (P2)

theorem neqMapP (W : World) (r : Option Nat) : (binOp .neq 71 (.map r) (.map none)).run Try.prog W = .ok (.bool (!r.isNone)) W := by
  cases r <;> kernel_rfl
set_option maxRecDepth 100000 in
set_option maxHeartbeats 2000000 in
theorem pMade (base : Nat) (W : World) (b m : Nat) (d : Pd) (h : PP base W b m d) :
    Calls Try.prog 24 #[.pointer (some ⟨b, 0, none⟩)] W fun e W' => e = .returned (.bool true) ∧ W = W' := by
  obtain ⟨w, h⟩ := h
  have c5 := cell_of h.blk 5 (.map (some m)) rfl
  clear h
  have hm := neqMapP
  go_enter Try.func24, Try.ntmps24
  go_wp2
  go_ret
  exact ⟨rfl, rfl⟩
set_option maxRecDepth 100000 in
set_option maxHeartbeats 2000000 in
theorem pIn (base : Nat) (W : World) (b m : Nat) (d : Pd) (h : PP base W b m d) (k : Int) :
    Calls Try.prog 30 #[.pointer (some ⟨b, 0, none⟩), .int .i64 k] W fun e W' => e = .returned (.bool (decide (d.ph = k))) ∧ W = W' := by
  have K1 := Lib.hid (pMade base W b m d h)
  obtain ⟨w, h⟩ := h
  have c4 := cell_of h.blk 4 (.int .i64 d.ph) rfl
  clear h
  generalize d.ph = p at *
  go_enter Try.func30, Try.ntmps30
  go_wp2_with (go_at_call 24; refine K1.out.mono ?_; rintro e w1 ⟨rfl, rfl⟩)
  go_ret
  refine ⟨?_, rfl⟩
  first | rfl | (by_cases hk : p = k <;> simp [hk])
set_option maxRecDepth 100000 in
set_option maxHeartbeats 2000000 in
theorem pPhase (base : Nat) (W : World) (b m : Nat) (d : Pd) (h : PP base W b m d) :
    Calls Try.prog 8 #[.pointer (some ⟨b, 0, none⟩)] W fun e W' => e = .returned (.int .i64 d.ph) ∧ W = W' := by
  have K1 := Lib.hid (pMade base W b m d h)
  obtain ⟨w, h⟩ := h
  have c4 := cell_of h.blk 4 (.int .i64 d.ph) rfl
  clear h
  go_enter Try.func8, Try.ntmps8
  go_wp2_with (go_at_call 24; refine K1.out.mono ?_; rintro e w1 ⟨rfl, rfl⟩)
  go_ret
  exact ⟨rfl, rfl⟩
set_option maxRecDepth 100000 in
set_option maxHeartbeats 2000000 in
theorem pBallot (base : Nat) (W : World) (b m : Nat) (d : Pd) (h : PP base W b m d) :
    Calls Try.prog 20 #[.pointer (some ⟨b, 0, none⟩)] W fun e W' => e = .returned (.int .u64 d.bal) ∧ W = W' := by
  have K1 := Lib.hid (pMade base W b m d h)
  obtain ⟨w, h⟩ := h
  have c4 := cell_of h.blk 3 (.int .u64 d.bal) rfl
  clear h
  go_enter Try.func20, Try.ntmps20
  go_wp2_with (go_at_call 24; refine K1.out.mono ?_; rintro e w1 ⟨rfl, rfl⟩)
  go_ret
  exact ⟨rfl, rfl⟩
set_option maxRecDepth 100000 in
set_option maxHeartbeats 2000000 in
theorem pEnough (base : Nat) (W : World) (b m : Nat) (d : Pd) (h : PP base W b m d) :
    Calls Try.prog 33 #[.pointer (some ⟨b, 0, none⟩)] W fun e W' => e = .returned (.bool d.enough) ∧ Below W.heap.size W W' := by
  obtain ⟨⟨mv, lv, Lg, hv, vl⟩, h⟩ := h
  obtain ⟨A, c, hmv, hr, hc, hm, _⟩ := h.mem.rows
  dsimp only at hmv
  subst hmv
  obtain ⟨es, cl, hmap⟩ := h.ct.lt
  have few := h.few
  have K1 := Lib.hid (fun u => V.majO d.g d.N A d.M.length c u hc hm)
  have HL : Hid (∀ u ty, u.heap[m]? = some (.map es cl) → (Builtin.len_ #[71] ty #[.map (some m)]).run Try.prog u = .ok (.int .i64 d.C.length) u) := Lib.hid (fun u ty hu => (h.ct.keep (hu.trans hmap.symm)).len ty)
  have R : Hid (W.drew.heap[b]? = some (.cells (d.cs ⟨.slice A d.M.length c, lv, Lg, hv, vl⟩ m) 73 (0, 0)) ∧ W.drew.heap[m]? = some (.map es cl)) := Lib.hid ⟨h.blk, hmap⟩
  obtain ⟨nM, hnM⟩ : ∃ n, d.M.length = n := ⟨_, rfl⟩
  obtain ⟨nC, hnC⟩ : ∃ n, d.C.length = n := ⟨_, rfl⟩
  have HE : Hid (d.enough = decide (nM / 2 + 1 ≤ nC)) := Lib.hid (by rw [← hnM, ← hnC]; rfl)
  rw [hnM] at K1 R
  rw [hnC] at HL
  have B0 : Hid (Below W.heap.size W W.drew) := Lib.hid (Below.refl _ _).drew
  clear h hr few hnM hnC hmap
  go_enter Try.func33, Try.ntmps33
  go_wp2_with fail
  refine region_heldT (S := fun u => u.heap[b]? = some (.cells (d.cs ⟨.slice A nM c, lv, Lg, hv, vl⟩ m) 73 (0, 0)) ∧ u.heap[m]? = some (.map es cl)) 11 (by kernel_rfl) (by decide) (fun inv => ?_)
  have HS := R.out
  change FirstH _ _ _ _ _ _ _ _ _ _ W.drew
  generalize W.drew = wd at *
  refine FirstH.go (i := 0) (v := .pointer (some ⟨b, 0, none⟩)) rfl rfl 3 rfl (Op.move (.tmp 0)) rfl (by kernel_rfl) (fun _ _ _ h => h) inv (fun W hS => by unfold bareO; go_simp) HS (fun inv => ?_)
  try simp only [Act.put, List.setIfInBounds_toArray, List.set_cons_zero, List.set_cons_succ]
  refine FirstH.go (i := 1) (v := .pointer (some ⟨b, 0, none⟩)) rfl rfl 4 rfl (Op.nilCheck (.tmp 3)) rfl (by kernel_rfl) (fun _ _ _ h => h) inv (fun W hS => by unfold bareO; go_simp) HS (fun inv => ?_)
  try simp only [Act.put, List.setIfInBounds_toArray, List.set_cons_zero, List.set_cons_succ]
  refine FirstH.go (i := 2) (v := .pointer (some ⟨b, 5, none⟩)) rfl rfl 5 rfl (Op.fieldAddr 73 (.tmp 4) 3) rfl (by kernel_rfl) (fun _ _ _ h => h) inv (fun W hS => by unfold bareO; go_simp) HS (fun inv => ?_)
  try simp only [Act.put, List.setIfInBounds_toArray, List.set_cons_zero, List.set_cons_succ]
  refine FirstH.go (i := 3) (v := .map (some m)) rfl rfl 6 rfl (Op.load 71 (.tmp 5)) rfl (by kernel_rfl) (fun _ _ _ h => h) inv (fun W hS => by have c0 := cell_of hS.1 0 (.int .u8 d.g) rfl; have c1 := cell_of hS.1 1 (.int .u32 d.N) rfl; have c2 := cell_of hS.1 2 (.slice A nM c) rfl; have c5 := cell_of hS.1 5 (.map (some m)) rfl; unfold bareO; go_simp) HS (fun inv => ?_)
  try simp only [Act.put, List.setIfInBounds_toArray, List.set_cons_zero, List.set_cons_succ]
  refine FirstH.go (i := 4) (v := .int .i64 nC) rfl rfl 7 rfl (Op.call { callee := .builtin .len, args := #[.tmp 6], argTypes := #[71] }) rfl (by kernel_rfl) (fun _ _ _ h => h) inv (fun W hS => by have hl := fun ty => HL.out W ty hS.2; unfold bareO; go_simp) HS (fun inv => ?_)
  try simp only [Act.put, List.setIfInBounds_toArray, List.set_cons_zero, List.set_cons_succ]
  refine FirstH.go (i := 5) (v := .pointer (some ⟨b, 0, none⟩)) rfl rfl 8 rfl (Op.move (.tmp 0)) rfl (by kernel_rfl) (fun _ _ _ h => h) inv (fun W hS => by unfold bareO; go_simp) HS (fun inv => ?_)
  try simp only [Act.put, List.setIfInBounds_toArray, List.set_cons_zero, List.set_cons_succ]
  refine FirstH.go (i := 6) (v := .pointer (some ⟨b, 0, none⟩)) rfl rfl 9 rfl (Op.nilCheck (.tmp 8)) rfl (by kernel_rfl) (fun _ _ _ h => h) inv (fun W hS => by unfold bareO; go_simp) HS (fun inv => ?_)
  try simp only [Act.put, List.setIfInBounds_toArray, List.set_cons_zero, List.set_cons_succ]
  refine FirstH.go (i := 7) (v := .pointer (some ⟨b, 0, none⟩)) rfl rfl 10 rfl (Op.fieldAddr 73 (.tmp 9) 0) rfl (by kernel_rfl) (fun _ _ _ h => h) inv (fun W hS => by unfold bareO; go_simp) HS (fun inv => ?_)
  try simp only [Act.put, List.setIfInBounds_toArray, List.set_cons_zero, List.set_cons_succ]
  refine FirstH.go (i := 8) (v := .agg #[.int .u8 d.g, .int .u32 d.N, .slice A nM c]) rfl rfl 11 rfl (Op.load 57 (.tmp 10)) rfl (by kernel_rfl) (fun _ _ _ h => h) inv (fun W hS => by have c0 := cell_of hS.1 0 (.int .u8 d.g) rfl; have c1 := cell_of hS.1 1 (.int .u32 d.N) rfl; have c2 := cell_of hS.1 2 (.slice A nM c) rfl; have c5 := cell_of hS.1 5 (.map (some m)) rfl; unfold bareO; go_simp) HS (fun inv => ?_)
  try simp only [Act.put, List.setIfInBounds_toArray, List.set_cons_zero, List.set_cons_succ]
  refine FirstH.only (i := 9) (by kernel_rfl) (by decide) inv (fun inv => wpOp_call (i := 9) rfl rfl 12 rfl (Op.call { callee := .value (.func 43), args := #[.tmp 11], argTypes := #[57] }) rfl 43 #[.agg #[.int .u8 d.g, .int .u32 d.N, .slice A nM c]] (by unfold bareO; go_simp) (K1.out wd) ?_)
  rintro e w2 ⟨rfl, b2⟩
  have HS2 : w2.heap[b]? = some (.cells (d.cs ⟨.slice A nM c, lv, Lg, hv, vl⟩ m) 73 (0, 0)) ∧ w2.heap[m]? = some (.map es cl) := ⟨(b2.block b (heap_lt HS.1)).trans HS.1, (b2.block m (heap_lt HS.2)).trans HS.2⟩
  have B2 := Lib.hid (B0.out.trans (b2.mono B0.out.size))
  clear b2 HS
  refine ⟨_, rfl, HS2, ?_⟩
  try simp only [Act.put, List.setIfInBounds_toArray, List.set_cons_zero, List.set_cons_succ]
  refine FirstH.go (i := 10) (v := .bool (decide (nM / 2 + 1 ≤ nC))) rfl rfl 13 rfl (Op.binOp .geq 3 (.tmp 7) (.tmp 12) 3) rfl (by kernel_rfl) (fun _ _ _ h => h) inv (fun W hS => by unfold bareO; go_simp; omega) HS2 (fun inv => ?_)
  try simp only [Act.put, List.setIfInBounds_toArray, List.set_cons_zero, List.set_cons_succ]
  clear HS2
  refine ⟨by kernel_rfl, ?_⟩
  simp only [List.drop_succ_cons, List.drop_zero]
  go_wp2
  go_ret
  exact ⟨ret_bool HE.out.symm, B2.out⟩
set_option maxRecDepth 100000 in
set_option maxHeartbeats 2000000 in
theorem pReady (base : Nat) (W : World) (b m : Nat) (d : Pd) (h : PP base W b m d) :
    Calls Try.prog 17 #[.pointer (some ⟨b, 0, none⟩)] W fun e W' => e = .returned (.bool d.ready) ∧ Below W.heap.size W W' := by
  have K1 := Lib.hid (pIn base W b m d h 0)
  have K2 := Lib.hid (pEnough base W b m d h)
  have HE : Hid (d.ready = (decide (d.ph = 0) && d.enough)) := Lib.hid rfl
  have B0 : Hid (Below W.heap.size W W) := Lib.hid (Below.refl _ _)
  clear h
  generalize d.enough = en at *
  cases hp : decide (d.ph = 0)
  all_goals
    rw [hp] at K1 HE
    clear hp
  · go_enter Try.func17, Try.ntmps17
    go_wp2_with (go_at_call 30; refine K1.out.mono ?_; rintro e w1 ⟨rfl, rfl⟩)
    go_ret
    exact ⟨ret_bool HE.out.symm, B0.out⟩
  · go_enter Try.func17, Try.ntmps17
    go_wp2_with (first
      | (go_at_call 30; refine K1.out.mono ?_; rintro e w1 ⟨rfl, rfl⟩)
      | (go_at_call 33; refine K2.out.mono ?_; rintro e w2 ⟨rfl, b2⟩; have B2 := Lib.hid b2; clear b2))
    go_ret
    exact ⟨ret_bool HE.out.symm, B2.out⟩

end Go.Proofs.Ytfkmodmgihadkaa
