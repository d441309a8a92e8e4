/-
  The program's table: made, New, old, far, by exact answers. Condition: the table lies in memory, numbers fit their kinds.
-/
import Derived.Test.YtldbmmganicliaaAma
import Derived.Test.YtldbmmganicliaaAdn
import Derived.Deep.RegionHeld3
namespace Go.Proofs.Ytldbmmganicliaa
set_option linter.unusedSimpArgs false
set_option linter.unusedVariables false
open Go.RowKit Go.Maps Go.Sort

theorem neqMapA (W : World) (r : Option Nat) : (binOp .neq 82 (.map r) (.map none)).run Try.prog W = .ok (.bool (!r.isNone)) W := by
  cases r <;> kernel_rfl
set_option maxRecDepth 100000 in
set_option maxHeartbeats 2000000 in
theorem aMade (W : World) (b m k c : Nat) (t : Tt) (h : PT W b m k c t) :
    Calls Try.prog 35 #[.pointer (some ⟨b, 0, none⟩)] W fun e W' => e = .returned (.bool true) ∧ W = W' := by
  have c1 := cell_of h.blk 1 (.map (some m)) rfl
  clear h
  have hm := neqMapA
  go_enter Try.func35, Try.ntmps35
  go_wp2
  go_ret
  exact ⟨rfl, rfl⟩
theorem newPT (W : World) (z : Int) (hz : 1 ≤ z ∧ z ≤ 16) : PT (((W.alloc (.map #[] 0)).alloc (.map #[] 0)).alloc (.cells #[.int .u32 z, .map (some W.heap.size), .map (some (W.heap.size + 1))] 85)) (W.heap.size + 2) W.heap.size (W.heap.size + 1) 0 ⟨z, [], []⟩ := by
  refine ⟨?_, ⟨0, .map [], Nat.le_refl _, ((World.ownsMap_made W _ _ _).kept (World.grownBy_alloc _ _ none) (by simp)).kept (World.grownBy_alloc _ _ none) (by simp), MapG.nil⟩, ⟨0, .map [], Nat.le_refl _, ?_, MapG.nil⟩, by omega, ⟨(fun _ h => by cases h), List.Pairwise.nil, (fun _ h => by cases h), (fun _ h => by cases h), (fun _ h => by cases h), List.Pairwise.nil, hz⟩⟩
  · have := heap_alloc_new ((W.alloc (.map #[] 0)).alloc (.map #[] 0)) (.cells #[.int .u32 z, .map (some W.heap.size), .map (some (W.heap.size + 1))] 85)
    simpa using this
  · have := (World.ownsMap_made (W.alloc (.map #[] 0)) Try.prog 31 fElem).kept (World.grownBy_alloc _ (.cells #[.int .u32 z, .map (some W.heap.size), .map (some (W.heap.size + 1))] 85) none) (by simp)
    simpa using this
set_option maxRecDepth 100000 in
set_option maxHeartbeats 2000000 in
theorem aNew (z : Int) (W : World) :
    Calls Try.prog 8 #[.int .i64 z] W fun e W' => e = .returned (.pointer (some ⟨W.heap.size + 2, 0, none⟩)) ∧ PT W' (W.heap.size + 2) W.heap.size (W.heap.size + 1) 0 ⟨min (max z 1) 16, [], []⟩ ∧ Below W.heap.size W W' ∧ W'.heap.size = W.heap.size + 3 := by
  have hmm := @run_makeMap Try.prog
  have hm : 1 ≤ min (max z 1) 16 ∧ min (max z 1) 16 ≤ 16 := by omega
  have HM := Lib.hid hm
  obtain ⟨q, hq⟩ : ∃ q, min (max z 1) 16 = q := ⟨_, rfl⟩
  have HQ := Lib.hid hq
  rw [hq] at HM
  have hq2 : (q % 4294967296) = q := by have := HM.out; omega
  rw [hq]
  go_enter Try.func8, Try.ntmps8
  go_wp2
  all_goals
    go_ret
    have e : q = 1 ∨ q = z ∨ q = 16 := by have := HQ.out; omega
    have H2 := HQ.out
    have H3 := HM.out
    refine ⟨by simp, ?_, (((Below.refl _ _).alloc (Nat.le_refl _) _).alloc (by simp) _).alloc (by simp; omega) _, by simp⟩
    first
      | exact newPT W _ HM.out
      | (have e2 : q = 1 := (by omega); subst e2; exact newPT W _ HM.out)
      | (have e2 : q = 16 := (by omega); subst e2; exact newPT W _ HM.out)
      | (have e2 : z = q := (by omega); subst e2; exact newPT W _ HM.out)
theorem FirstH.goS {P : Program} {ops : Array Oper} {Q : Exit → Act → World → Prop} {S : World → Prop} {n i g f : Nat} {oi : Oper} {Lq : Act → World → Prop} {done : Array Bool} {a : Act} {w : World} (hi : ops[i]? = some oi) (hgd : Region.wanted oi (yielded ops a.tmps) = false) (d : Tmp) (hd : oi.dst = some d)
    (hB : (Region.noSelect ops && Region.sinkB .any ops n && Region.chainB .any ops n && decide (n < ops.size) && decide (i < n) && Region.free .any ops done i && (Region.ready .any ops done).contains i) = true)
    (hQ : ∀ c a w, Q (.panic c) (a.put (some d) undef) w → Q (.panic c) a w) (inv : HeadInv .any ops n done) (hS : S w)
    (H : HeadInv .any ops n (done.setIfInBounds i true) → FirstH P .any ops Q S n (fun done' a' w' => Region.seqB .any ops g n done' = true ∧ Lq a' w') f (done.setIfInBounds i true) (a.put (some d) undef) w) :
    FirstH P .any ops Q S n (fun done' a' w' => Region.seqB .any ops g n done' = true ∧ Lq a' w') (f + 1) done a w := by
  rw [← hd] at hQ H
  simp only [Bool.and_eq_true, decide_eq_true_eq] at hB
  obtain ⟨⟨⟨⟨⟨⟨h1, h2⟩, h3⟩, h4⟩, h5⟩, h6⟩, h7⟩ := hB
  exact FirstH.step hi h1 h6 h7 hQ h2 h3 h4 h5 (fun _ _ _ hL => seqB_ready hL.1) inv (Or.inr ⟨hgd, rfl⟩) hS H
set_option maxRecDepth 100000 in
set_option maxHeartbeats 4000000 in
theorem aOld (W : World) (b m k c : Nat) (t : Tt) (h : PT W b m k c t) (x : I10) (rx : x.Rng) :
    Calls Try.prog 39 #[.pointer (some ⟨b, 0, none⟩), .agg #[.int .u8 x.n, .int .u16 x.l, .int .u32 x.s, .int .u8 x.d, .int .u8 x.a0, .int .u8 x.a1, .int .u8 x.b0, .int .u8 x.b1, .int .u8 x.c0, .int .u8 x.c1]] W fun e W' => e = .returned (.bool (t.old x)) ∧ Below W.heap.size W W' := by
  obtain ⟨W1, hW1⟩ : ∃ z, W.alloc (.cells #[.int .u8 x.n, .int .u16 x.l, .int .u32 x.s, .int .u8 x.d, .int .u8 x.a0, .int .u8 x.a1, .int .u8 x.b0, .int .u8 x.b1, .int .u8 x.c0, .int .u8 x.c1] 37) = z := ⟨_, rfl⟩
  have b1 : Below W.heap.size W W1 := by rw [← hW1]; exact (Below.refl _ _).alloc (Nat.le_refl _) _
  obtain ⟨kx, hkx⟩ : ∃ z, W.heap.size = z := ⟨_, rfl⟩
  have R1 : W1.heap[kx]? = some (.cells #[.int .u8 x.n, .int .u16 x.l, .int .u32 x.s, .int .u8 x.d, .int .u8 x.a0, .int .u8 x.a1, .int .u8 x.b0, .int .u8 x.b1, .int .u8 x.c0, .int .u8 x.c1] 37 (0, 0)) := by rw [← hW1, ← hkx]; exact heap_alloc_new _ _
  have h1 := h.below b1
  obtain ⟨es, cl, hmap, hl⟩ := h1.lookF x.n x.l rx.n rx.l
  obtain ⟨f, hf⟩ : ∃ f, floorF t.F x.n x.l = f := ⟨_, rfl⟩
  have hs1 : t.old x = (decide (x.d = 0) && decide (x.s ≤ f)) := by rw [← hf]; rfl
  rw [hf] at hl
  have HL := Lib.hid hl
  have q0 := h1.blk
  have hfr : 0 ≤ f ∧ f ≤ 4294967295 := hf ▸ floorF_rng h.ok.frng x.n x.l
  have hfm : f ≤ 1048576 := hf ▸ floorF_max h.ok.fmax x.n x.l
  have hwn := h.ok.win
  have hsm : (f + t.win) % 4294967296 = f + t.win := by omega
  have HS0 : Hid (W1.heap[b]? = some (.cells #[.int .u32 t.win, .map (some m), .map (some k)] 85 (0, 0)) ∧ W1.heap[kx]? = some (.cells #[.int .u8 x.n, .int .u16 x.l, .int .u32 x.s, .int .u8 x.d, .int .u8 x.a0, .int .u8 x.a1, .int .u8 x.b0, .int .u8 x.b1, .int .u8 x.c0, .int .u8 x.c1] 37 (0, 0)) ∧ W1.heap[k]? = some (.map es cl)) := Lib.hid ⟨q0, R1, hmap⟩
  have B1 : Hid (Below kx W W1) := Lib.hid (hkx ▸ b1)
  have HW1 := Lib.hid hW1
  have HKX := Lib.hid hkx
  clear h h1 b1 hW1 R1 q0 hmap hl rx hf hfm
  rw [hkx]
  go_enter Try.func39, Try.ntmps39
  go_wp2_with (first | rw [HW1.out, HKX.out] | fail)
  rw [HW1.out]
  refine region_heldT (S := fun X : World => (X.heap[b]? = some (.cells #[.int .u32 t.win, .map (some m), .map (some k)] 85 (0, 0)) ∧ X.heap[kx]? = some (.cells #[.int .u8 x.n, .int .u16 x.l, .int .u32 x.s, .int .u8 x.d, .int .u8 x.a0, .int .u8 x.a1, .int .u8 x.b0, .int .u8 x.b1, .int .u8 x.c0, .int .u8 x.c1] 37 (0, 0)) ∧ X.heap[k]? = some (.map es cl))) 15 (by kernel_rfl) (by decide) (fun inv => ?_)
  have HS : (W1.drew.heap[b]? = some (.cells #[.int .u32 t.win, .map (some m), .map (some k)] 85 (0, 0)) ∧ W1.drew.heap[kx]? = some (.cells #[.int .u8 x.n, .int .u16 x.l, .int .u32 x.s, .int .u8 x.d, .int .u8 x.a0, .int .u8 x.a1, .int .u8 x.b0, .int .u8 x.b1, .int .u8 x.c0, .int .u8 x.c1] 37 (0, 0)) ∧ W1.drew.heap[k]? = some (.map es cl)) := HS0.out
  have BZ : Hid (Below kx W W1.drew) := Lib.hid B1.out.drew
  change FirstH _ _ _ _ _ _ _ _ _ _ W1.drew
  generalize W1.drew = wd at *
  by_cases hd : x.d = 0
  · have hd1 : decide (x.d = 0) = true := by simpa using hd
    have hv : t.old x = decide (x.s ≤ f) := by rw [hs1, hd1, Bool.true_and]
    have HV := Lib.hid hv
    clear hv hs1
    refine FirstH.go (i := 0) (v := .pointer (some ⟨kx, 3, none⟩)) rfl rfl 5 rfl (Op.fieldAddr 37 (Operand.tmp 3) 2) rfl (by kernel_rfl) (fun _ _ _ h => h) inv (fun W hS => by unfold bareO; go_simp) HS (fun inv => ?_)
    try simp only [Act.put, List.setIfInBounds_toArray, List.set_cons_zero, List.set_cons_succ]
    refine FirstH.go (i := 1) (v := .int .u8 x.d) rfl rfl 6 rfl (Op.load 5 (Operand.tmp 5)) rfl (by kernel_rfl) (fun _ _ _ h => h) inv (fun W hS => by have c := cell_of hS.2.1 3 (.int .u8 x.d) rfl; unfold bareO; go_simp) HS (fun inv => ?_)
    try simp only [Act.put, List.setIfInBounds_toArray, List.set_cons_zero, List.set_cons_succ]
    refine FirstH.go (i := 2) (v := .bool true) rfl rfl 7 rfl (Op.binOp BinOp.eql 5 (Operand.tmp 6) (Operand.const (Value.int IntKind.u8 0)) 5) rfl (by kernel_rfl) (fun _ _ _ h => h) inv (fun W hS => by unfold bareO; go_simp; try exact hd1) HS (fun inv => ?_)
    try simp only [Act.put, List.setIfInBounds_toArray, List.set_cons_zero, List.set_cons_succ]
    refine FirstH.go (i := 3) (v := .bool true) rfl rfl 8 rfl (Op.move (Operand.tmp 7)) rfl (by kernel_rfl) (fun _ _ _ h => h) inv (fun W hS => by unfold bareO; go_simp) HS (fun inv => ?_)
    try simp only [Act.put, List.setIfInBounds_toArray, List.set_cons_zero, List.set_cons_succ]
    refine FirstH.goG (i := 4) (v := .pointer (some ⟨kx, 2, none⟩)) rfl (by rfl) 9 rfl (Op.fieldAddr 37 (Operand.tmp 3) 1) rfl (by kernel_rfl) (fun _ _ _ h => h) inv (fun W hS => by unfold bareO; go_simp) HS (fun inv => ?_)
    try simp only [Act.put, List.setIfInBounds_toArray, List.set_cons_zero, List.set_cons_succ]
    refine FirstH.goG (i := 5) (v := .int .u32 x.s) rfl (by rfl) 10 rfl (Op.load 32 (Operand.tmp 9)) rfl (by kernel_rfl) (fun _ _ _ h => h) inv (fun W hS => by have c := cell_of hS.2.1 2 (.int .u32 x.s) rfl; unfold bareO; go_simp) HS (fun inv => ?_)
    try simp only [Act.put, List.setIfInBounds_toArray, List.set_cons_zero, List.set_cons_succ]
    refine FirstH.goG (i := 6) (v := .pointer (some ⟨b, 0, none⟩)) rfl (by rfl) 11 rfl (Op.move (Operand.tmp 0)) rfl (by kernel_rfl) (fun _ _ _ h => h) inv (fun W hS => by unfold bareO; go_simp) HS (fun inv => ?_)
    try simp only [Act.put, List.setIfInBounds_toArray, List.set_cons_zero, List.set_cons_succ]
    refine FirstH.goG (i := 7) (v := .pointer (some ⟨b, 0, none⟩)) rfl (by rfl) 12 rfl (Op.nilCheck (Operand.tmp 11)) rfl (by kernel_rfl) (fun _ _ _ h => h) inv (fun W hS => by unfold bareO; go_simp) HS (fun inv => ?_)
    try simp only [Act.put, List.setIfInBounds_toArray, List.set_cons_zero, List.set_cons_succ]
    refine FirstH.goG (i := 8) (v := .pointer (some ⟨b, 2, none⟩)) rfl (by rfl) 13 rfl (Op.fieldAddr 85 (Operand.tmp 12) 2) rfl (by kernel_rfl) (fun _ _ _ h => h) inv (fun W hS => by unfold bareO; go_simp) HS (fun inv => ?_)
    try simp only [Act.put, List.setIfInBounds_toArray, List.set_cons_zero, List.set_cons_succ]
    refine FirstH.goG (i := 9) (v := .map (some k)) rfl (by rfl) 14 rfl (Op.load 83 (Operand.tmp 13)) rfl (by kernel_rfl) (fun _ _ _ h => h) inv (fun W hS => by have c := cell_of hS.1 2 (.map (some k)) rfl; unfold bareO; go_simp) HS (fun inv => ?_)
    try simp only [Act.put, List.setIfInBounds_toArray, List.set_cons_zero, List.set_cons_succ]
    refine FirstH.goG (i := 10) (v := .pointer (some ⟨kx, 0, none⟩)) rfl (by rfl) 15 rfl (Op.fieldAddr 37 (Operand.tmp 3) 0) rfl (by kernel_rfl) (fun _ _ _ h => h) inv (fun W hS => by unfold bareO; go_simp) HS (fun inv => ?_)
    try simp only [Act.put, List.setIfInBounds_toArray, List.set_cons_zero, List.set_cons_succ]
    refine FirstH.goG (i := 11) (v := .agg #[.int .u8 x.n, .int .u16 x.l]) rfl (by rfl) 16 rfl (Op.load 31 (Operand.tmp 15)) rfl (by kernel_rfl) (fun _ _ _ h => h) inv (fun W hS => by have c0 := cell_of hS.2.1 0 (.int .u8 x.n) rfl; have c1 := cell_of hS.2.1 1 (.int .u16 x.l) rfl; unfold bareO; go_simp) HS (fun inv => ?_)
    try simp only [Act.put, List.setIfInBounds_toArray, List.set_cons_zero, List.set_cons_succ]
    refine FirstH.goG (i := 12) (v := .int .u32 f) rfl (by rfl) 17 rfl (Op.lookup 83 (Operand.tmp 14) (Operand.tmp 16) false) rfl (by kernel_rfl) (fun _ _ _ h => h) inv (fun W hS => by have l := HL.out W hS.2.2; unfold bareO; go_simp) HS (fun inv => ?_)
    try simp only [Act.put, List.setIfInBounds_toArray, List.set_cons_zero, List.set_cons_succ]
    refine FirstH.goG (i := 13) (v := .bool (decide (x.s ≤ f))) rfl (by rfl) 18 rfl (Op.binOp BinOp.leq 32 (Operand.tmp 10) (Operand.tmp 17) 32) rfl (by kernel_rfl) (fun _ _ _ h => h) inv (fun W hS => by unfold bareO; go_simp) HS (fun inv => ?_)
    try simp only [Act.put, List.setIfInBounds_toArray, List.set_cons_zero, List.set_cons_succ]
    refine FirstH.go (i := 14) (v := .bool (decide (x.s ≤ f))) rfl rfl 19 rfl (Op.pick (Operand.tmp 8) (Operand.tmp 18) (Operand.const (Value.bool false))) rfl (by kernel_rfl) (fun _ _ _ h => h) inv (fun W hS => by unfold bareO; go_simp) HS (fun inv => ?_)
    try simp only [Act.put, List.setIfInBounds_toArray, List.set_cons_zero, List.set_cons_succ]
    refine ⟨by kernel_rfl, ?_⟩
    simp only [List.drop_succ_cons, List.drop_zero]
    go_wp2
    go_ret
    rw [HV.out]
    exact ⟨rfl, BZ.out⟩
  · have hd1 : decide (x.d = 0) = false := by simpa using hd
    have hv : t.old x = false := by rw [hs1, hd1, Bool.false_and]
    have HV := Lib.hid hv
    clear hv hs1
    refine FirstH.go (i := 0) (v := .pointer (some ⟨kx, 3, none⟩)) rfl rfl 5 rfl (Op.fieldAddr 37 (Operand.tmp 3) 2) rfl (by kernel_rfl) (fun _ _ _ h => h) inv (fun W hS => by unfold bareO; go_simp) HS (fun inv => ?_)
    try simp only [Act.put, List.setIfInBounds_toArray, List.set_cons_zero, List.set_cons_succ]
    refine FirstH.go (i := 1) (v := .int .u8 x.d) rfl rfl 6 rfl (Op.load 5 (Operand.tmp 5)) rfl (by kernel_rfl) (fun _ _ _ h => h) inv (fun W hS => by have c := cell_of hS.2.1 3 (.int .u8 x.d) rfl; unfold bareO; go_simp) HS (fun inv => ?_)
    try simp only [Act.put, List.setIfInBounds_toArray, List.set_cons_zero, List.set_cons_succ]
    refine FirstH.go (i := 2) (v := .bool false) rfl rfl 7 rfl (Op.binOp BinOp.eql 5 (Operand.tmp 6) (Operand.const (Value.int IntKind.u8 0)) 5) rfl (by kernel_rfl) (fun _ _ _ h => h) inv (fun W hS => by unfold bareO; go_simp; try exact hd1) HS (fun inv => ?_)
    try simp only [Act.put, List.setIfInBounds_toArray, List.set_cons_zero, List.set_cons_succ]
    refine FirstH.go (i := 3) (v := .bool false) rfl rfl 8 rfl (Op.move (Operand.tmp 7)) rfl (by kernel_rfl) (fun _ _ _ h => h) inv (fun W hS => by unfold bareO; go_simp) HS (fun inv => ?_)
    try simp only [Act.put, List.setIfInBounds_toArray, List.set_cons_zero, List.set_cons_succ]
    refine FirstH.goS (i := 4) rfl (by rfl) 9 rfl (by kernel_rfl) (fun _ _ _ h => h) inv HS (fun inv => ?_)
    try simp only [Act.put, List.setIfInBounds_toArray, List.set_cons_zero, List.set_cons_succ]
    refine FirstH.goS (i := 5) rfl (by rfl) 10 rfl (by kernel_rfl) (fun _ _ _ h => h) inv HS (fun inv => ?_)
    try simp only [Act.put, List.setIfInBounds_toArray, List.set_cons_zero, List.set_cons_succ]
    refine FirstH.goS (i := 6) rfl (by rfl) 11 rfl (by kernel_rfl) (fun _ _ _ h => h) inv HS (fun inv => ?_)
    try simp only [Act.put, List.setIfInBounds_toArray, List.set_cons_zero, List.set_cons_succ]
    refine FirstH.goS (i := 7) rfl (by rfl) 12 rfl (by kernel_rfl) (fun _ _ _ h => h) inv HS (fun inv => ?_)
    try simp only [Act.put, List.setIfInBounds_toArray, List.set_cons_zero, List.set_cons_succ]
    refine FirstH.goS (i := 8) rfl (by rfl) 13 rfl (by kernel_rfl) (fun _ _ _ h => h) inv HS (fun inv => ?_)
    try simp only [Act.put, List.setIfInBounds_toArray, List.set_cons_zero, List.set_cons_succ]
    refine FirstH.goS (i := 9) rfl (by rfl) 14 rfl (by kernel_rfl) (fun _ _ _ h => h) inv HS (fun inv => ?_)
    try simp only [Act.put, List.setIfInBounds_toArray, List.set_cons_zero, List.set_cons_succ]
    refine FirstH.goS (i := 10) rfl (by rfl) 15 rfl (by kernel_rfl) (fun _ _ _ h => h) inv HS (fun inv => ?_)
    try simp only [Act.put, List.setIfInBounds_toArray, List.set_cons_zero, List.set_cons_succ]
    refine FirstH.goS (i := 11) rfl (by rfl) 16 rfl (by kernel_rfl) (fun _ _ _ h => h) inv HS (fun inv => ?_)
    try simp only [Act.put, List.setIfInBounds_toArray, List.set_cons_zero, List.set_cons_succ]
    refine FirstH.goS (i := 12) rfl (by rfl) 17 rfl (by kernel_rfl) (fun _ _ _ h => h) inv HS (fun inv => ?_)
    try simp only [Act.put, List.setIfInBounds_toArray, List.set_cons_zero, List.set_cons_succ]
    refine FirstH.goS (i := 13) rfl (by rfl) 18 rfl (by kernel_rfl) (fun _ _ _ h => h) inv HS (fun inv => ?_)
    try simp only [Act.put, List.setIfInBounds_toArray, List.set_cons_zero, List.set_cons_succ]
    refine FirstH.go (i := 14) (v := .bool false) rfl rfl 19 rfl (Op.pick (Operand.tmp 8) (Operand.tmp 18) (Operand.const (Value.bool false))) rfl (by kernel_rfl) (fun _ _ _ h => h) inv (fun W hS => by unfold bareO; go_simp) HS (fun inv => ?_)
    try simp only [Act.put, List.setIfInBounds_toArray, List.set_cons_zero, List.set_cons_succ]
    refine ⟨by kernel_rfl, ?_⟩
    simp only [List.drop_succ_cons, List.drop_zero]
    go_wp2
    go_ret
    rw [HV.out]
    exact ⟨rfl, BZ.out⟩
set_option maxRecDepth 100000 in
set_option maxHeartbeats 4000000 in
theorem aFar (W : World) (b m k c : Nat) (t : Tt) (h : PT W b m k c t) (x : I10) (rx : x.Rng) :
    Calls Try.prog 47 #[.pointer (some ⟨b, 0, none⟩), .agg #[.int .u8 x.n, .int .u16 x.l, .int .u32 x.s, .int .u8 x.d, .int .u8 x.a0, .int .u8 x.a1, .int .u8 x.b0, .int .u8 x.b1, .int .u8 x.c0, .int .u8 x.c1]] W fun e W' => e = .returned (.bool (t.far x)) ∧ Below W.heap.size W W' := by
  obtain ⟨W1, hW1⟩ : ∃ z, W.alloc (.cells #[.int .u8 x.n, .int .u16 x.l, .int .u32 x.s, .int .u8 x.d, .int .u8 x.a0, .int .u8 x.a1, .int .u8 x.b0, .int .u8 x.b1, .int .u8 x.c0, .int .u8 x.c1] 37) = z := ⟨_, rfl⟩
  have b1 : Below W.heap.size W W1 := by rw [← hW1]; exact (Below.refl _ _).alloc (Nat.le_refl _) _
  obtain ⟨kx, hkx⟩ : ∃ z, W.heap.size = z := ⟨_, rfl⟩
  have R1 : W1.heap[kx]? = some (.cells #[.int .u8 x.n, .int .u16 x.l, .int .u32 x.s, .int .u8 x.d, .int .u8 x.a0, .int .u8 x.a1, .int .u8 x.b0, .int .u8 x.b1, .int .u8 x.c0, .int .u8 x.c1] 37 (0, 0)) := by rw [← hW1, ← hkx]; exact heap_alloc_new _ _
  have h1 := h.below b1
  obtain ⟨es, cl, hmap, hl⟩ := h1.lookF x.n x.l rx.n rx.l
  obtain ⟨f, hf⟩ : ∃ f, floorF t.F x.n x.l = f := ⟨_, rfl⟩
  have hs1 : t.far x = (decide (x.d = 0) && decide (t.win < x.s - f)) := by rw [← hf]; rfl
  rw [hf] at hl
  have HL := Lib.hid hl
  have q0 := h1.blk
  have hfr : 0 ≤ f ∧ f ≤ 4294967295 := hf ▸ floorF_rng h.ok.frng x.n x.l
  have hfm : f ≤ 1048576 := hf ▸ floorF_max h.ok.fmax x.n x.l
  have hwn := h.ok.win
  have hsm : (f + t.win) % 4294967296 = f + t.win := by omega
  have HS0 : Hid (W1.heap[b]? = some (.cells #[.int .u32 t.win, .map (some m), .map (some k)] 85 (0, 0)) ∧ W1.heap[kx]? = some (.cells #[.int .u8 x.n, .int .u16 x.l, .int .u32 x.s, .int .u8 x.d, .int .u8 x.a0, .int .u8 x.a1, .int .u8 x.b0, .int .u8 x.b1, .int .u8 x.c0, .int .u8 x.c1] 37 (0, 0)) ∧ W1.heap[k]? = some (.map es cl)) := Lib.hid ⟨q0, R1, hmap⟩
  have B1 : Hid (Below kx W W1) := Lib.hid (hkx ▸ b1)
  have HW1 := Lib.hid hW1
  have HKX := Lib.hid hkx
  clear h h1 b1 hW1 R1 q0 hmap hl rx hf hfm
  rw [hkx]
  go_enter Try.func47, Try.ntmps47
  go_wp2_with (first | rw [HW1.out, HKX.out] | fail)
  rw [HW1.out]
  refine region_heldT (S := fun X : World => (X.heap[b]? = some (.cells #[.int .u32 t.win, .map (some m), .map (some k)] 85 (0, 0)) ∧ X.heap[kx]? = some (.cells #[.int .u8 x.n, .int .u16 x.l, .int .u32 x.s, .int .u8 x.d, .int .u8 x.a0, .int .u8 x.a1, .int .u8 x.b0, .int .u8 x.b1, .int .u8 x.c0, .int .u8 x.c1] 37 (0, 0)) ∧ X.heap[k]? = some (.map es cl))) 20 (by kernel_rfl) (by decide) (fun inv => ?_)
  have HS : (W1.drew.heap[b]? = some (.cells #[.int .u32 t.win, .map (some m), .map (some k)] 85 (0, 0)) ∧ W1.drew.heap[kx]? = some (.cells #[.int .u8 x.n, .int .u16 x.l, .int .u32 x.s, .int .u8 x.d, .int .u8 x.a0, .int .u8 x.a1, .int .u8 x.b0, .int .u8 x.b1, .int .u8 x.c0, .int .u8 x.c1] 37 (0, 0)) ∧ W1.drew.heap[k]? = some (.map es cl)) := HS0.out
  have BZ : Hid (Below kx W W1.drew) := Lib.hid B1.out.drew
  change FirstH _ _ _ _ _ _ _ _ _ _ W1.drew
  generalize W1.drew = wd at *
  by_cases hd : x.d = 0
  · have hd1 : decide (x.d = 0) = true := by simpa using hd
    have hv : t.far x = decide (t.win < x.s - f) := by rw [hs1, hd1, Bool.true_and]
    have HV := Lib.hid hv
    clear hv hs1
    refine FirstH.go (i := 0) (v := .pointer (some ⟨kx, 3, none⟩)) rfl rfl 5 rfl (Op.fieldAddr 37 (Operand.tmp 3) 2) rfl (by kernel_rfl) (fun _ _ _ h => h) inv (fun W hS => by unfold bareO; go_simp) HS (fun inv => ?_)
    try simp only [Act.put, List.setIfInBounds_toArray, List.set_cons_zero, List.set_cons_succ]
    refine FirstH.go (i := 1) (v := .int .u8 x.d) rfl rfl 6 rfl (Op.load 5 (Operand.tmp 5)) rfl (by kernel_rfl) (fun _ _ _ h => h) inv (fun W hS => by have c := cell_of hS.2.1 3 (.int .u8 x.d) rfl; unfold bareO; go_simp) HS (fun inv => ?_)
    try simp only [Act.put, List.setIfInBounds_toArray, List.set_cons_zero, List.set_cons_succ]
    refine FirstH.go (i := 2) (v := .bool true) rfl rfl 7 rfl (Op.binOp BinOp.eql 5 (Operand.tmp 6) (Operand.const (Value.int IntKind.u8 0)) 5) rfl (by kernel_rfl) (fun _ _ _ h => h) inv (fun W hS => by unfold bareO; go_simp; try exact hd1) HS (fun inv => ?_)
    try simp only [Act.put, List.setIfInBounds_toArray, List.set_cons_zero, List.set_cons_succ]
    refine FirstH.go (i := 3) (v := .bool true) rfl rfl 8 rfl (Op.move (Operand.tmp 7)) rfl (by kernel_rfl) (fun _ _ _ h => h) inv (fun W hS => by unfold bareO; go_simp) HS (fun inv => ?_)
    try simp only [Act.put, List.setIfInBounds_toArray, List.set_cons_zero, List.set_cons_succ]
    refine FirstH.goG (i := 4) (v := .pointer (some ⟨kx, 2, none⟩)) rfl (by rfl) 9 rfl (Op.fieldAddr 37 (Operand.tmp 3) 1) rfl (by kernel_rfl) (fun _ _ _ h => h) inv (fun W hS => by unfold bareO; go_simp) HS (fun inv => ?_)
    try simp only [Act.put, List.setIfInBounds_toArray, List.set_cons_zero, List.set_cons_succ]
    refine FirstH.goG (i := 5) (v := .int .u32 x.s) rfl (by rfl) 10 rfl (Op.load 32 (Operand.tmp 9)) rfl (by kernel_rfl) (fun _ _ _ h => h) inv (fun W hS => by have c := cell_of hS.2.1 2 (.int .u32 x.s) rfl; unfold bareO; go_simp) HS (fun inv => ?_)
    try simp only [Act.put, List.setIfInBounds_toArray, List.set_cons_zero, List.set_cons_succ]
    refine FirstH.goG (i := 6) (v := .pointer (some ⟨b, 0, none⟩)) rfl (by rfl) 11 rfl (Op.move (Operand.tmp 0)) rfl (by kernel_rfl) (fun _ _ _ h => h) inv (fun W hS => by unfold bareO; go_simp) HS (fun inv => ?_)
    try simp only [Act.put, List.setIfInBounds_toArray, List.set_cons_zero, List.set_cons_succ]
    refine FirstH.goG (i := 7) (v := .pointer (some ⟨b, 0, none⟩)) rfl (by rfl) 12 rfl (Op.nilCheck (Operand.tmp 11)) rfl (by kernel_rfl) (fun _ _ _ h => h) inv (fun W hS => by unfold bareO; go_simp) HS (fun inv => ?_)
    try simp only [Act.put, List.setIfInBounds_toArray, List.set_cons_zero, List.set_cons_succ]
    refine FirstH.goG (i := 8) (v := .pointer (some ⟨b, 2, none⟩)) rfl (by rfl) 13 rfl (Op.fieldAddr 85 (Operand.tmp 12) 2) rfl (by kernel_rfl) (fun _ _ _ h => h) inv (fun W hS => by unfold bareO; go_simp) HS (fun inv => ?_)
    try simp only [Act.put, List.setIfInBounds_toArray, List.set_cons_zero, List.set_cons_succ]
    refine FirstH.goG (i := 9) (v := .map (some k)) rfl (by rfl) 14 rfl (Op.load 83 (Operand.tmp 13)) rfl (by kernel_rfl) (fun _ _ _ h => h) inv (fun W hS => by have c := cell_of hS.1 2 (.map (some k)) rfl; unfold bareO; go_simp) HS (fun inv => ?_)
    try simp only [Act.put, List.setIfInBounds_toArray, List.set_cons_zero, List.set_cons_succ]
    refine FirstH.goG (i := 10) (v := .pointer (some ⟨kx, 0, none⟩)) rfl (by rfl) 15 rfl (Op.fieldAddr 37 (Operand.tmp 3) 0) rfl (by kernel_rfl) (fun _ _ _ h => h) inv (fun W hS => by unfold bareO; go_simp) HS (fun inv => ?_)
    try simp only [Act.put, List.setIfInBounds_toArray, List.set_cons_zero, List.set_cons_succ]
    refine FirstH.goG (i := 11) (v := .agg #[.int .u8 x.n, .int .u16 x.l]) rfl (by rfl) 16 rfl (Op.load 31 (Operand.tmp 15)) rfl (by kernel_rfl) (fun _ _ _ h => h) inv (fun W hS => by have c0 := cell_of hS.2.1 0 (.int .u8 x.n) rfl; have c1 := cell_of hS.2.1 1 (.int .u16 x.l) rfl; unfold bareO; go_simp) HS (fun inv => ?_)
    try simp only [Act.put, List.setIfInBounds_toArray, List.set_cons_zero, List.set_cons_succ]
    refine FirstH.goG (i := 12) (v := .int .u32 f) rfl (by rfl) 17 rfl (Op.lookup 83 (Operand.tmp 14) (Operand.tmp 16) false) rfl (by kernel_rfl) (fun _ _ _ h => h) inv (fun W hS => by have l := HL.out W hS.2.2; unfold bareO; go_simp) HS (fun inv => ?_)
    try simp only [Act.put, List.setIfInBounds_toArray, List.set_cons_zero, List.set_cons_succ]
    refine FirstH.goG (i := 13) (v := .pointer (some ⟨b, 0, none⟩)) rfl (by rfl) 18 rfl (Op.move (Operand.tmp 0)) rfl (by kernel_rfl) (fun _ _ _ h => h) inv (fun W hS => by unfold bareO; go_simp) HS (fun inv => ?_)
    try simp only [Act.put, List.setIfInBounds_toArray, List.set_cons_zero, List.set_cons_succ]
    refine FirstH.goG (i := 14) (v := .pointer (some ⟨b, 0, none⟩)) rfl (by rfl) 19 rfl (Op.nilCheck (Operand.tmp 18)) rfl (by kernel_rfl) (fun _ _ _ h => h) inv (fun W hS => by unfold bareO; go_simp) HS (fun inv => ?_)
    try simp only [Act.put, List.setIfInBounds_toArray, List.set_cons_zero, List.set_cons_succ]
    refine FirstH.goG (i := 15) (v := .pointer (some ⟨b, 0, none⟩)) rfl (by rfl) 20 rfl (Op.fieldAddr 85 (Operand.tmp 19) 0) rfl (by kernel_rfl) (fun _ _ _ h => h) inv (fun W hS => by unfold bareO; go_simp) HS (fun inv => ?_)
    try simp only [Act.put, List.setIfInBounds_toArray, List.set_cons_zero, List.set_cons_succ]
    refine FirstH.goG (i := 16) (v := .int .u32 t.win) rfl (by rfl) 21 rfl (Op.load 32 (Operand.tmp 20)) rfl (by kernel_rfl) (fun _ _ _ h => h) inv (fun W hS => by have c := cell_of hS.1 0 (.int .u32 t.win) rfl; unfold bareO; go_simp) HS (fun inv => ?_)
    try simp only [Act.put, List.setIfInBounds_toArray, List.set_cons_zero, List.set_cons_succ]
    refine FirstH.goG (i := 17) (v := .int .u32 (f + t.win)) rfl (by rfl) 22 rfl (Op.binOp BinOp.add 32 (Operand.tmp 17) (Operand.tmp 21) 32) rfl (by kernel_rfl) (fun _ _ _ h => h) inv (fun W hS => by unfold bareO; go_simp; try exact hsm) HS (fun inv => ?_)
    try simp only [Act.put, List.setIfInBounds_toArray, List.set_cons_zero, List.set_cons_succ]
    refine FirstH.goG (i := 18) (v := .bool (decide (t.win < x.s - f))) rfl (by rfl) 23 rfl (Op.binOp BinOp.gtr 32 (Operand.tmp 10) (Operand.tmp 22) 32) rfl (by kernel_rfl) (fun _ _ _ h => h) inv (fun W hS => by have e : decide (f + t.win < x.s) = decide (t.win < x.s - f) := (by congr 1; apply propext; omega); unfold bareO; go_simp; try exact e) HS (fun inv => ?_)
    try simp only [Act.put, List.setIfInBounds_toArray, List.set_cons_zero, List.set_cons_succ]
    refine FirstH.go (i := 19) (v := .bool (decide (t.win < x.s - f))) rfl rfl 24 rfl (Op.pick (Operand.tmp 8) (Operand.tmp 23) (Operand.const (Value.bool false))) rfl (by kernel_rfl) (fun _ _ _ h => h) inv (fun W hS => by unfold bareO; go_simp) HS (fun inv => ?_)
    try simp only [Act.put, List.setIfInBounds_toArray, List.set_cons_zero, List.set_cons_succ]
    refine ⟨by kernel_rfl, ?_⟩
    simp only [List.drop_succ_cons, List.drop_zero]
    go_wp2
    go_ret
    rw [HV.out]
    exact ⟨rfl, BZ.out⟩
  · have hd1 : decide (x.d = 0) = false := by simpa using hd
    have hv : t.far x = false := by rw [hs1, hd1, Bool.false_and]
    have HV := Lib.hid hv
    clear hv hs1
    refine FirstH.go (i := 0) (v := .pointer (some ⟨kx, 3, none⟩)) rfl rfl 5 rfl (Op.fieldAddr 37 (Operand.tmp 3) 2) rfl (by kernel_rfl) (fun _ _ _ h => h) inv (fun W hS => by unfold bareO; go_simp) HS (fun inv => ?_)
    try simp only [Act.put, List.setIfInBounds_toArray, List.set_cons_zero, List.set_cons_succ]
    refine FirstH.go (i := 1) (v := .int .u8 x.d) rfl rfl 6 rfl (Op.load 5 (Operand.tmp 5)) rfl (by kernel_rfl) (fun _ _ _ h => h) inv (fun W hS => by have c := cell_of hS.2.1 3 (.int .u8 x.d) rfl; unfold bareO; go_simp) HS (fun inv => ?_)
    try simp only [Act.put, List.setIfInBounds_toArray, List.set_cons_zero, List.set_cons_succ]
    refine FirstH.go (i := 2) (v := .bool false) rfl rfl 7 rfl (Op.binOp BinOp.eql 5 (Operand.tmp 6) (Operand.const (Value.int IntKind.u8 0)) 5) rfl (by kernel_rfl) (fun _ _ _ h => h) inv (fun W hS => by unfold bareO; go_simp; try exact hd1) HS (fun inv => ?_)
    try simp only [Act.put, List.setIfInBounds_toArray, List.set_cons_zero, List.set_cons_succ]
    refine FirstH.go (i := 3) (v := .bool false) rfl rfl 8 rfl (Op.move (Operand.tmp 7)) rfl (by kernel_rfl) (fun _ _ _ h => h) inv (fun W hS => by unfold bareO; go_simp) HS (fun inv => ?_)
    try simp only [Act.put, List.setIfInBounds_toArray, List.set_cons_zero, List.set_cons_succ]
    refine FirstH.goS (i := 4) rfl (by rfl) 9 rfl (by kernel_rfl) (fun _ _ _ h => h) inv HS (fun inv => ?_)
    try simp only [Act.put, List.setIfInBounds_toArray, List.set_cons_zero, List.set_cons_succ]
    refine FirstH.goS (i := 5) rfl (by rfl) 10 rfl (by kernel_rfl) (fun _ _ _ h => h) inv HS (fun inv => ?_)
    try simp only [Act.put, List.setIfInBounds_toArray, List.set_cons_zero, List.set_cons_succ]
    refine FirstH.goS (i := 6) rfl (by rfl) 11 rfl (by kernel_rfl) (fun _ _ _ h => h) inv HS (fun inv => ?_)
    try simp only [Act.put, List.setIfInBounds_toArray, List.set_cons_zero, List.set_cons_succ]
    refine FirstH.goS (i := 7) rfl (by rfl) 12 rfl (by kernel_rfl) (fun _ _ _ h => h) inv HS (fun inv => ?_)
    try simp only [Act.put, List.setIfInBounds_toArray, List.set_cons_zero, List.set_cons_succ]
    refine FirstH.goS (i := 8) rfl (by rfl) 13 rfl (by kernel_rfl) (fun _ _ _ h => h) inv HS (fun inv => ?_)
    try simp only [Act.put, List.setIfInBounds_toArray, List.set_cons_zero, List.set_cons_succ]
    refine FirstH.goS (i := 9) rfl (by rfl) 14 rfl (by kernel_rfl) (fun _ _ _ h => h) inv HS (fun inv => ?_)
    try simp only [Act.put, List.setIfInBounds_toArray, List.set_cons_zero, List.set_cons_succ]
    refine FirstH.goS (i := 10) rfl (by rfl) 15 rfl (by kernel_rfl) (fun _ _ _ h => h) inv HS (fun inv => ?_)
    try simp only [Act.put, List.setIfInBounds_toArray, List.set_cons_zero, List.set_cons_succ]
    refine FirstH.goS (i := 11) rfl (by rfl) 16 rfl (by kernel_rfl) (fun _ _ _ h => h) inv HS (fun inv => ?_)
    try simp only [Act.put, List.setIfInBounds_toArray, List.set_cons_zero, List.set_cons_succ]
    refine FirstH.goS (i := 12) rfl (by rfl) 17 rfl (by kernel_rfl) (fun _ _ _ h => h) inv HS (fun inv => ?_)
    try simp only [Act.put, List.setIfInBounds_toArray, List.set_cons_zero, List.set_cons_succ]
    refine FirstH.goS (i := 13) rfl (by rfl) 18 rfl (by kernel_rfl) (fun _ _ _ h => h) inv HS (fun inv => ?_)
    try simp only [Act.put, List.setIfInBounds_toArray, List.set_cons_zero, List.set_cons_succ]
    refine FirstH.goS (i := 14) rfl (by rfl) 19 rfl (by kernel_rfl) (fun _ _ _ h => h) inv HS (fun inv => ?_)
    try simp only [Act.put, List.setIfInBounds_toArray, List.set_cons_zero, List.set_cons_succ]
    refine FirstH.goS (i := 15) rfl (by rfl) 20 rfl (by kernel_rfl) (fun _ _ _ h => h) inv HS (fun inv => ?_)
    try simp only [Act.put, List.setIfInBounds_toArray, List.set_cons_zero, List.set_cons_succ]
    refine FirstH.goS (i := 16) rfl (by rfl) 21 rfl (by kernel_rfl) (fun _ _ _ h => h) inv HS (fun inv => ?_)
    try simp only [Act.put, List.setIfInBounds_toArray, List.set_cons_zero, List.set_cons_succ]
    refine FirstH.goS (i := 17) rfl (by rfl) 22 rfl (by kernel_rfl) (fun _ _ _ h => h) inv HS (fun inv => ?_)
    try simp only [Act.put, List.setIfInBounds_toArray, List.set_cons_zero, List.set_cons_succ]
    refine FirstH.goS (i := 18) rfl (by rfl) 23 rfl (by kernel_rfl) (fun _ _ _ h => h) inv HS (fun inv => ?_)
    try simp only [Act.put, List.setIfInBounds_toArray, List.set_cons_zero, List.set_cons_succ]
    refine FirstH.go (i := 19) (v := .bool false) rfl rfl 24 rfl (Op.pick (Operand.tmp 8) (Operand.tmp 23) (Operand.const (Value.bool false))) rfl (by kernel_rfl) (fun _ _ _ h => h) inv (fun W hS => by unfold bareO; go_simp) HS (fun inv => ?_)
    try simp only [Act.put, List.setIfInBounds_toArray, List.set_cons_zero, List.set_cons_succ]
    refine ⟨by kernel_rfl, ?_⟩
    simp only [List.drop_succ_cons, List.drop_zero]
    go_wp2
    go_ret
    rw [HV.out]
    exact ⟨rfl, BZ.out⟩

end Go.Proofs.Ytldbmmganicliaa
