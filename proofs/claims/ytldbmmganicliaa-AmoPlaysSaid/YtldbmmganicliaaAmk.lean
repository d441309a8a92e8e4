/-
  The program's table: what Raise strikes: maps.DeleteFunc walked. Condition: the table lies in memory, numbers fit their kinds.
-/
import Derived.Test.YtldbmmganicliaaAmg
import Derived.Test.YtldbmmganicliaaAdw
import Derived.Maps.RangeWalk
namespace Go.Proofs.Ytldbmmganicliaa
set_option linter.unusedSimpArgs false
set_option linter.unusedVariables false
open Go.RowKit Go.Maps Go.Sort

/-- of a table in memory: its block and its floors. -/
structure PF (W : World) (b m k c : Nat) (t : Tt) : Prop where
  blk : W.heap[b]? = some (.cells #[.int .u32 t.win, .map (some m), .map (some k)] 85 (0, 0))
  flo : ∃ (nn : Nat) (D : DataW Unit), nn ≤ c ∧ W.ownsMap Try.prog 31 fElem k nn D ∧ MapG Fw.key Fw.dat D t.F
  ok : t.Ok
theorem PT.pf {W : World} {b m k c : Nat} {t : Tt} (h : PT W b m k c t) : PF W b m k c t := ⟨h.blk, h.flo, h.ok⟩
theorem PF.kl {W : World} {b m k c : Nat} {t : Tt} (h : PF W b m k c t) : k < W.heap.size := by
  obtain ⟨nn, D, _, O, _⟩ := h.flo
  exact O.lt
theorem PF.keep {W W' : World} {b m k c : Nat} {t : Tt} (h : PF W b m k c t) (h0 : W'.heap[b]? = W.heap[b]?) (h2 : W'.heap[k]? = W.heap[k]?) : PF W' b m k c t := by
  obtain ⟨nn', D', hk', ⟨es', cl', hm', F', hs', hD'⟩, M'⟩ := h.flo
  exact ⟨h0.trans h.blk, ⟨nn', D', hk', ⟨es', cl', h2.trans hm', F', hs', hD'⟩, M'⟩, h.ok⟩
theorem PF.below {W W' : World} {b m k c : Nat} {t : Tt} (h : PF W b m k c t) (hb : Below W.heap.size W W') : PF W' b m k c t := h.keep (hb.block _ (bltA h.blk)) (hb.block _ h.kl)
theorem PF.lookF {W : World} {b m k c : Nat} {t : Tt} (h : PF W b m k c t) (n l : Int) (rn : 0 ≤ n ∧ n ≤ 255) (rl : 0 ≤ l ∧ l ≤ 65535) :
    ∃ es clock, W.heap[k]? = some (.map es clock) ∧ ∀ X : World, X.heap[k]? = some (.map es clock) → (Instr.lookup 83 (.map (some k)) (.agg #[.int .u8 n, .int .u16 l]) false).run Try.prog X = .ok (.int .u32 (floorF t.F n l)) X := by
  obtain ⟨nn, D, hk, ⟨es, clock, hb, F, hs, hD⟩, K⟩ := h.flo
  refine ⟨es, clock, hb, fun X hX => ?_⟩
  have O : X.ownsMap Try.prog 31 fElem k nn D := ⟨es, clock, hX, F, hs, hD⟩
  obtain ⟨v, ps, hrun, hv⟩ := World.ownsMap.look_one O prKeyed mapF (floZero X) (fElem_mk 0) (prKey n l rn rl)
  have e : D.atKey (lit2 n l) (fDat 0) = fDat (floorF t.F n l) := by
    by_cases hx : ∃ y ∈ t.F, y.n = n ∧ y.l = l
    · obtain ⟨y, hy, rfl, rfl⟩ := hx
      rw [h.ok.floor_in hy]
      exact K.at_ y hy _
    · have hn : ∀ y ∈ t.F, ¬ (y.n = n ∧ y.l = l) := fun y hy e => hx ⟨y, hy, e⟩
      have hh : has D (lit2 n l) = false := K.hasnt fun y hy e => hn y hy (lit2_inj (h.ok.frng y hy).n (h.ok.frng y hy).l rn rl e)
      rw [atKey_of_not_has hh, Tt.floor_no hn]
  rw [e] at hv
  obtain ⟨y, rfl, hy⟩ := fElem_inv hv
  obtain rfl : floorF t.F n l = y := fDat_inj (congrArg Prod.fst hy)
  exact hrun
set_option maxRecDepth 100000 in
set_option maxHeartbeats 4000000 in
theorem aOldF (W : World) (b m k c : Nat) (t : Tt) (h : PF W b m k c t) (x : I10) (rx : x.Rng) :
    Calls Try.prog 39 #[.pointer (some ⟨b, 0, none⟩), .agg #[.int .u8 x.n, .int .u16 x.l, .int .u32 x.s, .int .u8 x.d, .int .u8 x.a0, .int .u8 x.a1, .int .u8 x.b0, .int .u8 x.b1, .int .u8 x.c0, .int .u8 x.c1]] W fun e W' => e = .returned (.bool (t.old x)) ∧ Below W.heap.size W W' := by
  obtain ⟨W1, hW1⟩ : ∃ z, W.alloc (.cells #[.int .u8 x.n, .int .u16 x.l, .int .u32 x.s, .int .u8 x.d, .int .u8 x.a0, .int .u8 x.a1, .int .u8 x.b0, .int .u8 x.b1, .int .u8 x.c0, .int .u8 x.c1] 37) = z := ⟨_, rfl⟩
  have b1 : Below W.heap.size W W1 := by rw [← hW1]; exact (Below.refl _ _).alloc (Nat.le_refl _) _
  obtain ⟨kx, hkx⟩ : ∃ z, W.heap.size = z := ⟨_, rfl⟩
  have R1 : W1.heap[kx]? = some (.cells #[.int .u8 x.n, .int .u16 x.l, .int .u32 x.s, .int .u8 x.d, .int .u8 x.a0, .int .u8 x.a1, .int .u8 x.b0, .int .u8 x.b1, .int .u8 x.c0, .int .u8 x.c1] 37 (0, 0)) := by rw [← hW1, ← hkx]; exact heap_alloc_new _ _
  have h1 := h.below b1
  obtain ⟨es, cl, hmap, hl⟩ := h1.lookF x.n x.l rx.n rx.l
  obtain ⟨f, hf⟩ : ∃ f, floorF t.F x.n x.l = f := ⟨_, rfl⟩
  have hs1 : t.old x = (decide (x.d = 0) && decide (x.s ≤ f)) := by rw [← hf]; rfl
  rw [hf] at hl
  have HL := Lib.hid hl
  have q0 := h1.blk
  have hfr : 0 ≤ f ∧ f ≤ 4294967295 := hf ▸ floorF_rng h.ok.frng x.n x.l
  have hfm : f ≤ 1048576 := hf ▸ floorF_max h.ok.fmax x.n x.l
  have hwn := h.ok.win
  have hsm : (f + t.win) % 4294967296 = f + t.win := by omega
  have HS0 : Hid (W1.heap[b]? = some (.cells #[.int .u32 t.win, .map (some m), .map (some k)] 85 (0, 0)) ∧ W1.heap[kx]? = some (.cells #[.int .u8 x.n, .int .u16 x.l, .int .u32 x.s, .int .u8 x.d, .int .u8 x.a0, .int .u8 x.a1, .int .u8 x.b0, .int .u8 x.b1, .int .u8 x.c0, .int .u8 x.c1] 37 (0, 0)) ∧ W1.heap[k]? = some (.map es cl)) := Lib.hid ⟨q0, R1, hmap⟩
  have B1 : Hid (Below kx W W1) := Lib.hid (hkx ▸ b1)
  have HW1 := Lib.hid hW1
  have HKX := Lib.hid hkx
  clear h h1 b1 hW1 R1 q0 hmap hl rx hf hfm
  rw [hkx]
  go_enter Try.func39, Try.ntmps39
  go_wp2_with (first | rw [HW1.out, HKX.out] | fail)
  rw [HW1.out]
  refine region_heldT (S := fun X : World => (X.heap[b]? = some (.cells #[.int .u32 t.win, .map (some m), .map (some k)] 85 (0, 0)) ∧ X.heap[kx]? = some (.cells #[.int .u8 x.n, .int .u16 x.l, .int .u32 x.s, .int .u8 x.d, .int .u8 x.a0, .int .u8 x.a1, .int .u8 x.b0, .int .u8 x.b1, .int .u8 x.c0, .int .u8 x.c1] 37 (0, 0)) ∧ X.heap[k]? = some (.map es cl))) 15 (by kernel_rfl) (by decide) (fun inv => ?_)
  have HS : (W1.drew.heap[b]? = some (.cells #[.int .u32 t.win, .map (some m), .map (some k)] 85 (0, 0)) ∧ W1.drew.heap[kx]? = some (.cells #[.int .u8 x.n, .int .u16 x.l, .int .u32 x.s, .int .u8 x.d, .int .u8 x.a0, .int .u8 x.a1, .int .u8 x.b0, .int .u8 x.b1, .int .u8 x.c0, .int .u8 x.c1] 37 (0, 0)) ∧ W1.drew.heap[k]? = some (.map es cl)) := HS0.out
  have BZ : Hid (Below kx W W1.drew) := Lib.hid B1.out.drew
  change FirstH _ _ _ _ _ _ _ _ _ _ W1.drew
  generalize W1.drew = wd at *
  by_cases hd : x.d = 0
  · have hd1 : decide (x.d = 0) = true := by simpa using hd
    have hv : t.old x = decide (x.s ≤ f) := by rw [hs1, hd1, Bool.true_and]
    have HV := Lib.hid hv
    clear hv hs1
    refine FirstH.go (i := 0) (v := .pointer (some ⟨kx, 3, none⟩)) rfl rfl 5 rfl (Op.fieldAddr 37 (Operand.tmp 3) 2) rfl (by kernel_rfl) (fun _ _ _ h => h) inv (fun W hS => by unfold bareO; go_simp) HS (fun inv => ?_)
    try simp only [Act.put, List.setIfInBounds_toArray, List.set_cons_zero, List.set_cons_succ]
    refine FirstH.go (i := 1) (v := .int .u8 x.d) rfl rfl 6 rfl (Op.load 5 (Operand.tmp 5)) rfl (by kernel_rfl) (fun _ _ _ h => h) inv (fun W hS => by have c := cell_of hS.2.1 3 (.int .u8 x.d) rfl; unfold bareO; go_simp) HS (fun inv => ?_)
    try simp only [Act.put, List.setIfInBounds_toArray, List.set_cons_zero, List.set_cons_succ]
    refine FirstH.go (i := 2) (v := .bool true) rfl rfl 7 rfl (Op.binOp BinOp.eql 5 (Operand.tmp 6) (Operand.const (Value.int IntKind.u8 0)) 5) rfl (by kernel_rfl) (fun _ _ _ h => h) inv (fun W hS => by unfold bareO; go_simp; try exact hd1) HS (fun inv => ?_)
    try simp only [Act.put, List.setIfInBounds_toArray, List.set_cons_zero, List.set_cons_succ]
    refine FirstH.go (i := 3) (v := .bool true) rfl rfl 8 rfl (Op.move (Operand.tmp 7)) rfl (by kernel_rfl) (fun _ _ _ h => h) inv (fun W hS => by unfold bareO; go_simp) HS (fun inv => ?_)
    try simp only [Act.put, List.setIfInBounds_toArray, List.set_cons_zero, List.set_cons_succ]
    refine FirstH.goG (i := 4) (v := .pointer (some ⟨kx, 2, none⟩)) rfl (by rfl) 9 rfl (Op.fieldAddr 37 (Operand.tmp 3) 1) rfl (by kernel_rfl) (fun _ _ _ h => h) inv (fun W hS => by unfold bareO; go_simp) HS (fun inv => ?_)
    try simp only [Act.put, List.setIfInBounds_toArray, List.set_cons_zero, List.set_cons_succ]
    refine FirstH.goG (i := 5) (v := .int .u32 x.s) rfl (by rfl) 10 rfl (Op.load 32 (Operand.tmp 9)) rfl (by kernel_rfl) (fun _ _ _ h => h) inv (fun W hS => by have c := cell_of hS.2.1 2 (.int .u32 x.s) rfl; unfold bareO; go_simp) HS (fun inv => ?_)
    try simp only [Act.put, List.setIfInBounds_toArray, List.set_cons_zero, List.set_cons_succ]
    refine FirstH.goG (i := 6) (v := .pointer (some ⟨b, 0, none⟩)) rfl (by rfl) 11 rfl (Op.move (Operand.tmp 0)) rfl (by kernel_rfl) (fun _ _ _ h => h) inv (fun W hS => by unfold bareO; go_simp) HS (fun inv => ?_)
    try simp only [Act.put, List.setIfInBounds_toArray, List.set_cons_zero, List.set_cons_succ]
    refine FirstH.goG (i := 7) (v := .pointer (some ⟨b, 0, none⟩)) rfl (by rfl) 12 rfl (Op.nilCheck (Operand.tmp 11)) rfl (by kernel_rfl) (fun _ _ _ h => h) inv (fun W hS => by unfold bareO; go_simp) HS (fun inv => ?_)
    try simp only [Act.put, List.setIfInBounds_toArray, List.set_cons_zero, List.set_cons_succ]
    refine FirstH.goG (i := 8) (v := .pointer (some ⟨b, 2, none⟩)) rfl (by rfl) 13 rfl (Op.fieldAddr 85 (Operand.tmp 12) 2) rfl (by kernel_rfl) (fun _ _ _ h => h) inv (fun W hS => by unfold bareO; go_simp) HS (fun inv => ?_)
    try simp only [Act.put, List.setIfInBounds_toArray, List.set_cons_zero, List.set_cons_succ]
    refine FirstH.goG (i := 9) (v := .map (some k)) rfl (by rfl) 14 rfl (Op.load 83 (Operand.tmp 13)) rfl (by kernel_rfl) (fun _ _ _ h => h) inv (fun W hS => by have c := cell_of hS.1 2 (.map (some k)) rfl; unfold bareO; go_simp) HS (fun inv => ?_)
    try simp only [Act.put, List.setIfInBounds_toArray, List.set_cons_zero, List.set_cons_succ]
    refine FirstH.goG (i := 10) (v := .pointer (some ⟨kx, 0, none⟩)) rfl (by rfl) 15 rfl (Op.fieldAddr 37 (Operand.tmp 3) 0) rfl (by kernel_rfl) (fun _ _ _ h => h) inv (fun W hS => by unfold bareO; go_simp) HS (fun inv => ?_)
    try simp only [Act.put, List.setIfInBounds_toArray, List.set_cons_zero, List.set_cons_succ]
    refine FirstH.goG (i := 11) (v := .agg #[.int .u8 x.n, .int .u16 x.l]) rfl (by rfl) 16 rfl (Op.load 31 (Operand.tmp 15)) rfl (by kernel_rfl) (fun _ _ _ h => h) inv (fun W hS => by have c0 := cell_of hS.2.1 0 (.int .u8 x.n) rfl; have c1 := cell_of hS.2.1 1 (.int .u16 x.l) rfl; unfold bareO; go_simp) HS (fun inv => ?_)
    try simp only [Act.put, List.setIfInBounds_toArray, List.set_cons_zero, List.set_cons_succ]
    refine FirstH.goG (i := 12) (v := .int .u32 f) rfl (by rfl) 17 rfl (Op.lookup 83 (Operand.tmp 14) (Operand.tmp 16) false) rfl (by kernel_rfl) (fun _ _ _ h => h) inv (fun W hS => by have l := HL.out W hS.2.2; unfold bareO; go_simp) HS (fun inv => ?_)
    try simp only [Act.put, List.setIfInBounds_toArray, List.set_cons_zero, List.set_cons_succ]
    refine FirstH.goG (i := 13) (v := .bool (decide (x.s ≤ f))) rfl (by rfl) 18 rfl (Op.binOp BinOp.leq 32 (Operand.tmp 10) (Operand.tmp 17) 32) rfl (by kernel_rfl) (fun _ _ _ h => h) inv (fun W hS => by unfold bareO; go_simp) HS (fun inv => ?_)
    try simp only [Act.put, List.setIfInBounds_toArray, List.set_cons_zero, List.set_cons_succ]
    refine FirstH.go (i := 14) (v := .bool (decide (x.s ≤ f))) rfl rfl 19 rfl (Op.pick (Operand.tmp 8) (Operand.tmp 18) (Operand.const (Value.bool false))) rfl (by kernel_rfl) (fun _ _ _ h => h) inv (fun W hS => by unfold bareO; go_simp) HS (fun inv => ?_)
    try simp only [Act.put, List.setIfInBounds_toArray, List.set_cons_zero, List.set_cons_succ]
    refine ⟨by kernel_rfl, ?_⟩
    simp only [List.drop_succ_cons, List.drop_zero]
    go_wp2
    go_ret
    rw [HV.out]
    exact ⟨rfl, BZ.out⟩
  · have hd1 : decide (x.d = 0) = false := by simpa using hd
    have hv : t.old x = false := by rw [hs1, hd1, Bool.false_and]
    have HV := Lib.hid hv
    clear hv hs1
    refine FirstH.go (i := 0) (v := .pointer (some ⟨kx, 3, none⟩)) rfl rfl 5 rfl (Op.fieldAddr 37 (Operand.tmp 3) 2) rfl (by kernel_rfl) (fun _ _ _ h => h) inv (fun W hS => by unfold bareO; go_simp) HS (fun inv => ?_)
    try simp only [Act.put, List.setIfInBounds_toArray, List.set_cons_zero, List.set_cons_succ]
    refine FirstH.go (i := 1) (v := .int .u8 x.d) rfl rfl 6 rfl (Op.load 5 (Operand.tmp 5)) rfl (by kernel_rfl) (fun _ _ _ h => h) inv (fun W hS => by have c := cell_of hS.2.1 3 (.int .u8 x.d) rfl; unfold bareO; go_simp) HS (fun inv => ?_)
    try simp only [Act.put, List.setIfInBounds_toArray, List.set_cons_zero, List.set_cons_succ]
    refine FirstH.go (i := 2) (v := .bool false) rfl rfl 7 rfl (Op.binOp BinOp.eql 5 (Operand.tmp 6) (Operand.const (Value.int IntKind.u8 0)) 5) rfl (by kernel_rfl) (fun _ _ _ h => h) inv (fun W hS => by unfold bareO; go_simp; try exact hd1) HS (fun inv => ?_)
    try simp only [Act.put, List.setIfInBounds_toArray, List.set_cons_zero, List.set_cons_succ]
    refine FirstH.go (i := 3) (v := .bool false) rfl rfl 8 rfl (Op.move (Operand.tmp 7)) rfl (by kernel_rfl) (fun _ _ _ h => h) inv (fun W hS => by unfold bareO; go_simp) HS (fun inv => ?_)
    try simp only [Act.put, List.setIfInBounds_toArray, List.set_cons_zero, List.set_cons_succ]
    refine FirstH.goS (i := 4) rfl (by rfl) 9 rfl (by kernel_rfl) (fun _ _ _ h => h) inv HS (fun inv => ?_)
    try simp only [Act.put, List.setIfInBounds_toArray, List.set_cons_zero, List.set_cons_succ]
    refine FirstH.goS (i := 5) rfl (by rfl) 10 rfl (by kernel_rfl) (fun _ _ _ h => h) inv HS (fun inv => ?_)
    try simp only [Act.put, List.setIfInBounds_toArray, List.set_cons_zero, List.set_cons_succ]
    refine FirstH.goS (i := 6) rfl (by rfl) 11 rfl (by kernel_rfl) (fun _ _ _ h => h) inv HS (fun inv => ?_)
    try simp only [Act.put, List.setIfInBounds_toArray, List.set_cons_zero, List.set_cons_succ]
    refine FirstH.goS (i := 7) rfl (by rfl) 12 rfl (by kernel_rfl) (fun _ _ _ h => h) inv HS (fun inv => ?_)
    try simp only [Act.put, List.setIfInBounds_toArray, List.set_cons_zero, List.set_cons_succ]
    refine FirstH.goS (i := 8) rfl (by rfl) 13 rfl (by kernel_rfl) (fun _ _ _ h => h) inv HS (fun inv => ?_)
    try simp only [Act.put, List.setIfInBounds_toArray, List.set_cons_zero, List.set_cons_succ]
    refine FirstH.goS (i := 9) rfl (by rfl) 14 rfl (by kernel_rfl) (fun _ _ _ h => h) inv HS (fun inv => ?_)
    try simp only [Act.put, List.setIfInBounds_toArray, List.set_cons_zero, List.set_cons_succ]
    refine FirstH.goS (i := 10) rfl (by rfl) 15 rfl (by kernel_rfl) (fun _ _ _ h => h) inv HS (fun inv => ?_)
    try simp only [Act.put, List.setIfInBounds_toArray, List.set_cons_zero, List.set_cons_succ]
    refine FirstH.goS (i := 11) rfl (by rfl) 16 rfl (by kernel_rfl) (fun _ _ _ h => h) inv HS (fun inv => ?_)
    try simp only [Act.put, List.setIfInBounds_toArray, List.set_cons_zero, List.set_cons_succ]
    refine FirstH.goS (i := 12) rfl (by rfl) 17 rfl (by kernel_rfl) (fun _ _ _ h => h) inv HS (fun inv => ?_)
    try simp only [Act.put, List.setIfInBounds_toArray, List.set_cons_zero, List.set_cons_succ]
    refine FirstH.goS (i := 13) rfl (by rfl) 18 rfl (by kernel_rfl) (fun _ _ _ h => h) inv HS (fun inv => ?_)
    try simp only [Act.put, List.setIfInBounds_toArray, List.set_cons_zero, List.set_cons_succ]
    refine FirstH.go (i := 14) (v := .bool false) rfl rfl 19 rfl (Op.pick (Operand.tmp 8) (Operand.tmp 18) (Operand.const (Value.bool false))) rfl (by kernel_rfl) (fun _ _ _ h => h) inv (fun W hS => by unfold bareO; go_simp) HS (fun inv => ?_)
    try simp only [Act.put, List.setIfInBounds_toArray, List.set_cons_zero, List.set_cons_succ]
    refine ⟨by kernel_rfl, ?_⟩
    simp only [List.drop_succ_cons, List.drop_zero]
    go_wp2
    go_ret
    rw [HV.out]
    exact ⟨rfl, BZ.out⟩
theorem eqProcB (a b c d : Int) (r : Bool) (hr : decide (a = c ∧ b = d) = r) (W : World) : (binOp .eql 31 (.agg #[.int .u8 a, .int .u16 b]) (.agg #[.int .u8 c, .int .u16 d])).run Try.prog W = .ok (.bool r) W := by
  subst hr
  go_simp
  by_cases h1 : a = c <;> by_cases h2 : b = d <;> simp [h1, h2]
set_option maxRecDepth 100000 in
set_option maxHeartbeats 4000000 in
theorem delClo (W : World) (b m k c : Nat) (t : Tt) (h : PF W b m k c t) (n l : Int) (kp kt : Nat) (hp : W.heap[kp]? = some (.cells #[.int .u8 n, .int .u16 l] 31 (0, 0))) (ht : W.heap[kt]? = some (.cells #[.pointer (some ⟨b, 0, none⟩)] 25 (0, 0))) (y : Rw) (ry : y.id.Rng) :
    Calls Try.prog 43 #[.agg #[.int .u8 y.id.n, .int .u16 y.id.l, .int .u32 y.id.s, .int .u8 y.id.d, .int .u8 y.id.a0, .int .u8 y.id.a1, .int .u8 y.id.b0, .int .u8 y.id.b1, .int .u8 y.id.c0, .int .u8 y.id.c1], .agg #[.int .u8 y.id.n, .int .u16 y.id.l, .int .u32 y.id.s, .int .u8 y.id.d, .int .u8 y.id.a0, .int .u8 y.id.a1, .int .u8 y.id.b0, .int .u8 y.id.b1, .int .u8 y.id.c0, .int .u8 y.id.c1, .bool y.en, .int .u8 y.code, .string y.val], .pointer (some ⟨kp, 0, none⟩), .pointer (some ⟨kt, 0, none⟩)] W fun e W' => e = .returned (.bool (!keepR t n l y)) ∧ Below W.heap.size W W' := by
  obtain ⟨yi, ye, yc, yv⟩ := y
  dsimp only at ry ⊢
  obtain ⟨W1, hW1⟩ : ∃ z, W.alloc (.cells #[.int .u8 yi.n, .int .u16 yi.l, .int .u32 yi.s, .int .u8 yi.d, .int .u8 yi.a0, .int .u8 yi.a1, .int .u8 yi.b0, .int .u8 yi.b1, .int .u8 yi.c0, .int .u8 yi.c1] 37) = z := ⟨_, rfl⟩
  have b1 : Below W.heap.size W W1 := by rw [← hW1]; exact (Below.refl _ _).alloc (Nat.le_refl _) _
  obtain ⟨kx, hkx⟩ : ∃ z, W.heap.size = z := ⟨_, rfl⟩
  have R1 : W1.heap[kx]? = some (.cells #[.int .u8 yi.n, .int .u16 yi.l, .int .u32 yi.s, .int .u8 yi.d, .int .u8 yi.a0, .int .u8 yi.a1, .int .u8 yi.b0, .int .u8 yi.b1, .int .u8 yi.c0, .int .u8 yi.c1] 37 (0, 0)) := by rw [← hW1, ← hkx]; exact heap_alloc_new _ _
  obtain ⟨W2, hW2⟩ : ∃ z, W1.alloc (.cells #[.int .u8 yi.n, .int .u16 yi.l, .int .u32 yi.s, .int .u8 yi.d, .int .u8 yi.a0, .int .u8 yi.a1, .int .u8 yi.b0, .int .u8 yi.b1, .int .u8 yi.c0, .int .u8 yi.c1, .bool ye, .int .u8 yc, .string yv] 88) = z := ⟨_, rfl⟩
  have hs1 : W1.heap.size = kx + 1 := by rw [← hW1, World.size_alloc, hkx]
  have b12 : Below W1.heap.size W1 W2 := by rw [← hW2]; exact (Below.refl _ _).alloc (Nat.le_refl _) _
  have R2 : W2.heap[kx + 1]? = some (.cells #[.int .u8 yi.n, .int .u16 yi.l, .int .u32 yi.s, .int .u8 yi.d, .int .u8 yi.a0, .int .u8 yi.a1, .int .u8 yi.b0, .int .u8 yi.b1, .int .u8 yi.c0, .int .u8 yi.c1, .bool ye, .int .u8 yc, .string yv] 88 (0, 0)) := by rw [← hW2, ← hs1]; exact heap_alloc_new _ _
  have h2 := (h.below b1).below b12
  have R1 := (b12.block kx (bltA R1)).trans R1
  have b2 : Below kx W W2 := (hkx ▸ b1 : Below kx W W1).trans (b12.mono (by omega))
  have KO := Lib.hid (aOldF W2 b m k c t h2 yi ry)
  have BK := Lib.hid b2
  have HW1 := Lib.hid hW1
  have HW2 := Lib.hid hW2
  have HKX := Lib.hid hkx
  have HS1 := Lib.hid hs1
  have x0 := cell_of R1 0 (.int .u8 yi.n) rfl
  have x1 := cell_of R1 1 (.int .u16 yi.l) rfl
  have x2 := cell_of R1 2 (.int .u32 yi.s) rfl
  have x3 := cell_of R1 3 (.int .u8 yi.d) rfl
  have x4 := cell_of R1 4 (.int .u8 yi.a0) rfl
  have x5 := cell_of R1 5 (.int .u8 yi.a1) rfl
  have x6 := cell_of R1 6 (.int .u8 yi.b0) rfl
  have x7 := cell_of R1 7 (.int .u8 yi.b1) rfl
  have x8 := cell_of R1 8 (.int .u8 yi.c0) rfl
  have x9 := cell_of R1 9 (.int .u8 yi.c1) rfl
  
  have y10 := cell_of R2 10 (.bool ye) rfl
  have L2 : Hid (kx ≤ W2.heap.size) := Lib.hid (Nat.le_of_lt (bltA R1))
  have hp2 := (b2.block kp (hkx ▸ bltA hp)).trans hp
  have ht2 := (b2.block kt (hkx ▸ bltA ht)).trans ht
  have p0 := cell_of hp2 0 (.int .u8 n) rfl
  have p1 := cell_of hp2 1 (.int .u16 l) rfl
  have t0 := cell_of ht2 0 (.pointer (some ⟨b, 0, none⟩)) rfl
  have hkr : (!keepR t n l ⟨yi, ye, yc, yv⟩) = (ye && decide (yi.n = n ∧ yi.l = l) && t.old yi) := by
    unfold keepR
    cases ye <;> cases t.old yi <;> simp
  rw [hkr]
  obtain ⟨oo, hoo⟩ : ∃ q, t.old yi = q := ⟨_, rfl⟩
  rw [hoo] at KO ⊢
  obtain ⟨pp, hpp⟩ : ∃ q, decide (yi.n = n ∧ yi.l = l) = q := ⟨_, rfl⟩
  have heq := eqProcB yi.n yi.l n l pp hpp
  rw [hpp]
  clear h h2 hp ht hp2 ht2 b1 b12 b2 hW1 hW2 R1 R2 hs1 hkr hoo hpp ry
  rw [hkx]
  cases ye
  · go_enter Try.func43, Try.ntmps43
    go_wp2_with (first | (rw [HW1.out]; try rw [HKX.out]) | (rw [HW2.out]; try rw [HS1.out]) | fail)
    go_ret
    exact ⟨rfl, BK.out⟩
  · cases pp
    · go_enter Try.func43, Try.ntmps43
      go_wp2_with (first | (rw [HW1.out]; try rw [HKX.out]) | (rw [HW2.out]; try rw [HS1.out]) | fail)
      go_ret
      exact ⟨rfl, BK.out⟩
    · go_enter Try.func43, Try.ntmps43
      go_wp2_with (first | (rw [HW1.out]; try rw [HKX.out]) | (rw [HW2.out]; try rw [HS1.out]) | (go_at_call 39; refine KO.out.mono ?_; rintro e w3 ⟨rfl, b3⟩; have BK := Lib.hid (BK.out.trans (b3.mono L2.out)); clear b3) | fail)
      go_ret
      exact ⟨rfl, BK.out⟩
theorem perm_out {α : Type} {key : α → Lit} {L : List α} (h : L.Pairwise fun x y => key x ≠ key y) {y : α} (hy : y ∈ L) (hk : WideAt.IsKeyLit (key y)) : L.Perm (y :: L.filter fun z => !(key z).sameKey (key y)) := by
  induction L with
  | nil => cases hy
  | cons a L ih =>
    obtain ⟨h1, h2⟩ := List.pairwise_cons.1 h
    rcases List.mem_cons.1 hy with rfl | hy
    · rw [List.filter_cons, if_neg (by simp [WideAt.sameKey_self hk]), List.filter_eq_self.2 fun z hz => by simp [sameKey_ne (h1 z hz).symm]]
    · rw [List.filter_cons, if_pos (by simp [sameKey_ne (h1 y hy)])]
      exact ((ih h2 hy).cons a).trans (List.Perm.swap ..)
/-- the rows that stand while some are still to come. -/
def midL (t : Tt) (n l : Int) (left : Lit → Bool) : List Rw := t.L.filter fun y => keepR t n l y || left y.key
theorem mid_start {t : Tt} {n l : Int} {D : DataW Unit} (h : MapG Rw.key Rw.dat D t.L) : midL t n l (has D) = t.L := by
  unfold midL
  exact List.filter_eq_self.2 fun y hy => by simp [h.has_ y hy]
theorem mid_end {t : Tt} {n l : Int} {left : Lit → Bool} (h : ∀ kl, left kl = false) : midL t n l left = t.L.filter (keepR t n l) := by
  unfold midL
  exact List.filter_congr fun y _ => by simp [h]
theorem mid_stays {t : Tt} {n l : Int} {left : Lit → Bool} (hap : t.L.Pairwise fun x y => x.key ≠ y.key) {y : Rw} (hy : y ∈ t.L) (hk : WideAt.IsKeyLit y.key) (hr : keepR t n l y = true) : midL t n l (fun z => left z && !z.sameKey y.key) = midL t n l left := by
  unfold midL
  refine List.filter_congr fun z hz => ?_
  by_cases e : z.key = y.key
  · obtain rfl : z = y := by
      have hg : ∀ {L : List Rw}, (L.Pairwise fun x y => x.key ≠ y.key) → z ∈ L → y ∈ L → z = y := by
        intro L
        induction L with
        | nil => intro _ h; cases h
        | cons a L ih =>
          intro hp h1 h2
          obtain ⟨q1, q2⟩ := List.pairwise_cons.1 hp
          rcases List.mem_cons.1 h1 with e1 | h1
          · rcases List.mem_cons.1 h2 with e2 | h2
            · rw [e1, e2]
            · exact absurd (e1 ▸ e) (q1 y h2)
          · rcases List.mem_cons.1 h2 with e2 | h2
            · exact absurd (e2 ▸ e).symm (q1 z h1)
            · exact ih q2 h1 h2
      exact hg hap hz hy
    simp [hr]
  · simp [sameKey_ne e]
theorem mid_struck {t : Tt} {n l : Int} {left : Lit → Bool} (hap : t.L.Pairwise fun x y => x.key ≠ y.key) {y : Rw} (hy : y ∈ midL t n l left) (hk : WideAt.IsKeyLit y.key) (hr : keepR t n l y = false) : (midL t n l left).Perm (y :: midL t n l (fun z => left z && !z.sameKey y.key)) := by
  have h1 : (midL t n l left).Pairwise fun x y => x.key ≠ y.key := hap.filter _
  have h2 := perm_out (key := Rw.key) h1 hy hk
  have e : (midL t n l left).filter (fun z => !(z.key).sameKey y.key) = midL t n l (fun z => left z && !z.sameKey y.key) := by
    unfold midL
    rw [List.filter_filter]
    refine List.filter_congr fun z hz => ?_
    by_cases e : z.key = y.key
    · have hz' : z = y := by
        have hym : y ∈ t.L := (List.mem_filter.1 hy).1
        have hg : ∀ {L : List Rw}, (L.Pairwise fun x y => x.key ≠ y.key) → z ∈ L → y ∈ L → z = y := by
          intro L
          induction L with
          | nil => intro _ h; cases h
          | cons a L ih =>
            intro hp h1 h2
            obtain ⟨q1, q2⟩ := List.pairwise_cons.1 hp
            rcases List.mem_cons.1 h1 with e1 | h1
            · rcases List.mem_cons.1 h2 with e2 | h2
              · rw [e1, e2]
              · exact absurd (e1 ▸ e) (q1 y h2)
            · rcases List.mem_cons.1 h2 with e2 | h2
              · exact absurd (e2 ▸ e).symm (q1 z h1)
              · exact ih q2 h1 h2
        exact hg hap hz hym
      subst hz'
      simp [hr, WideAt.sameKey_self hk]
    · simp [sameKey_ne e]
  rw [e] at h2
  exact h2

end Go.Proofs.Ytldbmmganicliaa
