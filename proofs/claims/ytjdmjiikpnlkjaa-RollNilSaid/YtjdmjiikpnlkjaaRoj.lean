/-
  The program's order: New of a right view and a member, by an exact answer. Condition: the lists lie in memory; numbers fit their kinds.
-/
import Derived.Test.YtjdmjiikpnlkjaaRoi
import Derived.Test.YtjdmjiikpnlkjaaVfi
import Derived.Deep.MidRow
namespace Go.Proofs.Ytjdmjiikpnlkjaa
set_option linter.unusedSimpArgs false
set_option linter.unusedVariables false
open Go.RowKit Go.Maps Go.Sort
open V (P2)

def newD (g N : Int) (M : List P2) (me : P2) (X : List EV) : Rd := ⟨g, N, M, me, X, X.length, X.length, false, fun _ => 0, 0⟩
set_option maxRecDepth 100000 in
set_option maxHeartbeats 2000000 in
theorem rNew (W : World) (g N : Int) (A : Option Addr) (M : List P2) (c : Nat) (me : P2) (vX : Value) (LX : List Le) (hr : V.RowsV W W.heap.size A M) (hc : M.length ≤ c) (hm : c ≤ maxLen) (hok : V.vR g N M = true) (hrk : 0 ≤ V.rk M me) (rM : ∀ p ∈ M, Rg2 p) (rm : Rg2 me) (hX : EnO W vX LX) (hlX : LX.length ≤ 400) :
    Calls Try.prog 14 #[.agg #[.int .u8 g, .int .u32 N, .slice A M.length c], .agg #[.int .u8 me.n, .int .u16 me.l], vX] W fun e W' => ∃ b m lb, e = .returned (.pointer (some ⟨b, 0, none⟩)) ∧ RP W' b m lb (newD g N M me (LX.map Le.v)) ∧ W.heap.size ≤ b ∧ W.heap.size ≤ m ∧ (∀ j, lb = some j → W.heap.size ≤ j) ∧ Below W.heap.size W W' := by
  obtain ⟨AX, cX, rfl, -, hcX, hmX, hAX⟩ := hX.rows
  obtain ⟨k, hk0⟩ : ∃ k, W.heap.size = k := ⟨_, rfl⟩
  obtain ⟨nM, hnM⟩ : ∃ n, M.length = n := ⟨_, rfl⟩
  obtain ⟨nX, hnX⟩ : ∃ n, LX.length = n := ⟨_, rfl⟩
  have hne : M ≠ [] := by
    rintro rfl
    simp [V.rk] at hrk
  have h8 : nM ≤ 8 := by
    simp only [V.vR, Bool.and_eq_true, decide_eq_true_eq] at hok
    omega
  obtain ⟨w0, hw0⟩ : ∃ z, W.alloc (.cells #[.int .u8 g, .int .u32 N, .slice A nM c] 45) = z := ⟨_, rfl⟩
  have b0 : Below k W w0 := by rw [← hw0, ← hk0]; exact (Below.refl _ _).alloc (Nat.le_refl _) _
  have r0 : w0.heap[k]? = some (.cells #[.int .u8 g, .int .u32 N, .slice A nM c] 45 (0, 0)) := by rw [← hw0, ← hk0]; exact heap_alloc_new _ _
  have s0 : w0.heap.size = k + 1 := by rw [← hw0, ← hk0]; simp
  obtain ⟨w1, hw1⟩ : ∃ z, w0.alloc (.cells #[.int .u8 me.n, .int .u16 me.l] 49) = z := ⟨_, rfl⟩
  have b01 : Below w0.heap.size w0 w1 := by rw [← hw1]; exact (Below.refl _ _).alloc (Nat.le_refl _) _
  have r1 : w1.heap[k + 1]? = some (.cells #[.int .u8 me.n, .int .u16 me.l] 49 (0, 0)) := by rw [← hw1, ← s0]; exact heap_alloc_new _ _
  have b1 : Below k W w1 := b0.trans (b01.mono (by omega))
  have q0 : w1.heap[k]? = some (.cells #[.int .u8 g, .int .u32 N, .slice A nM c] 45 (0, 0)) := (b01.block k (by omega)).trans r0
  have KR : Hid (∀ u, Below k W u → Calls Try.prog 34 #[.agg #[.int .u8 g, .int .u32 N, .slice A nM c]] u fun e w' => e = .returned (.bool true) ∧ Below u.heap.size u w') := Lib.hid fun u hu => by
    have := V.rightO1 g N A M c _ (hr.below hu (by omega) (by have := hu.size; omega)) hc hm
    rwa [hok, hnM] at this
  have KK : Hid (∀ u, Below k W u → Calls Try.prog 35 #[.agg #[.int .u8 g, .int .u32 N, .slice A nM c], .agg #[.int .u8 me.n, .int .u16 me.l]] u fun e w' => e = .returned (.int .i64 (V.rk M me)) ∧ Below u.heap.size u w') := Lib.hid fun u hu => hnM ▸ V.rankO' g N A M c me _ (hr.below hu (by omega) (by have := hu.size; omega)) hc hm
  have KCL : Hid (∀ u, Below k W u → Calls Try.prog 36 #[.agg #[.int .u8 g, .int .u32 N, .slice A nM c]] u fun e w' => ∃ (A2 : Option Addr) (c2 : Nat), e = .returned (.agg #[.int .u8 g, .int .u32 N, .slice A2 nM c2]) ∧ w'.ownsRow u.heap.size 49 2 (.slice A2 nM c2) nM (V.cellsV M) ∧ Below u.heap.size u w') := Lib.hid fun u hu => by
    have := V.cloneO g N A M c u (hr.below hu (by omega) (by have := hu.size; omega)) hne (by omega) hc hm
    rwa [hnM] at this
  have KOW : Hid (∀ u, Below k W u → Calls Try.prog 37 #[.slice AX nX cX] u fun e W' => ∃ v', e = .returned v' ∧ ∃ L', L'.map Le.v = LX.map Le.v ∧ EnO W' v' L' ∧ (∀ g, v'.ownBlock = some g → u.heap.size ≤ g) ∧ Below u.heap.size u W') := Lib.hid fun u hu => by
    have := rOwn _ LX u (hX.keep (Keeps.of_below (hk0.symm ▸ hu))) (by omega)
    rwa [hnX] at this
  have k0 := cell_of q0 0 (.int .u8 g) rfl
  have k1 := cell_of q0 1 (.int .u32 N) rfl
  have k2 := cell_of q0 2 (.slice A nM c) rfl
  have R1 : Hid (w1.heap[k]? = some (.cells #[.int .u8 g, .int .u32 N, .slice A nM c] 45 (0, 0)) ∧ w1.heap[k + 1]? = some (.cells #[.int .u8 me.n, .int .u16 me.l] 49 (0, 0))) := Lib.hid ⟨q0, r1⟩
  have qlenX : ∀ (W : World) (ty : TypeId), (Builtin.len_ #[37] ty #[.slice AX nX cX]).run Try.prog W = .ok (.int .i64 nX) W := fun W ty => by first | rfl | go_simp
  have HOKK := Lib.hid hok
  have HRM := Lib.hid rM
  have Hrm := Lib.hid rm
  have HNX := Lib.hid hnX
  have HNM := Lib.hid hnM
  have HW0 := Lib.hid hw0
  have HW1 := Lib.hid hw1
  have HK := Lib.hid hk0
  have HS0 := Lib.hid s0
  have B1 := Lib.hid b1
  have HLX := Lib.hid hlX
  obtain ⟨r, hrr⟩ : ∃ z, V.rk M me = z := ⟨_, rfl⟩
  rw [hrr] at KK hrk
  have hdn : decide (r < 0) = false := decide_eq_false (by omega)
  rw [hnX] at hlX hcX
  have hdx : decide ((400 : Int) < (nX : Int)) = false := decide_eq_false (by omega)
  rw [hnM]
  rw [hnX]
  clear hr hc hm hok hrk rM rm hX hAX hk0 hnM hnX hne hw0 b0 r0 s0 hw1 b01 r1 b1 q0 hrr hmX
  go_enter Try.func14, Try.ntmps14
  go_wp2_with (first
    | (rw [HW0.out, HK.out])
    | (rw [HW1.out, HS0.out])
    | fail)
  refine (KR.out w1 B1.out).mono ?_
  rintro e w2 ⟨rfl, b2⟩
  have B2 := Lib.hid (B1.out.trans (b2.mono (by have := B1.out.size; have := HK.out; omega)))
  have R2 : Hid (w2.heap[k]? = some (.cells #[.int .u8 g, .int .u32 N, .slice A nM c] 45 (0, 0)) ∧ w2.heap[k + 1]? = some (.cells #[.int .u8 me.n, .int .u16 me.l] 49 (0, 0))) := Lib.hid ⟨(b2.block k (heap_lt R1.out.1)).trans R1.out.1, (b2.block (k + 1) (heap_lt R1.out.2)).trans R1.out.2⟩
  clear k0 k1 k2 b2
  have k0 := cell_of R2.out.1 0 (.int .u8 g) rfl
  have k1 := cell_of R2.out.1 1 (.int .u32 N) rfl
  have k2 := cell_of R2.out.1 2 (.slice A nM c) rfl
  have p0 := cell_of R2.out.2 0 (.int .u8 me.n) rfl
  have p1 := cell_of R2.out.2 1 (.int .u16 me.l) rfl
  go_wp2_with fail
  refine (KK.out w2 B2.out).mono ?_
  rintro e w3 ⟨rfl, b3⟩
  have B3 := Lib.hid (B2.out.trans (b3.mono (by have := B2.out.size; have := HK.out; omega)))
  have R3 : Hid (w3.drew.heap[k]? = some (.cells #[.int .u8 g, .int .u32 N, .slice A nM c] 45 (0, 0)) ∧ w3.drew.heap[k + 1]? = some (.cells #[.int .u8 me.n, .int .u16 me.l] 49 (0, 0))) := Lib.hid ⟨(b3.block k (heap_lt R2.out.1)).trans R2.out.1, (b3.block (k + 1) (heap_lt R2.out.2)).trans R2.out.2⟩
  clear k0 k1 k2 p0 p1 b3
  go_wp2_with fail
  have B3d : Hid (Below k W w3.drew) := Lib.hid B3.out.drew
  refine region_heldT (S := fun u => u.heap[k]? = some (.cells #[.int .u8 g, .int .u32 N, .slice A nM c] 45 (0, 0)) ∧ u.heap[k + 1]? = some (.cells #[.int .u8 me.n, .int .u16 me.l] 49 (0, 0))) 10 (by kernel_rfl) (by decide) (fun inv => ?_)
  have HS := R3.out
  change FirstH _ _ _ _ _ _ _ _ _ _ w3.drew
  generalize w3.drew = wd at *
  refine FirstH.go (i := 0) (v := .agg #[.int .u8 g, .int .u32 N, .slice A nM c]) rfl rfl 24 rfl (Op.load 45 (Operand.tmp 3)) rfl (by kernel_rfl) (fun _ _ _ h => h) inv (fun W hS => by have k0 := cell_of hS.1 0 (.int .u8 g) rfl; have k1 := cell_of hS.1 1 (.int .u32 N) rfl; have k2 := cell_of hS.1 2 (.slice A nM c) rfl; have p0 := cell_of hS.2 0 (.int .u8 me.n) rfl; have p1 := cell_of hS.2 1 (.int .u16 me.l) rfl; unfold bareO; go_simp) HS (fun inv => ?_)
  try simp only [Act.put, List.setIfInBounds_toArray, List.set_cons_zero, List.set_cons_succ]
  refine FirstH.go (i := 2) (v := .agg #[.int .u8 me.n, .int .u16 me.l]) rfl rfl 26 rfl (Op.load 49 (Operand.tmp 4)) rfl (by kernel_rfl) (fun _ _ _ h => h) inv (fun W hS => by have k0 := cell_of hS.1 0 (.int .u8 g) rfl; have k1 := cell_of hS.1 1 (.int .u32 N) rfl; have k2 := cell_of hS.1 2 (.slice A nM c) rfl; have p0 := cell_of hS.2 0 (.int .u8 me.n) rfl; have p1 := cell_of hS.2 1 (.int .u16 me.l) rfl; unfold bareO; go_simp) HS (fun inv => ?_)
  try simp only [Act.put, List.setIfInBounds_toArray, List.set_cons_zero, List.set_cons_succ]
  refine FirstH.go (i := 3) (v := .slice AX nX cX) rfl rfl 27 rfl (Op.move (Operand.tmp 2)) rfl (by kernel_rfl) (fun _ _ _ h => h) inv (fun W hS => by unfold bareO; go_simp) HS (fun inv => ?_)
  try simp only [Act.put, List.setIfInBounds_toArray, List.set_cons_zero, List.set_cons_succ]
  refine FirstH.go (i := 5) (v := .int .i64 nX) rfl rfl 29 rfl (Op.move (Operand.tmp 7)) rfl (by kernel_rfl) (fun _ _ _ h => h) inv (fun W hS => by unfold bareO; go_simp) HS (fun inv => ?_)
  try simp only [Act.put, List.setIfInBounds_toArray, List.set_cons_zero, List.set_cons_succ]
  refine FirstH.go (i := 6) (v := .int .i64 nX) rfl rfl 30 rfl (Op.move (Operand.tmp 7)) rfl (by kernel_rfl) (fun _ _ _ h => h) inv (fun W hS => by unfold bareO; go_simp) HS (fun inv => ?_)
  try simp only [Act.put, List.setIfInBounds_toArray, List.set_cons_zero, List.set_cons_succ]
  have HS0 := HS
  clear HS
  have B0 := B3d
  refine FirstH.two (i := 1) (j := 7) (by kernel_rfl) (by decide) (by decide) inv (fun inv => ?_) (fun inv => ?_)
  · refine wpOp_call (i := 1) rfl rfl 25 rfl (Op.call { callee := Callee.value (.func 36), args := #[Operand.tmp 24], argTypes := #[45] }) rfl 36 #[.agg #[.int .u8 g, .int .u32 N, .slice A nM c]] (by unfold bareO; go_simp) (KCL.out wd B0.out) ?_
    rintro e w10 ⟨A2, c2, rfl, o5, b5⟩
    have HS10 : w10.heap[k]? = some (.cells #[.int .u8 g, .int .u32 N, .slice A nM c] 45 (0, 0)) ∧ w10.heap[k + 1]? = some (.cells #[.int .u8 me.n, .int .u16 me.l] 49 (0, 0)) := ⟨(b5.block k (heap_lt HS0.1)).trans HS0.1, (b5.block (k + 1) (heap_lt HS0.2)).trans HS0.2⟩
    have B10 := Lib.hid (B0.out.trans (b5.mono (by have := B0.out.size; have := HK.out; omega)))
    have O10 : Hid (w10.ownsRow k 49 2 (.slice A2 nM c2) nM (V.cellsV M)) := Lib.hid (V.own_mono o5 (by have := B0.out.size; have := HK.out; omega))
    clear o5 b5 HS0
    refine ⟨_, rfl, HS10, ?_⟩
    try simp only [Act.put, List.setIfInBounds_toArray, List.set_cons_zero, List.set_cons_succ]
    refine FirstH.two (i := 4) (j := 7) (by kernel_rfl) (by decide) (by decide) inv (fun inv => ?_) (fun inv => ?_)
    · refine wpOp_call (i := 4) rfl rfl 28 rfl (Op.call { callee := Callee.value (.func 37), args := #[Operand.tmp 27], argTypes := #[37] }) rfl 37 #[.slice AX nX cX] (by unfold bareO; go_simp) (KOW.out w10 B10.out) ?_
      rintro e w11 ⟨v6, rfl, L6, hm6, hx6, hf6, b6⟩
      have HS11 : w11.heap[k]? = some (.cells #[.int .u8 g, .int .u32 N, .slice A nM c] 45 (0, 0)) ∧ w11.heap[k + 1]? = some (.cells #[.int .u8 me.n, .int .u16 me.l] 49 (0, 0)) := ⟨(b6.block k (heap_lt HS10.1)).trans HS10.1, (b6.block (k + 1) (heap_lt HS10.2)).trans HS10.2⟩
      have B11 := Lib.hid (B10.out.trans (b6.mono (by have := B10.out.size; have := HK.out; omega)))
      have O11 := Lib.hid (own_belowR O10.out b6)
      have hl6 : L6.length = nX := by
        have := congrArg List.length hm6
        rw [List.length_map, List.length_map] at this
        exact this.trans HNX.out
      obtain ⟨A6, c6, e6, hc6, hm6', -⟩ := RowO.slice hx6.row
      rw [hl6] at e6
      subst e6
      have HL6 := Lib.hid hl6
      have X11 := Lib.hid hx6
      have M6 := Lib.hid hm6
      have F6 : Hid (∀ g, (Value.slice A6 nX c6).ownBlock = some g → k ≤ g) := Lib.hid fun g hg => Nat.le_trans (by have := B10.out.size; have := HK.out; omega) (hf6 g hg)
      clear b6 HS10 hm6 hx6 hf6 hl6 hc6 hm6'
      refine ⟨_, rfl, HS11, ?_⟩
      try simp only [Act.put, List.setIfInBounds_toArray, List.set_cons_zero, List.set_cons_succ]
      obtain ⟨mm, hmm⟩ : ∃ z, w11.heap.size = z := ⟨_, rfl⟩
      obtain ⟨w12, hw7⟩ : ∃ z, w11.alloc (.map #[] 0) = z := ⟨_, rfl⟩
      have b7 : Below w11.heap.size w11 w12 := by rw [← hw7]; exact (Below.refl _ _).alloc (Nat.le_refl _) _
      have HS12 : w12.heap[k]? = some (.cells #[.int .u8 g, .int .u32 N, .slice A nM c] 45 (0, 0)) ∧ w12.heap[k + 1]? = some (.cells #[.int .u8 me.n, .int .u16 me.l] 49 (0, 0)) := ⟨(b7.block k (heap_lt HS11.1)).trans HS11.1, (b7.block (k + 1) (heap_lt HS11.2)).trans HS11.2⟩
      have B12 := Lib.hid (B11.out.trans (b7.mono (by have := B11.out.size; have := HK.out; omega)))
      have O12 := Lib.hid (own_belowR O11.out b7)
      have X12 := Lib.hid (X11.out.keep (Keeps.of_below b7))
      have T12 : Hid (TlAt w12 mm (fun _ => 0) 0) := Lib.hid (by rw [← hw7, ← hmm]; exact TlAt.made w11)
      have MM : Hid (k ≤ mm) := Lib.hid (by have := B11.out.size; have := HK.out; omega)
      have hmk := @run_makeMap Try.prog
      refine FirstH.only (i := 7) (by kernel_rfl) (by decide) inv (fun inv => wpOp_vl (w' := w12) (v := .map (some mm)) (i := 7) rfl rfl 31 rfl (Op.makeMap 79 none) rfl (by rw [← hw7, ← hmm]; unfold bareO; go_simp) ?_)
      refine ⟨HS12, ?_⟩
      try simp only [Act.put, List.setIfInBounds_toArray, List.set_cons_zero, List.set_cons_succ]
      clear HS11 b7 hw7 hmm hmk
      refine FirstH.go (i := 8) (v := .agg #[.int .u8 g, .int .u32 N, .slice A2 nM c2, .int .u8 me.n, .int .u16 me.l, .slice A6 nX c6, .int .i64 nX, .int .i64 nX, .bool false, .map (some mm)]) rfl rfl 32 rfl (Op.build 81 #[(0, Operand.tmp 25), (1, Operand.tmp 26), (2, Operand.tmp 28), (3, Operand.tmp 29), (4, Operand.tmp 30), (6, Operand.tmp 31)]) rfl (by kernel_rfl) (fun _ _ _ h => h) inv (fun W hS => by unfold bareO; go_simp) HS12 (fun inv => ?_)
      try simp only [Act.put, List.setIfInBounds_toArray, List.set_cons_zero, List.set_cons_succ]
      obtain ⟨bb, hbb⟩ : ∃ z, w12.heap.size = z := ⟨_, rfl⟩
      obtain ⟨w13, hw8⟩ : ∃ z, w12.alloc (.cells #[.int .u8 g, .int .u32 N, .slice A2 nM c2, .int .u8 me.n, .int .u16 me.l, .slice A6 nX c6, .int .i64 nX, .int .i64 nX, .bool false, .map (some mm)] 81) = z := ⟨_, rfl⟩
      have b8 : Below w12.heap.size w12 w13 := by rw [← hw8]; exact (Below.refl _ _).alloc (Nat.le_refl _) _
      have r8 : w13.heap[bb]? = some (.cells #[.int .u8 g, .int .u32 N, .slice A2 nM c2, .int .u8 me.n, .int .u16 me.l, .slice A6 nX c6, .int .i64 nX, .int .i64 nX, .bool false, .map (some mm)] 81 (0, 0)) := by rw [← hw8, ← hbb]; exact heap_alloc_new _ _
      have HS13 : w13.heap[k]? = some (.cells #[.int .u8 g, .int .u32 N, .slice A nM c] 45 (0, 0)) ∧ w13.heap[k + 1]? = some (.cells #[.int .u8 me.n, .int .u16 me.l] 49 (0, 0)) := ⟨(b8.block k (heap_lt HS12.1)).trans HS12.1, (b8.block (k + 1) (heap_lt HS12.2)).trans HS12.2⟩
      have B13 := Lib.hid (B12.out.trans (b8.mono (by have := B12.out.size; have := HK.out; omega)))
      have O13 := Lib.hid (own_belowR O12.out b8)
      have X13 := Lib.hid (X12.out.keep (Keeps.of_below b8))
      have T13 := Lib.hid (T12.out.keep (by
        obtain ⟨es, cl, hm⟩ := T12.out.lt
        exact b8.block mm (heap_lt hm)))
      refine FirstH.only (i := 9) (by kernel_rfl) (by decide) inv (fun inv => wpOp_vl (w' := w13) (v := .pointer (some ⟨bb, 0, none⟩)) (i := 9) rfl rfl 33 rfl (Op.box 81 (.tmp 32)) rfl (by rw [← hw8, ← hbb]; unfold bareO; go_simp) ?_)
      refine ⟨HS13, ?_⟩
      try simp only [Act.put, List.setIfInBounds_toArray, List.set_cons_zero, List.set_cons_succ]
      refine ⟨by kernel_rfl, ?_⟩
      simp only [List.drop_succ_cons, List.drop_zero]
      have R8 := Lib.hid r8
      have HB : Hid (k ≤ bb) := Lib.hid (by have := B12.out.size; have := HK.out; omega)
      clear HS13 HS12 hw8 b8 r8 hbb inv
      go_wp2
      go_ret
      refine ⟨bb, mm, _, rfl, ⟨⟨.slice A2 nM c2, .slice A6 nX c6, L6⟩, rfl, ?_⟩, by rw [HK.out]; exact HB.out, by rw [HK.out]; exact MM.out, by rw [HK.out]; exact F6.out, by rw [HK.out]; exact B13.out⟩
      have hlx : (LX.map Le.v).length = nX := by rw [List.length_map]; exact HNX.out
      refine ⟨?_, T13.out, ?_, ?_, X13.out.all, M6.out, HOKK.out, ?_, Nat.le_refl _, Nat.le_refl _, fun _ => Nat.zero_le _, Hrm.out, HRM.out⟩
      · unfold Rd.cs newD
        rw [hlx]
        exact R8.out
      · have := RowO.of_owns O13.out
        unfold PrO newD
        rw [HNM.out]
        exact this
      · have := X13.out.row
        rw [HL6.out] at this ⊢
        exact this
      · show (LX.map Le.v).length ≤ 400
        rw [hlx, ← HNX.out]
        exact HLX.out
    · obtain ⟨mm, hmm⟩ : ∃ z, w10.heap.size = z := ⟨_, rfl⟩
      obtain ⟨w14, hw7⟩ : ∃ z, w10.alloc (.map #[] 0) = z := ⟨_, rfl⟩
      have b7 : Below w10.heap.size w10 w14 := by rw [← hw7]; exact (Below.refl _ _).alloc (Nat.le_refl _) _
      have HS14 : w14.heap[k]? = some (.cells #[.int .u8 g, .int .u32 N, .slice A nM c] 45 (0, 0)) ∧ w14.heap[k + 1]? = some (.cells #[.int .u8 me.n, .int .u16 me.l] 49 (0, 0)) := ⟨(b7.block k (heap_lt HS10.1)).trans HS10.1, (b7.block (k + 1) (heap_lt HS10.2)).trans HS10.2⟩
      have B14 := Lib.hid (B10.out.trans (b7.mono (by have := B10.out.size; have := HK.out; omega)))
      have O14 := Lib.hid (own_belowR O10.out b7)
      have T14 : Hid (TlAt w14 mm (fun _ => 0) 0) := Lib.hid (by rw [← hw7, ← hmm]; exact TlAt.made w10)
      have MM : Hid (k ≤ mm) := Lib.hid (by have := B10.out.size; have := HK.out; omega)
      have hmk := @run_makeMap Try.prog
      refine wpOp_vl (w' := w14) (v := .map (some mm)) (i := 7) rfl rfl 31 rfl (Op.makeMap 79 none) rfl (by rw [← hw7, ← hmm]; unfold bareO; go_simp) ?_
      refine ⟨HS14, ?_⟩
      try simp only [Act.put, List.setIfInBounds_toArray, List.set_cons_zero, List.set_cons_succ]
      clear HS10 b7 hw7 hmm hmk
      refine FirstH.only (i := 4) (by kernel_rfl) (by decide) inv (fun inv => wpOp_call (i := 4) rfl rfl 28 rfl (Op.call { callee := Callee.value (.func 37), args := #[Operand.tmp 27], argTypes := #[37] }) rfl 37 #[.slice AX nX cX] (by unfold bareO; go_simp) (KOW.out w14 B14.out) ?_)
      rintro e w15 ⟨v6, rfl, L6, hm6, hx6, hf6, b6⟩
      have HS15 : w15.heap[k]? = some (.cells #[.int .u8 g, .int .u32 N, .slice A nM c] 45 (0, 0)) ∧ w15.heap[k + 1]? = some (.cells #[.int .u8 me.n, .int .u16 me.l] 49 (0, 0)) := ⟨(b6.block k (heap_lt HS14.1)).trans HS14.1, (b6.block (k + 1) (heap_lt HS14.2)).trans HS14.2⟩
      have B15 := Lib.hid (B14.out.trans (b6.mono (by have := B14.out.size; have := HK.out; omega)))
      have O15 := Lib.hid (own_belowR O14.out b6)
      have T15 := Lib.hid (T14.out.keep (by
        obtain ⟨es, cl, hm⟩ := T14.out.lt
        exact b6.block mm (heap_lt hm)))
      have hl6 : L6.length = nX := by
        have := congrArg List.length hm6
        rw [List.length_map, List.length_map] at this
        exact this.trans HNX.out
      obtain ⟨A6, c6, e6, hc6, hm6', -⟩ := RowO.slice hx6.row
      rw [hl6] at e6
      subst e6
      have HL6 := Lib.hid hl6
      have X15 := Lib.hid hx6
      have M6 := Lib.hid hm6
      have F6 : Hid (∀ g, (Value.slice A6 nX c6).ownBlock = some g → k ≤ g) := Lib.hid fun g hg => Nat.le_trans (by have := B14.out.size; have := HK.out; omega) (hf6 g hg)
      clear b6 HS14 hm6 hx6 hf6 hl6 hc6 hm6'
      refine ⟨_, rfl, HS15, ?_⟩
      try simp only [Act.put, List.setIfInBounds_toArray, List.set_cons_zero, List.set_cons_succ]
      refine FirstH.go (i := 8) (v := .agg #[.int .u8 g, .int .u32 N, .slice A2 nM c2, .int .u8 me.n, .int .u16 me.l, .slice A6 nX c6, .int .i64 nX, .int .i64 nX, .bool false, .map (some mm)]) rfl rfl 32 rfl (Op.build 81 #[(0, Operand.tmp 25), (1, Operand.tmp 26), (2, Operand.tmp 28), (3, Operand.tmp 29), (4, Operand.tmp 30), (6, Operand.tmp 31)]) rfl (by kernel_rfl) (fun _ _ _ h => h) inv (fun W hS => by unfold bareO; go_simp) HS15 (fun inv => ?_)
      try simp only [Act.put, List.setIfInBounds_toArray, List.set_cons_zero, List.set_cons_succ]
      obtain ⟨bb, hbb⟩ : ∃ z, w15.heap.size = z := ⟨_, rfl⟩
      obtain ⟨w16, hw8⟩ : ∃ z, w15.alloc (.cells #[.int .u8 g, .int .u32 N, .slice A2 nM c2, .int .u8 me.n, .int .u16 me.l, .slice A6 nX c6, .int .i64 nX, .int .i64 nX, .bool false, .map (some mm)] 81) = z := ⟨_, rfl⟩
      have b8 : Below w15.heap.size w15 w16 := by rw [← hw8]; exact (Below.refl _ _).alloc (Nat.le_refl _) _
      have r8 : w16.heap[bb]? = some (.cells #[.int .u8 g, .int .u32 N, .slice A2 nM c2, .int .u8 me.n, .int .u16 me.l, .slice A6 nX c6, .int .i64 nX, .int .i64 nX, .bool false, .map (some mm)] 81 (0, 0)) := by rw [← hw8, ← hbb]; exact heap_alloc_new _ _
      have HS16 : w16.heap[k]? = some (.cells #[.int .u8 g, .int .u32 N, .slice A nM c] 45 (0, 0)) ∧ w16.heap[k + 1]? = some (.cells #[.int .u8 me.n, .int .u16 me.l] 49 (0, 0)) := ⟨(b8.block k (heap_lt HS15.1)).trans HS15.1, (b8.block (k + 1) (heap_lt HS15.2)).trans HS15.2⟩
      have B16 := Lib.hid (B15.out.trans (b8.mono (by have := B15.out.size; have := HK.out; omega)))
      have O16 := Lib.hid (own_belowR O15.out b8)
      have X16 := Lib.hid (X15.out.keep (Keeps.of_below b8))
      have T16 := Lib.hid (T15.out.keep (by
        obtain ⟨es, cl, hm⟩ := T15.out.lt
        exact b8.block mm (heap_lt hm)))
      refine FirstH.only (i := 9) (by kernel_rfl) (by decide) inv (fun inv => wpOp_vl (w' := w16) (v := .pointer (some ⟨bb, 0, none⟩)) (i := 9) rfl rfl 33 rfl (Op.box 81 (.tmp 32)) rfl (by rw [← hw8, ← hbb]; unfold bareO; go_simp) ?_)
      refine ⟨HS16, ?_⟩
      try simp only [Act.put, List.setIfInBounds_toArray, List.set_cons_zero, List.set_cons_succ]
      refine ⟨by kernel_rfl, ?_⟩
      simp only [List.drop_succ_cons, List.drop_zero]
      have R8 := Lib.hid r8
      have HB : Hid (k ≤ bb) := Lib.hid (by have := B15.out.size; have := HK.out; omega)
      clear HS16 HS15 hw8 b8 r8 hbb inv
      go_wp2
      go_ret
      refine ⟨bb, mm, _, rfl, ⟨⟨.slice A2 nM c2, .slice A6 nX c6, L6⟩, rfl, ?_⟩, by rw [HK.out]; exact HB.out, by rw [HK.out]; exact MM.out, by rw [HK.out]; exact F6.out, by rw [HK.out]; exact B16.out⟩
      have hlx : (LX.map Le.v).length = nX := by rw [List.length_map]; exact HNX.out
      refine ⟨?_, T16.out, ?_, ?_, X16.out.all, M6.out, HOKK.out, ?_, Nat.le_refl _, Nat.le_refl _, fun _ => Nat.zero_le _, Hrm.out, HRM.out⟩
      · unfold Rd.cs newD
        rw [hlx]
        exact R8.out
      · have := RowO.of_owns O16.out
        unfold PrO newD
        rw [HNM.out]
        exact this
      · have := X16.out.row
        rw [HL6.out] at this ⊢
        exact this
      · show (LX.map Le.v).length ≤ 400
        rw [hlx, ← HNX.out]
        exact HLX.out
  · obtain ⟨mm, hmm⟩ : ∃ z, wd.heap.size = z := ⟨_, rfl⟩
    obtain ⟨w17, hw7⟩ : ∃ z, wd.alloc (.map #[] 0) = z := ⟨_, rfl⟩
    have b7 : Below wd.heap.size wd w17 := by rw [← hw7]; exact (Below.refl _ _).alloc (Nat.le_refl _) _
    have HS17 : w17.heap[k]? = some (.cells #[.int .u8 g, .int .u32 N, .slice A nM c] 45 (0, 0)) ∧ w17.heap[k + 1]? = some (.cells #[.int .u8 me.n, .int .u16 me.l] 49 (0, 0)) := ⟨(b7.block k (heap_lt HS0.1)).trans HS0.1, (b7.block (k + 1) (heap_lt HS0.2)).trans HS0.2⟩
    have B17 := Lib.hid (B0.out.trans (b7.mono (by have := B0.out.size; have := HK.out; omega)))
    have T17 : Hid (TlAt w17 mm (fun _ => 0) 0) := Lib.hid (by rw [← hw7, ← hmm]; exact TlAt.made wd)
    have MM : Hid (k ≤ mm) := Lib.hid (by have := B0.out.size; have := HK.out; omega)
    have hmk := @run_makeMap Try.prog
    refine wpOp_vl (w' := w17) (v := .map (some mm)) (i := 7) rfl rfl 31 rfl (Op.makeMap 79 none) rfl (by rw [← hw7, ← hmm]; unfold bareO; go_simp) ?_
    refine ⟨HS17, ?_⟩
    try simp only [Act.put, List.setIfInBounds_toArray, List.set_cons_zero, List.set_cons_succ]
    clear HS0 b7 hw7 hmm hmk
    refine FirstH.only (i := 1) (by kernel_rfl) (by decide) inv (fun inv => wpOp_call (i := 1) rfl rfl 25 rfl (Op.call { callee := Callee.value (.func 36), args := #[Operand.tmp 24], argTypes := #[45] }) rfl 36 #[.agg #[.int .u8 g, .int .u32 N, .slice A nM c]] (by unfold bareO; go_simp) (KCL.out w17 B17.out) ?_)
    rintro e w18 ⟨A2, c2, rfl, o5, b5⟩
    have HS18 : w18.heap[k]? = some (.cells #[.int .u8 g, .int .u32 N, .slice A nM c] 45 (0, 0)) ∧ w18.heap[k + 1]? = some (.cells #[.int .u8 me.n, .int .u16 me.l] 49 (0, 0)) := ⟨(b5.block k (heap_lt HS17.1)).trans HS17.1, (b5.block (k + 1) (heap_lt HS17.2)).trans HS17.2⟩
    have B18 := Lib.hid (B17.out.trans (b5.mono (by have := B17.out.size; have := HK.out; omega)))
    have T18 := Lib.hid (T17.out.keep (by
      obtain ⟨es, cl, hm⟩ := T17.out.lt
      exact b5.block mm (heap_lt hm)))
    have O18 : Hid (w18.ownsRow k 49 2 (.slice A2 nM c2) nM (V.cellsV M)) := Lib.hid (V.own_mono o5 (by have := B17.out.size; have := HK.out; omega))
    clear o5 b5 HS17
    refine ⟨_, rfl, HS18, ?_⟩
    try simp only [Act.put, List.setIfInBounds_toArray, List.set_cons_zero, List.set_cons_succ]
    refine FirstH.only (i := 4) (by kernel_rfl) (by decide) inv (fun inv => wpOp_call (i := 4) rfl rfl 28 rfl (Op.call { callee := Callee.value (.func 37), args := #[Operand.tmp 27], argTypes := #[37] }) rfl 37 #[.slice AX nX cX] (by unfold bareO; go_simp) (KOW.out w18 B18.out) ?_)
    rintro e w19 ⟨v6, rfl, L6, hm6, hx6, hf6, b6⟩
    have HS19 : w19.heap[k]? = some (.cells #[.int .u8 g, .int .u32 N, .slice A nM c] 45 (0, 0)) ∧ w19.heap[k + 1]? = some (.cells #[.int .u8 me.n, .int .u16 me.l] 49 (0, 0)) := ⟨(b6.block k (heap_lt HS18.1)).trans HS18.1, (b6.block (k + 1) (heap_lt HS18.2)).trans HS18.2⟩
    have B19 := Lib.hid (B18.out.trans (b6.mono (by have := B18.out.size; have := HK.out; omega)))
    have O19 := Lib.hid (own_belowR O18.out b6)
    have T19 := Lib.hid (T18.out.keep (by
      obtain ⟨es, cl, hm⟩ := T18.out.lt
      exact b6.block mm (heap_lt hm)))
    have hl6 : L6.length = nX := by
      have := congrArg List.length hm6
      rw [List.length_map, List.length_map] at this
      exact this.trans HNX.out
    obtain ⟨A6, c6, e6, hc6, hm6', -⟩ := RowO.slice hx6.row
    rw [hl6] at e6
    subst e6
    have HL6 := Lib.hid hl6
    have X19 := Lib.hid hx6
    have M6 := Lib.hid hm6
    have F6 : Hid (∀ g, (Value.slice A6 nX c6).ownBlock = some g → k ≤ g) := Lib.hid fun g hg => Nat.le_trans (by have := B18.out.size; have := HK.out; omega) (hf6 g hg)
    clear b6 HS18 hm6 hx6 hf6 hl6 hc6 hm6'
    refine ⟨_, rfl, HS19, ?_⟩
    try simp only [Act.put, List.setIfInBounds_toArray, List.set_cons_zero, List.set_cons_succ]
    refine FirstH.go (i := 8) (v := .agg #[.int .u8 g, .int .u32 N, .slice A2 nM c2, .int .u8 me.n, .int .u16 me.l, .slice A6 nX c6, .int .i64 nX, .int .i64 nX, .bool false, .map (some mm)]) rfl rfl 32 rfl (Op.build 81 #[(0, Operand.tmp 25), (1, Operand.tmp 26), (2, Operand.tmp 28), (3, Operand.tmp 29), (4, Operand.tmp 30), (6, Operand.tmp 31)]) rfl (by kernel_rfl) (fun _ _ _ h => h) inv (fun W hS => by unfold bareO; go_simp) HS19 (fun inv => ?_)
    try simp only [Act.put, List.setIfInBounds_toArray, List.set_cons_zero, List.set_cons_succ]
    obtain ⟨bb, hbb⟩ : ∃ z, w19.heap.size = z := ⟨_, rfl⟩
    obtain ⟨w20, hw8⟩ : ∃ z, w19.alloc (.cells #[.int .u8 g, .int .u32 N, .slice A2 nM c2, .int .u8 me.n, .int .u16 me.l, .slice A6 nX c6, .int .i64 nX, .int .i64 nX, .bool false, .map (some mm)] 81) = z := ⟨_, rfl⟩
    have b8 : Below w19.heap.size w19 w20 := by rw [← hw8]; exact (Below.refl _ _).alloc (Nat.le_refl _) _
    have r8 : w20.heap[bb]? = some (.cells #[.int .u8 g, .int .u32 N, .slice A2 nM c2, .int .u8 me.n, .int .u16 me.l, .slice A6 nX c6, .int .i64 nX, .int .i64 nX, .bool false, .map (some mm)] 81 (0, 0)) := by rw [← hw8, ← hbb]; exact heap_alloc_new _ _
    have HS20 : w20.heap[k]? = some (.cells #[.int .u8 g, .int .u32 N, .slice A nM c] 45 (0, 0)) ∧ w20.heap[k + 1]? = some (.cells #[.int .u8 me.n, .int .u16 me.l] 49 (0, 0)) := ⟨(b8.block k (heap_lt HS19.1)).trans HS19.1, (b8.block (k + 1) (heap_lt HS19.2)).trans HS19.2⟩
    have B20 := Lib.hid (B19.out.trans (b8.mono (by have := B19.out.size; have := HK.out; omega)))
    have O20 := Lib.hid (own_belowR O19.out b8)
    have X20 := Lib.hid (X19.out.keep (Keeps.of_below b8))
    have T20 := Lib.hid (T19.out.keep (by
      obtain ⟨es, cl, hm⟩ := T19.out.lt
      exact b8.block mm (heap_lt hm)))
    refine FirstH.only (i := 9) (by kernel_rfl) (by decide) inv (fun inv => wpOp_vl (w' := w20) (v := .pointer (some ⟨bb, 0, none⟩)) (i := 9) rfl rfl 33 rfl (Op.box 81 (.tmp 32)) rfl (by rw [← hw8, ← hbb]; unfold bareO; go_simp) ?_)
    refine ⟨HS20, ?_⟩
    try simp only [Act.put, List.setIfInBounds_toArray, List.set_cons_zero, List.set_cons_succ]
    refine ⟨by kernel_rfl, ?_⟩
    simp only [List.drop_succ_cons, List.drop_zero]
    have R8 := Lib.hid r8
    have HB : Hid (k ≤ bb) := Lib.hid (by have := B19.out.size; have := HK.out; omega)
    clear HS20 HS19 hw8 b8 r8 hbb inv
    go_wp2
    go_ret
    refine ⟨bb, mm, _, rfl, ⟨⟨.slice A2 nM c2, .slice A6 nX c6, L6⟩, rfl, ?_⟩, by rw [HK.out]; exact HB.out, by rw [HK.out]; exact MM.out, by rw [HK.out]; exact F6.out, by rw [HK.out]; exact B20.out⟩
    have hlx : (LX.map Le.v).length = nX := by rw [List.length_map]; exact HNX.out
    refine ⟨?_, T20.out, ?_, ?_, X20.out.all, M6.out, HOKK.out, ?_, Nat.le_refl _, Nat.le_refl _, fun _ => Nat.zero_le _, Hrm.out, HRM.out⟩
    · unfold Rd.cs newD
      rw [hlx]
      exact R8.out
    · have := RowO.of_owns O20.out
      unfold PrO newD
      rw [HNM.out]
      exact this
    · have := X20.out.row
      rw [HL6.out] at this ⊢
      exact this
    · show (LX.map Le.v).length ≤ 400
      rw [hlx, ← HNX.out]
      exact HLX.out

end Go.Proofs.Ytjdmjiikpnlkjaa
