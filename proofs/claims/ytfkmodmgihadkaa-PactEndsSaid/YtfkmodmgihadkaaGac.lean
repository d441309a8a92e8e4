/-
  The program's acceptor: NewAcceptor, Prepare, Accept, Promised, Held, by exact answers; one that is nil. Condition: it lies in memory.
-/
import Derived.Test.YtfkmodmgihadkaaGpd
import Derived.Test.YtfkmodmgihadkaaGsm
import Derived.Deep.MidRow
namespace Go.Proofs.Ytfkmodmgihadkaa
set_option linter.unusedSimpArgs false
set_option linter.unusedVariables false
open Go.RowKit Go.Maps Go.Sort
open V (P2)

def Ad.prep (d : Ad) (b : Int) : Ad := if d.may b = true then { d with pr := b } else d
def Ad.acc (d : Ad) (b : Int) (y : VD) : Ad := if d.may b = true then { d with pr := b, bal := b, vd := y, has := true } else d
theorem Ad.prep_no {d : Ad} {b : Int} (h : d.may b = false) : d.prep b = d := by simp [Ad.prep, h]
theorem Ad.prep_yes {d : Ad} {b : Int} (h : d.may b = true) : d.prep b = { d with pr := b } := by simp [Ad.prep, h]
theorem Ad.acc_no {d : Ad} {b : Int} {y : VD} (h : d.may b = false) : d.acc b y = d := by simp [Ad.acc, h]
theorem Ad.acc_yes {d : Ad} {b : Int} {y : VD} (h : d.may b = true) : d.acc b y = { d with pr := b, bal := b, vd := y, has := true } := by simp [Ad.acc, h]
theorem run_store_midO {P : Program} {a : Act} {W : World} (ty t0 : TypeId) (x y : Operand) (b o : Nat) (cells : Array Value) (hx : a.eval x = .pointer (some ⟨b, o, none⟩)) (hy : a.eval y = .agg cells)
    (ht : W.there b o cells.size) (hi : (P.info? ty).map (·.size) = some cells.size) (h1 : cells.all (·.oneCell') = true) : (execOp a.eval (bareO (.store ty x y) t0)).run P W = .ok .skip (W.setCells b o cells.toList) := by
  unfold bareO execOp
  simp only [hx, hy, Instr.storeAt, Instr.sureAddr, Sem.run_bind, Sem.run_pure, Result.andThen_ok, run_storeVar_mid W b o ty cells ht hi h1]
set_option maxRecDepth 100000 in
set_option maxHeartbeats 2000000 in
theorem newA (W : World) : Calls Try.prog 6 #[] W fun e W' => e = .returned (.pointer (some ⟨W.heap.size, 0, none⟩)) ∧ AP W' W.heap.size A1 ∧ Below W.heap.size W W' := by
  go_enter Try.func6, Try.ntmps6
  go_wp2
  go_ret
  exact ⟨rfl, ⟨V0, heap_alloc_new _ _, V0.ok _, rfl⟩, (Below.refl _ _).alloc (Nat.le_refl _) _⟩
theorem prepNil (b : Int) (W : World) : Calls Try.prog 21 #[.pointer none, .int .u64 b] W fun e W' => e = .returned (.bool false) ∧ W = W' := by
  go_enter Try.func21, Try.ntmps21
  go_wp2
  go_ret
  exact ⟨rfl, rfl⟩
theorem heldNil (W : World) : Calls Try.prog 11 #[.pointer none] W fun e W' => e = .returned (.tuple #[.int .u64 0, .agg #[.slice none 0 0, .slice none 0 0], .bool false]) ∧ Below W.heap.size W W' := by
  go_enter Try.func11, Try.ntmps11
  go_wp2
  refine bodyPost_ret (v := .tuple #[.int .u64 0, .agg #[.slice none 0 0, .slice none 0 0], .bool false]) (by simp [results, Try.results11, go_sem]; try go_simp) rfl ⟨rfl, ?_⟩
  repeat (first | (with_reducible exact Below.refl _ _) | (with_reducible refine Below.setCell ?_ (by first | omega | (simp; done) | (simp; omega)) _) | (with_reducible refine Below.drew ?_) | (with_reducible refine Below.alloc ?_ (by first | omega | (simp; done) | (simp; omega)) _))
set_option maxRecDepth 100000 in
set_option maxHeartbeats 2000000 in
theorem prepA (W : World) (b : Nat) (d : Ad) (h : AP W b d) (n : Int) : Calls Try.prog 21 #[.pointer (some ⟨b, 0, none⟩), .int .u64 n] W fun e W' => e = .returned (.bool (d.may n)) ∧ AP W' b (d.prep n) ∧ KP (fun j => j = b) W W' := by
  obtain ⟨x, h, hok, hd⟩ := h
  have c0 := cell_of h 0 (.bool d.made) rfl
  have c1 := cell_of h 1 (.int .u64 d.pr) rfl
  have f1 := frz_row 1 h
  have hset : W.setCell ⟨b, 1, none⟩ (.int .u64 n) = W.setCell ⟨b, 1, none⟩ (.int .u64 n) := rfl
  have hend : d.may n = true → AP (W.setCell ⟨b, 1, none⟩ (.int .u64 n)) b (d.prep n) ∧ KP (fun j => j = b) W (W.setCell ⟨b, 1, none⟩ (.int .u64 n)) := fun hm => by
    have kp := KP.set (S := fun j => j = b) W b 1 (.int .u64 n) rfl
    rw [Ad.prep_yes hm]
    exact ⟨⟨x, row_set h _, hok.keep (AP.keeps ⟨x, h, hok, hd⟩ kp), hd⟩, kp⟩
  have HEND := Lib.hid hend
  have HNO : Hid (d.may n = false → AP W b (d.prep n)) := Lib.hid fun hm => by rw [Ad.prep_no hm]; exact ⟨x, h, hok, hd⟩
  have HM : Hid (d.may n = (d.made && decide (n ≠ 0) && decide (d.pr ≤ n))) := Lib.hid rfl
  clear h hok hd hset hend
  cases hmd : d.made with
  | false =>
    rw [hmd] at c0
    have HF : Hid (d.may n = false) := Lib.hid (by rw [HM.out, hmd]; rfl)
    clear hmd
    go_enter Try.func21, Try.ntmps21
    go_wp2
    go_ret
    exact ⟨ret_bool HF.out.symm, HNO.out HF.out, KP.refl _ _⟩
  | true =>
    rw [hmd] at c0
    by_cases h0 : n = 0
    · have HF : Hid (d.may n = false) := Lib.hid (by rw [HM.out, h0]; simp)
      subst h0
      go_enter Try.func21, Try.ntmps21
      go_wp2
      go_ret
      exact ⟨ret_bool HF.out.symm, HNO.out HF.out, KP.refl _ _⟩
    · have h0b : (n == 0) = false := by simpa using h0
      by_cases hp : d.pr ≤ n
      · have HF : Hid (d.may n = true) := Lib.hid (by rw [HM.out, hmd]; simp [h0, hp])
        have hpi : ¬ n < d.pr := by omega
        clear hmd h0
        go_enter Try.func21, Try.ntmps21
        go_wp2
        go_ret
        exact ⟨ret_bool HF.out.symm, HEND.out HF.out⟩
      · have HF : Hid (d.may n = false) := Lib.hid (by rw [HM.out, hmd]; simp [h0, hp])
        have hpi : n < d.pr := by omega
        clear hmd h0
        go_enter Try.func21, Try.ntmps21
        go_wp2
        go_ret
        exact ⟨ret_bool HF.out.symm, HNO.out HF.out, KP.refl _ _⟩
set_option maxRecDepth 100000 in
set_option maxHeartbeats 2000000 in
theorem heldA (W : World) (b : Nat) (d : Ad) (h : AP W b d) : Calls Try.prog 11 #[.pointer (some ⟨b, 0, none⟩)] W fun e W' => ∃ x : Vl, e = .returned (.tuple #[.int .u64 d.bal, .agg x.cs, .bool d.has]) ∧ x.Ok W' ∧ x.d = d.vd ∧ Below W.heap.size W W' := by
  obtain ⟨x, h, hok, hd⟩ := h
  obtain ⟨k, hk⟩ : ∃ k, W.heap.size = k := ⟨_, rfl⟩
  obtain ⟨w1, hw1⟩ : ∃ z, W.alloc (.cells #[.slice none 0 0, .slice none 0 0] 32) = z := ⟨_, rfl⟩
  have b1 : Below W.heap.size W w1 := by rw [← hw1]; exact (Below.refl _ _).alloc (Nat.le_refl _) _
  have r1 : w1.heap[k]? = some (.cells #[.slice none 0 0, .slice none 0 0] 32 (0, 0)) := by rw [← hw1, ← hk]; exact heap_alloc_new _ _
  have hok1 := hok.keep (Keeps.of_below b1)
  have h1 := (b1.block b (heap_lt h)).trans h
  have KV := Lib.hid (valClone x w1.drew (hok1.keep (Keeps.of_below (Below.refl _ _).drew)))
  obtain ⟨A3, c3, e3, -, -, -, -⟩ := hok.m.rows
  obtain ⟨A4, c4, e4, -, -, -, -⟩ := hok.t.rows
  obtain ⟨xm, X, xt, L⟩ := x
  dsimp only at e3 e4
  subst e3 e4
  have B1d : Hid (Below k W w1.drew) := Lib.hid (hk ▸ b1.drew)
  dsimp only [Vl.cs] at KV
  obtain ⟨nx, hnx⟩ : ∃ z, X.length = z := ⟨_, rfl⟩
  obtain ⟨nl, hnl⟩ : ∃ z, L.length = z := ⟨_, rfl⟩
  have hrow : w1.drew.heap[b]? = some (.cells #[.bool d.made, .int .u64 d.pr, .int .u64 d.bal, .slice A3 nx c3, .slice A4 nl c4, .bool d.has] 67 (0, 0)) := by rw [← hnx, ← hnl]; exact h1
  rw [hnx, hnl] at KV
  have HRW := Lib.hid hrow
  have R1d : Hid (w1.drew.heap[k]? = some (.cells #[.slice none 0 0, .slice none 0 0] 32 (0, 0))) := Lib.hid r1
  have HW1 := Lib.hid hw1
  have HK := Lib.hid hk
  have HDD := Lib.hid hd
  clear h hok hok1 h1 b1 r1 hw1 hk hrow hnx hnl hd
  go_enter Try.func11, Try.ntmps11
  go_wp2_with (first
    | (rw [HW1.out, HK.out])
    | fail)
  refine region_heldT (S := fun u => u.heap[b]? = some (.cells #[.bool d.made, .int .u64 d.pr, .int .u64 d.bal, .slice A3 nx c3, .slice A4 nl c4, .bool d.has] 67 (0, 0))) 18 (by kernel_rfl) (by decide) (fun inv => ?_)
  have HS := HRW.out
  change FirstH _ _ _ _ _ _ _ _ _ _ w1.drew
  generalize w1.drew = wd at *
  refine FirstH.go (i := 0) (v := .pointer (some ⟨b, 0, none⟩)) rfl rfl 8 rfl (Op.move (.tmp 0)) rfl (by kernel_rfl) (fun _ _ _ h => h) inv (fun W hS => by unfold bareO; go_simp) HS (fun inv => ?_)
  try simp only [Act.put, List.setIfInBounds_toArray, List.set_cons_zero, List.set_cons_succ]
  refine FirstH.go (i := 1) (v := .pointer (some ⟨b, 0, none⟩)) rfl rfl 9 rfl (Op.nilCheck (.tmp 8)) rfl (by kernel_rfl) (fun _ _ _ h => h) inv (fun W hS => by unfold bareO; go_simp) HS (fun inv => ?_)
  try simp only [Act.put, List.setIfInBounds_toArray, List.set_cons_zero, List.set_cons_succ]
  refine FirstH.go (i := 2) (v := .pointer (some ⟨b, 2, none⟩)) rfl rfl 10 rfl (Op.fieldAddr 67 (.tmp 9) 2) rfl (by kernel_rfl) (fun _ _ _ h => h) inv (fun W hS => by unfold bareO; go_simp) HS (fun inv => ?_)
  try simp only [Act.put, List.setIfInBounds_toArray, List.set_cons_zero, List.set_cons_succ]
  refine FirstH.go (i := 3) (v := .pointer (some ⟨b, 2, none⟩)) rfl rfl 11 rfl (Op.fieldAddr 65 (.tmp 10) 0) rfl (by kernel_rfl) (fun _ _ _ h => h) inv (fun W hS => by unfold bareO; go_simp) HS (fun inv => ?_)
  try simp only [Act.put, List.setIfInBounds_toArray, List.set_cons_zero, List.set_cons_succ]
  refine FirstH.go (i := 4) (v := .int .u64 d.bal) rfl rfl 12 rfl (Op.load 45 (.tmp 11)) rfl (by kernel_rfl) (fun _ _ _ h => h) inv (fun W hS => by have c2 := cell_of hS 2 (.int .u64 d.bal) rfl; have q3 := cell_of hS 3 (.slice A3 nx c3) rfl; have q4 := cell_of hS 4 (.slice A4 nl c4) rfl; have q5 := cell_of hS 5 (.bool d.has) rfl; unfold bareO; go_simp) HS (fun inv => ?_)
  try simp only [Act.put, List.setIfInBounds_toArray, List.set_cons_zero, List.set_cons_succ]
  refine FirstH.go (i := 5) (v := .pointer (some ⟨b, 0, none⟩)) rfl rfl 13 rfl (Op.move (.tmp 0)) rfl (by kernel_rfl) (fun _ _ _ h => h) inv (fun W hS => by unfold bareO; go_simp) HS (fun inv => ?_)
  try simp only [Act.put, List.setIfInBounds_toArray, List.set_cons_zero, List.set_cons_succ]
  refine FirstH.go (i := 6) (v := .pointer (some ⟨b, 0, none⟩)) rfl rfl 14 rfl (Op.nilCheck (.tmp 13)) rfl (by kernel_rfl) (fun _ _ _ h => h) inv (fun W hS => by unfold bareO; go_simp) HS (fun inv => ?_)
  try simp only [Act.put, List.setIfInBounds_toArray, List.set_cons_zero, List.set_cons_succ]
  refine FirstH.go (i := 7) (v := .pointer (some ⟨b, 2, none⟩)) rfl rfl 15 rfl (Op.fieldAddr 67 (.tmp 14) 2) rfl (by kernel_rfl) (fun _ _ _ h => h) inv (fun W hS => by unfold bareO; go_simp) HS (fun inv => ?_)
  try simp only [Act.put, List.setIfInBounds_toArray, List.set_cons_zero, List.set_cons_succ]
  refine FirstH.go (i := 8) (v := .pointer (some ⟨b, 3, none⟩)) rfl rfl 16 rfl (Op.fieldAddr 65 (.tmp 15) 1) rfl (by kernel_rfl) (fun _ _ _ h => h) inv (fun W hS => by unfold bareO; go_simp) HS (fun inv => ?_)
  try simp only [Act.put, List.setIfInBounds_toArray, List.set_cons_zero, List.set_cons_succ]
  refine FirstH.go (i := 9) (v := .agg #[.slice A3 nx c3, .slice A4 nl c4]) rfl rfl 17 rfl (Op.load 32 (.tmp 16)) rfl (by kernel_rfl) (fun _ _ _ h => h) inv (fun W hS => by have c2 := cell_of hS 2 (.int .u64 d.bal) rfl; have q3 := cell_of hS 3 (.slice A3 nx c3) rfl; have q4 := cell_of hS 4 (.slice A4 nl c4) rfl; have q5 := cell_of hS 5 (.bool d.has) rfl; unfold bareO; go_simp) HS (fun inv => ?_)
  try simp only [Act.put, List.setIfInBounds_toArray, List.set_cons_zero, List.set_cons_succ]
  refine FirstH.go (i := 11) (v := .pointer (some ⟨b, 0, none⟩)) rfl rfl 19 rfl (Op.move (.tmp 0)) rfl (by kernel_rfl) (fun _ _ _ h => h) inv (fun W hS => by unfold bareO; go_simp) HS (fun inv => ?_)
  try simp only [Act.put, List.setIfInBounds_toArray, List.set_cons_zero, List.set_cons_succ]
  refine FirstH.go (i := 12) (v := .pointer (some ⟨b, 0, none⟩)) rfl rfl 20 rfl (Op.nilCheck (.tmp 19)) rfl (by kernel_rfl) (fun _ _ _ h => h) inv (fun W hS => by unfold bareO; go_simp) HS (fun inv => ?_)
  try simp only [Act.put, List.setIfInBounds_toArray, List.set_cons_zero, List.set_cons_succ]
  refine FirstH.go (i := 13) (v := .pointer (some ⟨b, 2, none⟩)) rfl rfl 21 rfl (Op.fieldAddr 67 (.tmp 20) 2) rfl (by kernel_rfl) (fun _ _ _ h => h) inv (fun W hS => by unfold bareO; go_simp) HS (fun inv => ?_)
  try simp only [Act.put, List.setIfInBounds_toArray, List.set_cons_zero, List.set_cons_succ]
  refine FirstH.go (i := 14) (v := .pointer (some ⟨b, 5, none⟩)) rfl rfl 22 rfl (Op.fieldAddr 65 (.tmp 21) 2) rfl (by kernel_rfl) (fun _ _ _ h => h) inv (fun W hS => by unfold bareO; go_simp) HS (fun inv => ?_)
  try simp only [Act.put, List.setIfInBounds_toArray, List.set_cons_zero, List.set_cons_succ]
  refine FirstH.go (i := 15) (v := .bool d.has) rfl rfl 23 rfl (Op.load 4 (.tmp 22)) rfl (by kernel_rfl) (fun _ _ _ h => h) inv (fun W hS => by have c2 := cell_of hS 2 (.int .u64 d.bal) rfl; have q3 := cell_of hS 3 (.slice A3 nx c3) rfl; have q4 := cell_of hS 4 (.slice A4 nl c4) rfl; have q5 := cell_of hS 5 (.bool d.has) rfl; unfold bareO; go_simp) HS (fun inv => ?_)
  try simp only [Act.put, List.setIfInBounds_toArray, List.set_cons_zero, List.set_cons_succ]
  refine FirstH.only (i := 10) (by kernel_rfl) (by decide) inv (fun inv => wpOp_call (i := 10) rfl rfl 18 rfl (Op.call { callee := .value (.func 25), args := #[.tmp 17], argTypes := #[32] }) rfl 25 #[.agg #[.slice A3 nx c3, .slice A4 nl c4]] (by unfold bareO; go_simp) (KV.out) ?_)
  rintro e u9 ⟨⟨m9, X9, t9, L9⟩, rfl, ok9, d9, b9⟩
  have HS9 := (b9.block b (heap_lt HS)).trans HS
  have r9 := (b9.block k (heap_lt R1d.out)).trans R1d.out
  obtain ⟨A9, c9, e9, -, -, -, -⟩ := ok9.m.rows
  obtain ⟨A10, c10, e10, -, -, -, -⟩ := ok9.t.rows
  dsimp only at e9 e10
  subst e9 e10
  dsimp only [Vl.cs]
  obtain ⟨n9, hn9⟩ : ∃ z, X9.length = z := ⟨_, rfl⟩
  obtain ⟨n10, hn10⟩ : ∃ z, L9.length = z := ⟨_, rfl⟩
  simp only [hn9, hn10] at ok9 d9 ⊢
  obtain ⟨u10, hu10⟩ : ∃ z, u9.setCells k 0 [.slice A9 n9 c9, .slice A10 n10 c10] = z := ⟨_, rfl⟩
  have kp10 : KP (fun j => j = k) u9 u10 := by rw [← hu10]; exact KP.setCells (S := fun j => j = k) rfl _ _ _
  have ks10 : Keeps u9 u10 := Keeps.of_KP kp10 fun g cur t hg ht => apart_of hg r9 (by
    intro e
    rw [e] at ht
    revert ht
    simp [Ty])
  have B9 := B1d.out.trans (b9.mono (HK.out ▸ B1d.out.size))
  have B10 := Lib.hid (B9.trans (kp10.below (HK.out ▸ B9.size) fun j hj => by rw [hj]; exact Nat.le_refl _))
  have OK10 := Lib.hid (ok9.keep ks10)
  have HD9 := Lib.hid (d9.trans HDD.out)
  have T9 := there_row (o := 0) (n := 2) r9 (by show 0 + 2 ≤ 2; omega)
  have R10 : Hid (u10.heap[k]? = some (.cells #[.slice A9 n9 c9, .slice A10 n10 c10] 32 (0, 0))) := Lib.hid (by rw [← hu10]; exact row_set (row_set r9 _) _)
  have HS10 : u10.heap[b]? = some (.cells #[.bool d.made, .int .u64 d.pr, .int .u64 d.bal, .slice A3 nx c3, .slice A4 nl c4, .bool d.has] 67 (0, 0)) := (kp10.block b (heap_lt HS9) (apart_of HS9 r9 (by decide))).trans HS9
  have HU10 := Lib.hid hu10
  clear hn9 hn10
  refine ⟨_, rfl, HS9, ?_⟩
  try simp only [Act.put, List.setIfInBounds_toArray, List.set_cons_zero, List.set_cons_succ]
  refine FirstH.go (i := 16) (v := .int .u64 d.bal) rfl rfl 2 rfl (Op.assign (.tmp 12)) rfl (by kernel_rfl) (fun _ _ _ h => h) inv (fun W hS => by unfold bareO; go_simp) HS9 (fun inv => ?_)
  try simp only [Act.put, List.setIfInBounds_toArray, List.set_cons_zero, List.set_cons_succ]
  refine FirstH.only (i := 17) (by kernel_rfl) (by decide) inv (fun inv => wpOp_st (w' := u9.setCells k 0 [.slice A9 n9 c9, .slice A10 n10 c10]) (i := 17) rfl rfl rfl (Op.store 32 (.tmp 3) (.tmp 18)) rfl (run_store_midO 32 _ _ _ k 0 #[.slice A9 n9 c9, .slice A10 n10 c10] rfl rfl T9 (by kernel_rfl) (by simp [Value.oneCell'])) ?_)
  rw [HU10.out]
  refine ⟨HS10, ?_⟩
  try simp only [Act.put, List.setIfInBounds_toArray, List.set_cons_zero, List.set_cons_succ]
  clear HS HS9 HS10 r9 kp10 ks10 B9 ok9 d9 b9 hu10 T9
  refine ⟨by kernel_rfl, ?_⟩
  simp only [List.drop_succ_cons, List.drop_zero]
  go_wp2
  refine bodyPost_ret (v := .tuple #[.int .u64 d.bal, .agg #[.slice A9 n9 c9, .slice A10 n10 c10], .bool d.has]) (by
    have c0 := cell_of R10.out 0 (.slice A9 n9 c9) rfl
    have c1 := cell_of R10.out 1 (.slice A10 n10 c10) rfl
    simp [results, Try.results11, go_sem]
    try go_simp) rfl ⟨⟨.slice A9 n9 c9, X9, .slice A10 n10 c10, L9⟩, rfl, OK10.out, HD9.out, by rw [HK.out]; exact B10.out⟩
set_option maxRecDepth 100000 in
set_option maxHeartbeats 2000000 in
theorem accA (W : World) (b : Nat) (d : Ad) (h : AP W b d) (n : Int) (y : Vl) (hy : y.Ok W) : Calls Try.prog 23 #[.pointer (some ⟨b, 0, none⟩), .int .u64 n, .agg y.cs] W fun e W' => e = .returned (.bool (d.may n)) ∧ AP W' b (d.acc n y.d) ∧ KP (fun j => j = b) W W' := by
  obtain ⟨k, hk⟩ : ∃ k, W.heap.size = k := ⟨_, rfl⟩
  have hkb : b < k := by rw [← hk]; exact h.lt
  obtain ⟨w1, hw1⟩ : ∃ z, W.alloc (.cells y.cs 32) = z := ⟨_, rfl⟩
  have b1 : Below W.heap.size W w1 := by rw [← hw1]; exact (Below.refl _ _).alloc (Nat.le_refl _) _
  have r1 : w1.heap[k]? = some (.cells y.cs 32 (0, 0)) := by rw [← hw1, ← hk]; exact heap_alloc_new _ _
  have KPp := Lib.hid (prepA w1 b d (h.below b1) n)
  have HKP : Hid (KP (fun j => j = b) W w1) := Lib.hid (KP.of_below b1)
  have HA := Lib.hid (h.below b1)
  have HY := Lib.hid (hy.keep (Keeps.of_below b1))
  have R1 := Lib.hid r1
  have HW1 := Lib.hid hw1
  have HK := Lib.hid hk
  obtain ⟨mb, hmb⟩ : ∃ z, d.may n = z := ⟨_, rfl⟩
  rw [hmb] at KPp
  have HMB := Lib.hid hmb
  clear h hy b1 r1 hw1 hk hmb
  cases mb with
  | false =>
    go_enter Try.func23, Try.ntmps23
    go_wp2_with (first
      | (rw [HW1.out, HK.out])
      | (go_at_call 21; refine KPp.out.mono ?_; rintro e u ⟨rfl, ha, hk2⟩
         have HA2 := Lib.hid ha
         have HK2 := Lib.hid (HKP.out.trans hk2 fun _ _ h => h)
         clear ha hk2))
    go_ret
    exact ⟨ret_bool HMB.out.symm, by rw [Ad.acc_no HMB.out, ← Ad.prep_no HMB.out]; exact HA2.out, HK2.out⟩
  | true =>
    go_enter Try.func23, Try.ntmps23
    go_wp2_with (first
      | (rw [HW1.out, HK.out])
      | (go_at_call 21; refine KPp.out.mono ?_; rintro e u ⟨rfl, ha, hk2⟩
         have HA2 := Lib.hid ha
         have R2 := Lib.hid ((hk2.block k (heap_lt R1.out) (by omega)).trans R1.out)
         have HK2 := Lib.hid (HKP.out.trans hk2 fun _ _ h => h)
         have KV := Lib.hid (valClone y u (HY.out.keep (HA.out.keeps hk2)))
         clear ha hk2)
      | (have R2x := R2.out
         refine wpList_load_row rfl 32 (.tmp 5) rfl k (by rfl) 32 y.cs (0, 0) _ R2x Try.underlying32 rfl (by kernel_rfl) ?_)
      | (go_at_call 25
         have KVx := KV.out
         refine KVx.mono ?_
         rintro e u5 ⟨⟨m5, X5, t5, L5⟩, rfl, ok5, d5, b5⟩
         obtain ⟨x3, h3, ok3, d3⟩ := HA2.out
         have h5 := (b5.block b (heap_lt h3)).trans h3
         have th5 : u5.there b 2 4 := there_row h5 (by show 2 + 4 ≤ 6; omega)
         obtain ⟨A5, c5, e5, -, -, -, -⟩ := ok5.m.rows
         obtain ⟨A6, c6, e6, -, -, -, -⟩ := ok5.t.rows
         dsimp only at e5 e6
         subst e5 e6
         dsimp only [Vl.cs]
         obtain ⟨n5, hn5⟩ : ∃ z, X5.length = z := ⟨_, rfl⟩
         obtain ⟨n6, hn6⟩ : ∃ z, L5.length = z := ⟨_, rfl⟩
         simp only [hn5, hn6] at ok5 d5 ⊢
         obtain ⟨u6, hu6⟩ : ∃ z, u5.setCells b 2 [.int .u64 n, .slice A5 n5 c5, .slice A6 n6 c6, .bool true] = z := ⟨_, rfl⟩
         have kp6 : KP (fun j => j = b) u5 u6 := by rw [← hu6]; exact KP.setCells (S := fun j => j = b) rfl _ _ _
         have hap5 : AP u5 b (d.prep n) := ⟨x3, h5, ok3.keep (Keeps.of_below b5), d3⟩
         have HKU6 := Lib.hid (HK2.out.trans ((KP.of_below (S := fun j => j = b) b5).trans kp6 fun _ _ h => h) fun _ _ h => h)
         have HA6 : Hid (AP u6 b (d.acc n y.d)) := Lib.hid (by
           rw [Ad.prep_yes HMB.out] at h5
           rw [Ad.acc_yes HMB.out, ← d5]
           exact ⟨⟨.slice A5 n5 c5, X5, .slice A6 n6 c6, L5⟩, by rw [← hu6]; exact row_set (row_set (row_set (row_set h5 _) _) _) _, ok5.keep (hap5.keeps kp6), rfl⟩)
         have T6 := Lib.hid th5
         have HU6 := Lib.hid hu6
         clear hap5 kp6 hu6 th5 ok5 d5 b5 hn5 hn6 h5 h3 ok3 d3)
      | (have T6x := T6.out
         refine wpList_store_mid rfl 65 (.tmp 17) (.tmp 15) rfl b 2 #[.int .u64 n, .slice A5 n5 c5, .slice A6 n6 c6, .bool true] (by rfl) (by rfl) T6x (by kernel_rfl) (by simp [Value.oneCell']) ?_
         rw [HU6.out])
      | fail)
    go_ret
    exact ⟨ret_bool HMB.out.symm, HA6.out, HKU6.out⟩
theorem accNil (n : Int) (y : Vl) (W : World) : Calls Try.prog 23 #[.pointer none, .int .u64 n, .agg y.cs] W fun e W' => e = .returned (.bool false) ∧ Below W.heap.size W W' := by
  obtain ⟨w1, hw1⟩ : ∃ z, W.alloc (.cells y.cs 32) = z := ⟨_, rfl⟩
  have B1 : Hid (Below W.heap.size W w1) := Lib.hid (by rw [← hw1]; exact (Below.refl _ _).alloc (Nat.le_refl _) _)
  have KPp := Lib.hid (prepNil n w1)
  have HW1 := Lib.hid hw1
  clear hw1
  go_enter Try.func23, Try.ntmps23
  go_wp2_with (first
    | (rw [HW1.out])
    | (go_at_call 21; refine KPp.out.mono ?_; rintro e u ⟨rfl, rfl⟩))
  go_ret
  exact ⟨rfl, B1.out⟩

end Go.Proofs.Ytfkmodmgihadkaa
