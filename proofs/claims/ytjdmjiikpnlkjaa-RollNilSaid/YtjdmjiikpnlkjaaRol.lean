/-
  A process, a kill and a view of the law: contracts. No condition.
-/
import Derived.Test.YtjdmjiikpnlkjaaRoj
import Derived.Test.YtjdmjiikpnlkjaaGsm
import Derived.Deep.MidRow
import Derived.LoopN
namespace Go.Proofs.Ytjdmjiikpnlkjaa
section
set_option linter.unusedSimpArgs false
set_option linter.unusedVariables false
open Go.RowKit Go.Maps Go.Sort
open V (P2)

theorem wpList_load_rowG {P : Program} {ops : Array Oper} {rest : List Oper} {o : Oper} {a : Act} {w : World} {Q : Exit → Act → World → Prop} (ty : TypeId) (x : Operand) (ho : o.op = .load ty x) (hw : Region.wanted o (yielded ops a.tmps) = true)
    (g : Nat) (hx : a.eval x = .pointer (some ⟨g, 0, none⟩)) (t : TypeId) (cs : Array Value) (fr : Nat × Nat) (d : TypeDesc) (hg : w.heap[g]? = some (.cells cs t fr))
    (hu : P.underlying ty = some d) (hd : (match d with | .struct _ | .array _ _ => true | _ => false) = true) (hi : (P.info? ty).map (·.size) = some cs.size)
    (h : wpList P ops Q rest (a.put o.dst (.agg cs)) w) : wpList P ops Q (o :: rest) a w :=
  wpList_step fun K hK => by
    rw [if_pos hw]
    exact wp_load_row ty x ho g hx t cs fr d hg hu hd hi (hK _ _ h)
theorem wpList_buildG {P : Program} {ops : Array Oper} {rest : List Oper} {o : Oper} {a : Act} {w : World} {Q : Exit → Act → World → Prop} (t : TypeId) (parts : Array (Nat × Operand)) (ho : o.op = .build t parts) (hw : Region.wanted o (yielded ops a.tmps) = true) (cs : Array Value)
    (hf : P.built t (parts.map fun (i, x) => (i, a.eval x)).toList = some cs)
    (h : wpList P ops Q rest (a.put o.dst (.agg cs)) w) : wpList P ops Q (o :: rest) a w :=
  wpList_step fun K hK => by
    rw [if_pos hw]
    refine wp_build t parts ho (by rw [hf]; rfl) ?_
    rw [hf]
    exact hK _ _ h
def pr (n : Nat) : P2 := ⟨n, 1⟩
theorem pr_rg {n : Nat} (h : n ≤ 15) : Rg2 (pr n) := ⟨⟨by show (0:Int) ≤ n; omega, by show (n:Int) ≤ 255; omega⟩, by show (0:Int) ≤ 1; omega, by show (1:Int) ≤ 65535; omega⟩
theorem pr_r {n : Nat} (h : n ≤ 15) : (pr n).r = true := by
  have : decide ((n : Int) < 16) = true := decide_eq_true (by omega)
  simp [pr, V.P2.r]
  first | exact this | (exact decide_eq_true (by omega)) | omega
/-- a kill. -/
def killE (n : Nat) : Le := ⟨{ k := 2, n := 0, l := 0, s := 0, d := 0, a0 := 0, a1 := 0, b0 := 0, b1 := 0, c0 := 0, c1 := 0, fl := 0, rc := 0, rv := ByteArray.empty, vn := n, vl := 1 }, none, [], 0, none, [], 0⟩
def killV (n : Nat) : EV := (killE n).v
theorem killE_ok (n : Nat) (W : World) : LeO (killE n) W := ⟨RowO.nil W _ _, RowO.nil W _ _, by simp [killE], by simp [killE]⟩
set_option maxRecDepth 100000 in
set_option maxHeartbeats 2000000 in
theorem procC (n : Nat) (hn : n ≤ 15) (w : World) : Calls Try.prog 16 #[.int .i64 n] w fun e w' => e = .returned (.agg #[.int .u8 (pr n).n, .int .u16 (pr n).l]) ∧ Below w.heap.size w w' := by
  have hw : IntKind.u8.wrap (n : Int) = n := by
    unfold IntKind.wrap
    simp [IntKind.signed, IntKind.bits]
    omega
  go_enter Try.func16, Try.ntmps16
  go_wp2
  refine bodyPost_ret (v := .agg #[.int .u8 (pr n).n, .int .u16 (pr n).l]) (by
    simp [results, Try.results16, go_sem, pr]
    try go_simp) rfl ⟨rfl, ?_⟩
  exact (by repeat (first | (with_reducible exact Below.refl _ _) | (with_reducible refine Below.setCell ?_ (by first | omega | (simp; done) | (simp; omega)) _) | (with_reducible refine Below.drew ?_) | (with_reducible refine Below.alloc ?_ (by first | omega | (simp; done) | (simp; omega)) _)))
set_option maxRecDepth 100000 in
set_option maxHeartbeats 2000000 in
theorem killC (n : Nat) (hn : n ≤ 15) (w : World) : Calls Try.prog 18 #[.int .i64 n] w fun e w' => e = .returned (.agg (killE n).cs) ∧ Below w.heap.size w w' := by
  have KP0 := Lib.hid (fun u => procC n hn u)
  obtain ⟨k, hk⟩ : ∃ k, w.heap.size = k := ⟨_, rfl⟩
  obtain ⟨w1, hw1⟩ : ∃ z, w.alloc (.cells #[.int .u8 0, .int .u8 0, .int .u16 0, .int .u32 0, .int .u8 0, .int .u8 0, .int .u8 0, .int .u8 0, .int .u8 0, .int .u8 0, .int .u8 0, .int .u32 0, .slice none 0 0, .int .u8 0, .string ByteArray.empty, .slice none 0 0, .int .u8 0, .int .u16 0] 63) = z := ⟨_, rfl⟩
  have b1 : Below w.heap.size w w1 := by rw [← hw1]; exact (Below.refl _ _).alloc (Nat.le_refl _) _
  have r1 : w1.heap[k]? = some (.cells #[.int .u8 0, .int .u8 0, .int .u16 0, .int .u32 0, .int .u8 0, .int .u8 0, .int .u8 0, .int .u8 0, .int .u8 0, .int .u8 0, .int .u8 0, .int .u32 0, .slice none 0 0, .int .u8 0, .string ByteArray.empty, .slice none 0 0, .int .u8 0, .int .u16 0] 63 (0, 0)) := by rw [← hw1, ← hk]; exact heap_alloc_new _ _
  have B1 := Lib.hid b1
  have R1 := Lib.hid r1
  have HW1 := Lib.hid hw1
  have HW1' := Lib.hid (show w.alloc (.cells #[.int .u8 0, .int .u8 0, .int .u16 0, .int .u32 0, .int .u8 0, .int .u8 0, .int .u8 0, .int .u8 0, .int .u8 0, .int .u8 0, .int .u8 0, .int .u32 0, .slice none 0 0, .int .u8 0, .string ⟨#[]⟩, .slice none 0 0, .int .u8 0, .int .u16 0] 63) = w1 from hw1)
  have HK := Lib.hid hk
  clear hw1 b1 r1 hk
  go_enter Try.func18, Try.ntmps18
  go_wp2_with (first
    | (rw [HW1.out, HK.out])
    | (rw [HW1'.out, HK.out])
    | fail)
  refine (KP0.out w1).mono ?_
  rintro e w2 ⟨rfl, b2⟩
  have R2 := Lib.hid ((b2.block k (heap_lt R1.out)).trans R1.out)
  have B2 := Lib.hid (B1.out.trans (b2.mono B1.out.size))
  clear b2
  obtain ⟨w3, hw3⟩ : ∃ z, w2.setRow k (killE n).cs = z := ⟨_, rfl⟩
  have R3 : Hid (w3.heap[k]? = some (.cells (killE n).cs 63 (0, 0))) := Lib.hid (by rw [← hw3]; exact setRow_heapG _ _ _ _ _ _ R2.out)
  have B3 : Hid (Below w.heap.size w w3) := Lib.hid (B2.out.trans (by rw [← hw3, HK.out]; exact (KP.setRow (S := fun j => j = k) w2 k _ rfl).below (Nat.le_of_lt (heap_lt R2.out)) fun j hj => Nat.le_of_eq hj.symm))
  have HW3 := Lib.hid hw3
  clear hw3
  go_wp2_with (first
    | (refine wpList_bd rfl 63 _ rfl (killE n).cs (by kernel_rfl) ?_)
    | (refine wpList_store_row rfl 63 (.tmp 2) (.tmp 5) rfl k (killE n).cs (by rfl) (by rfl) 63 _ R2.out (by kernel_rfl) rfl (Le.oneB (killE n)) ?_; rw [HW3.out])
    | fail)
  exact bodyPost_ret (v := .agg (killE n).cs) (results_cell_row (p := 2) (ty := 63) rfl _ _ k 63 (killE n).cs (0, 0) _ (by rfl) R3.out Try.underlying63 rfl (by kernel_rfl)) rfl ⟨rfl, B3.out⟩
set_option maxRecDepth 100000 in
set_option maxHeartbeats 2000000 in
theorem rightK (n : Nat) (hn : n ≤ 15) (g : Int) (w : World) : Calls Try.prog 39 #[.agg (killE n).cs, .int .u8 g] w fun e w' => e = .returned (.bool true) ∧ Below w.heap.size w w' := by
  have KRI : Hid (∀ u, Calls Try.prog 47 #[.agg #[.int .u8 (pr n).n, .int .u16 (pr n).l]] u fun e w' => e = .returned (.bool true) ∧ Below u.heap.size u w') := Lib.hid fun u => (V.opRight (pr n) u).mono fun e w' h => ⟨by rw [h.1, pr_r hn], by rw [← h.2]; exact (Below.refl _ _).alloc (Nat.le_refl _) _⟩
  have KSM : Hid (∀ u, Calls Try.prog 46 #[.agg (killE n).cs, .agg (killE n).cs] u fun e w' => e = .returned (.bool true) ∧ Below u.heap.size u w') := Lib.hid fun u => sameLL (killE n) (killE n) u (killE_ok n u).at_ (killE_ok n u).at_ rfl
  obtain ⟨k0, hk0⟩ : ∃ k, w.heap.size = k := ⟨_, rfl⟩
  obtain ⟨w1, hw1⟩ : ∃ z, w.alloc (.cells (killE n).cs 63) = z := ⟨_, rfl⟩
  have b1 : Below w.heap.size w w1 := by rw [← hw1]; exact (Below.refl _ _).alloc (Nat.le_refl _) _
  have r1 : w1.heap[k0]? = some (.cells (killE n).cs 63 (0, 0)) := by rw [← hw1, ← hk0]; exact heap_alloc_new _ _
  have B1 := Lib.hid b1
  have R1 := Lib.hid r1
  have HW1 := Lib.hid hw1
  have HK := Lib.hid hk0
  have c0 := cell_of r1 0 (.int .u8 2) rfl
  have c16 := cell_of r1 16 (.int .u8 n) rfl
  have c17 := cell_of r1 17 (.int .u16 1) rfl
  clear hw1 b1 r1 hk0
  go_enter Try.func39, Try.ntmps39
  go_wp2_with (first
    | (rw [HW1.out, HK.out])
    | fail)
  refine (KRI.out w1).mono ?_
  rintro e w2 ⟨rfl, b2⟩
  have r2 := (b2.block k0 (heap_lt R1.out)).trans R1.out
  have B2 := Lib.hid (B1.out.trans (b2.mono B1.out.size))
  have R2 := Lib.hid r2
  clear c0 c16 c17 b2
  have c0 := cell_of r2 0 (.int .u8 2) rfl
  have c16 := cell_of r2 16 (.int .u8 n) rfl
  have c17 := cell_of r2 17 (.int .u16 1) rfl
  clear r2
  go_wp2_with (first
    | (refine wpList_load_rowG 63 (.tmp 2) rfl (by rfl) k0 (by rfl) 63 (killE n).cs (0, 0) _ R2.out Try.underlying63 rfl (by kernel_rfl) ?_)
    | (refine wpList_buildG 63 _ rfl (by rfl) (killE n).cs (by kernel_rfl) ?_)
    | fail)
  refine (KSM.out w2).mono ?_
  rintro e w3 ⟨rfl, b3⟩
  have B3 := Lib.hid (B2.out.trans (b3.mono B2.out.size))
  clear b3
  go_wp2_with fail
  go_ret
  exact ⟨rfl, B3.out⟩
end

section
set_option linter.unusedSimpArgs false
set_option linter.unusedVariables false
open Go.RowKit Go.Maps Go.Sort
open V (P2)

def mem (n : Nat) : List P2 := (List.range n).map pr
theorem mem_len (n : Nat) : (mem n).length = n := by simp [mem]
theorem mem_succ (n : Nat) : mem (n + 1) = mem n ++ [pr n] := by simp [mem, List.range_succ]
theorem mem_at {n i : Nat} (h : i < n) : (mem n)[i]? = some (pr i) := by simp [mem, h]
theorem pr_inj {i j : Nat} (h : pr i = pr j) : i = j := by
  simp [pr] at h
  omega
theorem mem_rg {n : Nat} (h : n ≤ 8) : ∀ p ∈ mem n, Rg2 p := by
  intro p hp
  simp [mem] at hp
  obtain ⟨i, hi, rfl⟩ := hp
  exact pr_rg (by omega)
theorem prpI : (Try.prog.info? 49).map (fun i => (i.zero, i.size, i.bytes)) = some (some (.agg #[.int .u8 0, .int .u16 0]), 2, 4) := by kernel_rfl
set_option maxRecDepth 100000 in
set_option maxHeartbeats 2000000 in
theorem viewC (n : Nat) (hn : n ≤ 8) (w : World) : Calls Try.prog 15 #[.int .i64 n] w fun e w' => ∃ A c, e = .returned (.agg #[.int .u8 0, .int .u32 1, .slice A n c]) ∧ V.RowsV w' w'.heap.size A (mem n) ∧ n ≤ c ∧ c ≤ maxLen ∧ Below w.heap.size w w' := by
  have KP0 := Lib.hid (fun i hi u => procC i hi u)
  obtain ⟨k, hk⟩ : ∃ k, w.heap.size = k := ⟨_, rfl⟩
  obtain ⟨w1, hw1⟩ : ∃ z, w.alloc (.cells #[.int .u8 0, .int .u32 0, .slice none 0 0] 45) = z := ⟨_, rfl⟩
  have b1 : Below k w w1 := by rw [← hw1, ← hk]; exact (Below.refl _ _).alloc (Nat.le_refl _) _
  have r1 : w1.heap[k]? = some (.cells #[.int .u8 0, .int .u32 0, .slice none 0 0] 45 (0, 0)) := by rw [← hw1, ← hk]; exact heap_alloc_new _ _
  have s1 : w1.heap.size = k + 1 := by rw [← hw1, ← hk]; simp
  obtain ⟨w2, hw2⟩ : ∃ z, w1.alloc (.cells #[.int .u8 0, .int .u32 1, .slice none 0 0] 45) = z := ⟨_, rfl⟩
  have b12 : Below w1.heap.size w1 w2 := by rw [← hw2]; exact (Below.refl _ _).alloc (Nat.le_refl _) _
  have r2 : w2.heap[k + 1]? = some (.cells #[.int .u8 0, .int .u32 1, .slice none 0 0] 45 (0, 0)) := by rw [← hw2, ← s1]; exact heap_alloc_new _ _
  have q2 : w2.heap[k]? = some (.cells #[.int .u8 0, .int .u32 0, .slice none 0 0] 45 (0, 0)) := (b12.block k (heap_lt r1)).trans r1
  have B2 := Lib.hid (b1.trans (b12.mono (by omega)))
  have R2 := Lib.hid r2
  have Q2 := Lib.hid q2
  have HW1 := Lib.hid hw1
  have HW2 := Lib.hid hw2
  have HK := Lib.hid hk
  have HS1 := Lib.hid s1
  have HN := Lib.hid hn
  obtain ⟨i0, hi0, hz0, hz1, hz2⟩ := info_parts prpI
  clear hw1 hw2 b1 r1 s1 b12 r2 q2 hk
  go_enter Try.func15, Try.ntmps15
  go_wp2_with (first
    | (rw [HW1.out, HK.out])
    | (rw [HW2.out, HS1.out])
    | fail)
  go_loopw [4] (fun i wx => ∃ (j : Nat) (v : Value), i = .int .i64 j ∧ j ≤ n ∧ Hid (wx.heap[k + 1]? = some (.cells #[.int .u8 0, .int .u32 1, v] 45 (0, 0)) ∧ wx.heap[k]? = some (.cells #[.int .u8 0, .int .u32 0, .slice none 0 0] 45 (0, 0))) ∧ Hid (wx.ownsRow k 49 2 v j (V.cellsV (mem j))) ∧ Hid (Below k w wx)) (fun i _ => n - (intOf i).toNat)
  case atStart => exact ⟨0, .slice none 0 0, rfl, Nat.zero_le _, Lib.hid ⟨R2.out, Q2.out⟩, Lib.hid ⟨rfl, .inl ⟨rfl, rfl⟩⟩, B2⟩
  case round =>
    obtain ⟨j, v, rfl, hj, R, O, BB⟩ := hrel
    obtain ⟨u, hu⟩ : ∃ z : World, z = wr := ⟨_, rfl⟩
    subst hu
    by_cases hjn : j < n
    · as_aux_lemma =>
      skip
      have hji : (j : Int) < (n : Int) := by omega
      have HJ := Lib.hid hjn
      have BBd : Hid (Below k w u.drew) := Lib.hid BB.out.drew
      have Rd : Hid (u.drew.heap[k + 1]? = some (.cells #[.int .u8 0, .int .u32 1, v] 45 (0, 0)) ∧ u.drew.heap[k]? = some (.cells #[.int .u8 0, .int .u32 0, .slice none 0 0] 45 (0, 0))) := Lib.hid R.out
      have Od : Hid (u.drew.ownsRow k 49 2 v j (V.cellsV (mem j))) := Lib.hid O.out
      go_wp2_with fail
      refine region_heldT (S := fun u => u.heap[k + 1]? = some (.cells #[.int .u8 0, .int .u32 1, v] 45 (0, 0)) ∧ u.heap[k]? = some (.cells #[.int .u8 0, .int .u32 0, .slice none 0 0] 45 (0, 0))) 6 (by kernel_rfl) (by decide) (fun inv => ?_)
      have HS := Rd.out
      change FirstH _ _ _ _ _ _ _ _ _ _ u.drew
      generalize u.drew = wd at *
      refine FirstH.go (i := 0) (v := .pointer (some ⟨k + 1, 2, none⟩)) rfl rfl 11 rfl (Op.fieldAddr 45 (Operand.tmp 3) 2) rfl (by kernel_rfl) (fun _ _ _ h => h) inv (fun W hS => by unfold bareO; go_simp) HS (fun inv => ?_)
      try simp only [Act.put, List.setIfInBounds_toArray, List.set_cons_zero, List.set_cons_succ]
      refine FirstH.go (i := 1) (v := v) rfl rfl 12 rfl (Op.load 43 (Operand.tmp 11)) rfl (by kernel_rfl) (fun _ _ _ h => h) inv (fun W hS => by have k2 := cell_of hS.1 2 v rfl; unfold bareO; go_simp) HS (fun inv => ?_)
      try simp only [Act.put, List.setIfInBounds_toArray, List.set_cons_zero, List.set_cons_succ]
      refine FirstH.go (i := 2) (v := .int .i64 j) rfl rfl 13 rfl (Op.move (Operand.tmp 4)) rfl (by kernel_rfl) (fun _ _ _ h => h) inv (fun W hS => by unfold bareO; go_simp) HS (fun inv => ?_)
      try simp only [Act.put, List.setIfInBounds_toArray, List.set_cons_zero, List.set_cons_succ]
      refine FirstH.only (i := 3) (by kernel_rfl) (by decide) inv (fun inv => wpOp_call (i := 3) rfl rfl 14 rfl (Op.call { callee := Callee.value (.func 16), args := #[Operand.tmp 13], argTypes := #[3] }) rfl 16 #[.int .i64 j] (by unfold bareO; go_simp) (KP0.out j (by have := HJ.out; have := HN.out; omega) wd) ?_)
      rintro e w5 ⟨rfl, b5⟩
      have HS5 : w5.heap[k + 1]? = some (.cells #[.int .u8 0, .int .u32 1, v] 45 (0, 0)) ∧ w5.heap[k]? = some (.cells #[.int .u8 0, .int .u32 0, .slice none 0 0] 45 (0, 0)) := ⟨(b5.block (k + 1) (heap_lt HS.1)).trans HS.1, (b5.block k (heap_lt HS.2)).trans HS.2⟩
      have hkd : k ≤ wd.heap.size := Nat.le_of_lt (heap_lt HS.2)
      have B5 := Lib.hid (BBd.out.trans (b5.mono hkd))
      have O5 := Lib.hid (own_belowR Od.out b5)
      clear b5 HS
      refine ⟨_, rfl, HS5, ?_⟩
      try simp only [Act.put, List.setIfInBounds_toArray, List.set_cons_zero, List.set_cons_succ]
      obtain ⟨ka, hka⟩ : ∃ z, w5.heap.size = z := ⟨_, rfl⟩
      obtain ⟨w6, hw6⟩ : ∃ z, w5.alloc (.cells #[.int .u8 (pr j).n, .int .u16 (pr j).l] 49) = z := ⟨_, rfl⟩
      have b6 : Below w5.heap.size w5 w6 := by rw [← hw6]; exact (Below.refl _ _).alloc (Nat.le_refl _) _
      have r6 : w6.heap[ka]? = some (.cells #[.int .u8 (pr j).n, .int .u16 (pr j).l] 49 (0, 0)) := by rw [← hw6, ← hka]; exact heap_alloc_new _ _
      have HS6 : w6.heap[k + 1]? = some (.cells #[.int .u8 0, .int .u32 1, v] 45 (0, 0)) ∧ w6.heap[k]? = some (.cells #[.int .u8 0, .int .u32 0, .slice none 0 0] 45 (0, 0)) := ⟨(b6.block (k + 1) (heap_lt HS5.1)).trans HS5.1, (b6.block k (heap_lt HS5.2)).trans HS5.2⟩
      refine FirstH.only (i := 4) (by kernel_rfl) (by decide) inv (fun inv => wpOp_vl (i := 4) (v := .slice (some ⟨ka, 0, none⟩) 1 1) (w' := w6) rfl rfl 15 rfl _ rfl (by rw [← hw6, ← hka]; unfold bareO; go_simp) ?_)
      refine ⟨HS6, ?_⟩
      try simp only [Act.put, List.setIfInBounds_toArray, List.set_cons_zero, List.set_cons_succ]
      have B6 := Lib.hid (B5.out.trans (b6.mono (Nat.le_of_lt (heap_lt HS5.2))))
      have O6 := Lib.hid (own_belowR O5.out b6)
      have R6 := Lib.hid r6
      clear hw6 b6 r6 HS5
      refine FirstH.only (i := 5) (by kernel_rfl) (by decide) inv (fun inv => wpOp_any rfl rfl (wp_append_own w6 (.tmp 12) (.tmp 15) 43 rfl k 49 i0 _ 2 4 Try.underlying43 hi0 hz0 hz1 hz2 rfl (by decide) v j _ rfl O6.out ⟨ka, 0, none⟩ 1 1 (V.cellsV [pr j]) rfl rfl (fun q x hx => by rw [addr_add, Nat.zero_add, cell_of_row _ _ q _ _ _ R6.out]; simpa [V.cellsV, V.P2.cells] using hx) (V.cellsV_one [pr j]) (by have := HJ.out; have := HN.out; unfold maxLen; omega) (by have := HJ.out; have := HN.out; omega) (Nat.le_of_lt (heap_lt HS6.2)) ?_))
      rintro v7 w7 o7 g7 -
      obtain ⟨A7, c7, rfl, -, -, -⟩ := (RowO.of_owns o7).slice
      have hne1 : some (k + 1) ≠ v.ownBlock := fun e => by
        obtain ⟨cur, hc⟩ := RowO.block (RowO.of_owns O6.out) (k + 1) e.symm
        rw [HS6.1] at hc
        injection hc with hc
        injection hc with _ e _
        revert e
        decide
      have hne0 : some k ≠ v.ownBlock := fun e => by
        obtain ⟨cur, hc⟩ := RowO.block (RowO.of_owns O6.out) k e.symm
        rw [HS6.2] at hc
        injection hc with hc
        injection hc with _ e _
        revert e
        decide
      have HS7 : w7.heap[k + 1]? = some (.cells #[.int .u8 0, .int .u32 1, v] 45 (0, 0)) ∧ w7.heap[k]? = some (.cells #[.int .u8 0, .int .u32 0, .slice none 0 0] 45 (0, 0)) := ⟨(g7.block (k + 1) (heap_lt HS6.1) hne1).trans HS6.1, (g7.block k (heap_lt HS6.2) hne0).trans HS6.2⟩
      have B7 := Lib.hid (B6.out.grown g7 (Nat.le_of_lt (heap_lt HS6.2)) fun q hq => (O6.out.lt q hq).1)
      have O7 := Lib.hid o7
      refine ⟨HS7, ?_⟩
      try simp only [Act.put, List.setIfInBounds_toArray, List.set_cons_zero, List.set_cons_succ]
      have f2 := frz_row 2 HS7.1
      have c2 := cell_of HS7.1 2 v rfl
      have R7 := Lib.hid HS7
      clear HS6 HS7 g7 o7 hne1 hne0
      refine ⟨by kernel_rfl, ?_⟩
      simp only [List.drop_succ_cons, List.drop_zero]
      go_wp2
      go_roundw
      case rel =>
        refine ⟨j + 1, .slice A7 (j + 1) c7, by go_num, by omega, Lib.hid ⟨(row_set (i := 2) R7.out.1 _).trans rfl, other_set R7.out.2 (by omega) _⟩, Lib.hid ?_, Lib.hid ?_⟩
        · rw [mem_succ, show V.cellsV (mem j ++ [pr j]) = V.cellsV (mem j) ++ V.cellsV [pr j] by simp [V.cellsV]]
          refine ⟨O7.out.1, ?_⟩
          rcases O7.out.2 with h | ⟨g, cap, cur, h1, h2, h3, h4⟩
          · exact .inl h
          · refine .inr ⟨g, cap, cur, h1, h2, other_set h3 ?_ _, h4⟩
            rintro rfl
            rw [R7.out.1] at h3
            injection h3 with h3
            injection h3 with _ e _
            revert e
            decide
        · exact B7.out.setCell (by show k ≤ k + 1; omega) _
      case measure => simp [intOf]; omega
    · obtain rfl : n = j := by omega
      have hk1 : ¬ (n : Int) < (n : Int) := by omega
      obtain ⟨w3, hw3⟩ : ∃ z, u.setRow k #[.int .u8 0, .int .u32 1, v] = z := ⟨_, rfl⟩
      have r3 : w3.heap[k]? = some (.cells #[.int .u8 0, .int .u32 1, v] 45 (0, 0)) := by rw [← hw3]; exact setRow_heapG _ _ _ _ _ _ R.out.2
      have kp : KP (fun j => j = k) u w3 := by rw [← hw3]; exact KP.setRow (S := fun j => j = k) u k _ rfl
      have B3 := Lib.hid (BB.out.trans (kp.below (Nat.le_of_lt (heap_lt R.out.2)) fun j hj => Nat.le_of_eq hj.symm))
      have HW3 := Lib.hid hw3
      have R3 := Lib.hid r3
      have HKP := Lib.hid kp
      obtain ⟨A, c, rfl, hc, hm, -⟩ := (RowO.of_owns O.out).slice
      clear kp hw3 r3
      go_wp2_with (first
        | (refine wpList_load_row rfl 45 (.tmp 3) rfl (k + 1) (by rfl) 45 _ (0, 0) _ R.out.1 Try.underlying45 rfl (by kernel_rfl) ?_)
        | (refine wpList_store_row rfl 45 (.tmp 2) (.tmp 18) rfl k #[.int .u8 0, .int .u32 1, .slice A n c] (by rfl) (by rfl) 45 _ R.out.2 (by kernel_rfl) rfl (by simp [Value.oneCell']) ?_; rw [HW3.out])
        | fail)
      refine bodyPost_ret (v := .agg #[.int .u8 0, .int .u32 1, .slice A n c]) (results_cell_row (p := 2) (ty := 45) rfl _ _ k 45 #[.int .u8 0, .int .u32 1, .slice A n c] (0, 0) _ (by rfl) R3.out Try.underlying45 rfl (by kernel_rfl)) rfl ⟨A, c, rfl, ?_, hc, hm, by rw [HK.out]; exact B3.out⟩
      have hO : RowO w3 49 2 (.slice A n c) n (V.cellsV (mem n)) := (RowO.of_owns O.out).keepK HKP.out fun g hg e => by
        obtain ⟨cur, hc⟩ := RowO.block (RowO.of_owns O.out) g hg
        rw [e, R.out.2] at hc
        injection hc with hc
        injection hc with _ e _
        revert e
        decide
      have hp : PrO w3 (.slice A n c) (mem n) := by
        unfold PrO
        rw [mem_len]
        exact hO
      obtain ⟨A', c', e', hr, _⟩ := PrO.rows hp
      injection e' with e1 e2 e3
      subst e1
      exact hr
end
end Go.Proofs.Ytjdmjiikpnlkjaa
