/-
  An Accept as bytes: by exact answers. Condition: the Writer lies in memory.
-/
import Derived.Test.YtkmbgehknpefiaaGreatDoorWk3
namespace Go.Proofs.YtkmbgehknpefiaaGreatDoor
set_option linter.unusedSimpArgs false
set_option linter.unusedVariables false
open Go.RowKit Go.Sort

def accT : List UInt8 := [UInt8.ofNat 1] ++ (putU 2 ++ putU 300)
def accU : List UInt8 := [UInt8.ofNat 6] ++ accT

set_option maxRecDepth 100000 in
set_option maxHeartbeats 2000000 in
theorem accHead (A : Array Value) (hA : A = aMsg) (base b : Nat) (L : List UInt8) (W : World) (h : WrAt base b L W) (hB : base ≤ W.heap.size) (hl : L.length + 40 ≤ 140737488355328) :
    Calls Tryz.prog 79 #[.pointer (some ⟨b, 0, none⟩), .agg A] W fun e W' => e = .returned (.tuple #[]) ∧ WrAt base b (L ++ accT) W' ∧ Below base W W' ∧ KeepW b W W' := by
  obtain ⟨W1, hW1⟩ : ∃ W1, W.alloc (.cells A 59) = W1 := ⟨_, rfl⟩
  have hbW : b < W.heap.size := by obtain ⟨_, v, bV, _⟩ := h; exact bV.lt
  have R1 : Hid (W1.heap[W.heap.size]? = some (.cells A 59 (0, 0))) := Lib.hid (by rw [← hW1]; exact heap_alloc_new _ _)
  have B1 : Hid (Below base W W1) := Lib.hid (by rw [← hW1]; exact (Below.refl _ _).alloc hB _)
  have Q1 : Hid (KeepW b W W1) := Lib.hid (by rw [← hW1]; exact KeepW.alloc _ _)
  have h1 : WrAt base b L W1 := by rw [← hW1]; exact h.alloc _
  have hB1 : base ≤ W1.heap.size := Nat.le_trans hB B1.out.size
  have HW1 := Lib.hid hW1
  have HA := Lib.hid hA
  have HAI := Lib.hid (show (Tryz.prog.info? 59).map (·.size) = some A.size by rw [hA]; kernel_rfl)
  clear hW1
  have K1 := Lib.hid (wB base b L 1 W1 h1 hB1 (by omega) (by omega) (by omega))
  have c0 : W1.cell? ⟨W.heap.size, 0, none⟩ = some (.int .u8 6) := (cell_of_row _ _ 0 _ _ _ R1.out).trans (by rw [HA.out]; rfl)
  have c1 : W1.cell? ⟨W.heap.size, 1, none⟩ = some (.int .u8 1) := (cell_of_row _ _ 1 _ _ _ R1.out).trans (by rw [HA.out]; rfl)
  clear h h1 hA
  go_enter Tryz.func79, Tryz.ntmps79
  go_wp2_with (refine wpList_bx rfl 59 (.tmp 1) rfl 3 rfl A rfl ?_; rw [HW1.out])
  refine K1.out.mono ?_
  rintro e w2 ⟨rfl, h2, b2, q2⟩
  have R2 := Lib.hid (q2.same _ _ (by omega) R1.out (by intro cs fr h; cases h))
  have B2 := Lib.hid (B1.out.trans b2)
  have Q2 := Lib.hid (Q1.out.trans q2)
  have hB2 : base ≤ w2.heap.size := Nat.le_trans hB B2.out.size
  have K2 := Lib.hid (wU base b _ 2 w2 h2 hB2 (by simp; omega) (by omega))
  clear h2 b2 q2 c0 c1
  have c3 : w2.cell? ⟨W.heap.size, 3, none⟩ = some (.int .u32 2) := (cell_of_row _ _ 3 _ _ _ R2.out).trans (by rw [HA.out]; rfl)
  go_wp2_with fail
  refine K2.out.mono ?_
  rintro e w3 ⟨rfl, h3, b3, q3⟩
  have R3 := Lib.hid (q3.same _ _ (by omega) R2.out (by intro cs fr h; cases h))
  have B3 := Lib.hid (B2.out.trans b3)
  have Q3 := Lib.hid (Q2.out.trans q3)
  have hB3 : base ≤ w3.heap.size := Nat.le_trans hB B3.out.size
  have K3 := Lib.hid (wU base b _ 300 w3 h3 hB3 (by have := putU_length 2 (by omega); simp; omega) (by omega))
  clear h3 b3 q3 c3
  have c7 : w3.cell? ⟨W.heap.size, 7, none⟩ = some (.int .u64 300) := (cell_of_row _ _ 7 _ _ _ R3.out).trans (by rw [HA.out]; rfl)
  go_wp2_with fail
  refine K3.out.mono ?_
  rintro e w4 ⟨rfl, h4, b4, q4⟩
  go_wp2
  go_end0
  refine ⟨rfl, ?_, B3.out.trans b4, Q3.out.trans q4⟩
  have e : ((L ++ [UInt8.ofNat ((1 : Int)).toNat]) ++ putU 2) ++ putU 300 = L ++ accT := by
    unfold accT
    simp only [List.append_assoc]
    rfl
  rw [← e]
  exact h4

set_option maxRecDepth 100000 in
set_option maxHeartbeats 2000000 in
theorem accPut (A : Array Value) (hA : A = aMsg) (base b : Nat) (L : List UInt8) (W : World) (h : WrAt base b L W) (hB : base ≤ W.heap.size) (hl : L.length + 60 ≤ 140737488355328) :
    Calls Tryz.prog 27 #[.pointer (some ⟨b, 0, none⟩), .agg A] W fun e W' => e = .returned (.tuple #[]) ∧ WrAt base b (L ++ accU) W' ∧ Below base W W' ∧ KeepW b W W' := by
  obtain ⟨W1, hW1⟩ : ∃ W1, W.alloc (.cells A 59) = W1 := ⟨_, rfl⟩
  have hbW : b < W.heap.size := by obtain ⟨_, v, bV, _⟩ := h; exact bV.lt
  have R1 : Hid (W1.heap[W.heap.size]? = some (.cells A 59 (0, 0))) := Lib.hid (by rw [← hW1]; exact heap_alloc_new _ _)
  have B1 : Hid (Below base W W1) := Lib.hid (by rw [← hW1]; exact (Below.refl _ _).alloc hB _)
  have Q1 : Hid (KeepW b W W1) := Lib.hid (by rw [← hW1]; exact KeepW.alloc _ _)
  have h1 : WrAt base b L W1 := by rw [← hW1]; exact h.alloc _
  have hB1 : base ≤ W1.heap.size := Nat.le_trans hB B1.out.size
  have HW1 := Lib.hid hW1
  have HA := Lib.hid hA
  have HAI := Lib.hid (show (Tryz.prog.info? 59).map (·.size) = some A.size by rw [hA]; kernel_rfl)
  clear hW1
  have K1 := Lib.hid (wB base b L 6 W1 h1 hB1 (by omega) (by omega) (by omega))
  have c0 : W1.cell? ⟨W.heap.size, 0, none⟩ = some (.int .u8 6) := (cell_of_row _ _ 0 _ _ _ R1.out).trans (by rw [HA.out]; rfl)
  have KH := Lib.hid (fun w h hB hl => accHead A hA base b (L ++ [UInt8.ofNat ((6 : Int)).toNat]) w h hB hl)
  clear h h1 hA
  go_enter Tryz.func27, Tryz.ntmps27
  go_wp2_with (refine wpList_bx rfl 59 (.tmp 1) rfl 3 rfl A rfl ?_; rw [HW1.out])
  refine K1.out.mono ?_
  rintro e w2 ⟨rfl, h2, b2, q2⟩
  have R2 := Lib.hid (q2.same _ _ (by omega) R1.out (by intro cs fr h; cases h))
  have B2 := Lib.hid (B1.out.trans b2)
  have Q2 := Lib.hid (Q1.out.trans q2)
  have hB2 : base ≤ w2.heap.size := Nat.le_trans hB B2.out.size
  have K2 := Lib.hid (KH.out w2 h2 hB2 (by simp; omega))
  clear h2 b2 q2 c0 KH
  go_wp2_with (refine wpList_load_row rfl 59 (.tmp 3) rfl W.heap.size (by rfl) 59 A (0, 0) _ R2.out Tryz.underlying59 rfl HAI.out ?_)
  refine K2.out.mono ?_
  rintro e w3 ⟨rfl, h3, b3, q3⟩
  have R3 := Lib.hid (q3.same _ _ (by omega) R2.out (by intro cs fr h; cases h))
  have B3 := Lib.hid (B2.out.trans b3)
  have Q3 := Lib.hid (Q2.out.trans q3)
  have hB3 : base ≤ w3.heap.size := Nat.le_trans hB B3.out.size
  have H3 := Lib.hid h3
  clear h3 b3 q3
  have c0 : w3.cell? ⟨W.heap.size, 0, none⟩ = some (.int .u8 6) := (cell_of_row _ _ 0 _ _ _ R3.out).trans (by rw [HA.out]; rfl)
  go_wp2
  go_end0
  refine ⟨rfl, ?_, B3.out, Q3.out⟩
  have e : (L ++ [UInt8.ofNat ((6 : Int)).toNat]) ++ accT = L ++ accU := by
    unfold accU
    rw [List.append_assoc]
    rfl
  rw [← e]
  exact H3.out

/-- an Accept's bytes. -/
def accL : List UInt8 := [6, 1, 2, 172, 2]
theorem accL_is : accU = accL := by
  unfold accU accT
  rw [putU_small (show 2 < 128 by decide), putU_big (show ¬ 300 < 128 by decide), putU_small (show 300 / 128 < 128 by decide)]
  rfl

set_option maxRecDepth 100000 in
set_option maxHeartbeats 2000000 in
theorem accBytes (A : Array Value) (hA : A = aMsg) (W : World) :
    Calls Tryz.prog 8 #[.agg A] W fun e W' => ∃ v, e = .returned (.tuple #[v, .int .i64 0]) ∧ W'.ownsRow W.heap.size 5 1 v 5 (Lib.byteCells accL) ∧ Below W.heap.size W W' := by
  obtain ⟨W1, hW1⟩ : ∃ W1, W.alloc (.cells A 59) = W1 := ⟨_, rfl⟩
  have R1 : Hid (W1.heap[W.heap.size]? = some (.cells A 59 (0, 0))) := Lib.hid (by rw [← hW1]; exact heap_alloc_new _ _)
  have B1 : Hid (Below W.heap.size W W1) := Lib.hid (by rw [← hW1]; exact (Below.refl _ _).alloc (Nat.le_refl _) _)
  have L1 : Hid (W.heap.size < W1.heap.size) := Lib.hid (by rw [← hW1]; simp)
  have HW1 := Lib.hid hW1
  have HA := Lib.hid hA
  have HAI := Lib.hid (show (Tryz.prog.info? 59).map (·.size) = some A.size by rw [hA]; kernel_rfl)
  have KR := Lib.hid (fun w => accRight A hA w)
  have KP := Lib.hid (fun base b w h hB => accPut A hA base b [] w h hB (by simp))
  clear hA hW1
  go_enter Tryz.func8, Tryz.ntmps8
  go_wp2_with (first
    | (refine wpList_bx rfl 59 (.tmp 0) rfl 1 rfl A rfl ?_; rw [HW1.out])
    | (refine wpList_load_row rfl 59 (.tmp 1) rfl W.heap.size (by rfl) 59 A (0, 0) _ R1.out Tryz.underlying59 rfl HAI.out ?_))
  refine (KR.out _).mono ?_
  rintro e w2 ⟨rfl, b2⟩
  have R2 := Lib.hid ((b2.block _ L1.out).trans R1.out)
  have B2 := Lib.hid (B1.out.trans (b2.mono B1.out.size))
  have L2 := Lib.hid (Nat.lt_of_lt_of_le L1.out b2.size)
  obtain ⟨W3, hW3⟩ : ∃ W3, w2.alloc (.cells #[.slice none 0 0] 90) = W3 := ⟨_, rfl⟩
  have R3 : Hid (W3.heap[W.heap.size]? = some (.cells A 59 (0, 0))) := Lib.hid (by rw [← hW3, Below.heap_alloc _ _ _ L2.out]; exact R2.out)
  have B3 : Hid (Below W.heap.size W W3) := Lib.hid (by rw [← hW3]; exact B2.out.alloc B2.out.size _)
  have h3 : WrAt W.heap.size w2.heap.size [] W3 := by
    rw [← hW3]
    exact ⟨B2.out.size, .slice none 0 0, Boxed.new w2 _ _, World.ownsRow_nil _ _ _ _⟩
  have K3 := Lib.hid (KP.out W.heap.size w2.heap.size W3 h3 B3.out.size)
  have HW3 := Lib.hid hW3
  clear b2 h3 hW3
  go_wp2_with (first
    | (rw [HW3.out]; refine wpList_load_row rfl 59 (.tmp 1) rfl W.heap.size (by rfl) 59 A (0, 0) _ R3.out Tryz.underlying59 rfl HAI.out ?_))
  refine K3.out.mono ?_
  rintro e w4 ⟨rfl, h4, b4, -⟩
  rw [List.nil_append, accL_is] at h4
  have B4 := Lib.hid (B3.out.trans b4)
  have K4 := Lib.hid (wY W.heap.size w2.heap.size accL w4 h4 B4.out.size (by decide))
  clear h4 b4
  go_wp2_with fail
  refine K4.out.mono ?_
  rintro e w5 ⟨v, rfl, ho, b5⟩
  have HO := Lib.hid (own_up ho B4.out.size)
  have B5 := Lib.hid (B4.out.trans (b5.mono B4.out.size))
  clear ho b5
  go_wp2
  go_ret2
  exact ⟨_, rfl, HO.out, B5.out⟩

end Go.Proofs.YtkmbgehknpefiaaGreatDoor
