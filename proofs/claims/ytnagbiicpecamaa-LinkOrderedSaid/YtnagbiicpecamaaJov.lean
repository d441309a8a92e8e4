/-
  The program's packet: by an exact answer. Condition: the link lies in memory.
-/
import Derived.Test.YtnagbiicpecamaaJou
namespace Go.Proofs.Ytnagbiicpecamaa
set_option linter.unusedSimpArgs false
set_option linter.unusedVariables false
open Go.RowKit Go.Maps Go.Sort

/-- a packet, and where its body lies. -/
structure Pk where
  fn : Int
  fl : Int
  tn : Int
  tl : Int
  seq : Nat
  ack : Nat
  has : Bool
  b : Bd
def Pk.cs (x : Pk) : Array Value := #[.int .u8 x.fn, .int .u16 x.fl, .int .u8 x.tn, .int .u16 x.tl, .int .u64 x.seq, .int .u64 x.ack, .bool x.has, .slice x.b.A x.b.B.length x.b.c]
theorem Pk.sz : ∀ x : Pk, x.cs.size = 8 := fun _ => rfl
theorem Pk.one : ∀ x : Pk, ∀ u ∈ x.cs.toList, u.oneCell' = true := by
  intro x u hu
  simp only [Pk.cs, List.mem_cons, List.not_mem_nil, or_false] at hu
  rcases hu with rfl | rfl | rfl | rfl | rfl | rfl | rfl | rfl <;> rfl
theorem pktI : (Try.prog.info? 46).map (fun i => (i.zero, i.size, i.bytes)) = some (some (.agg #[.int .u8 0, .int .u16 0, .int .u8 0, .int .u16 0, .int .u64 0, .int .u64 0, .bool false, .slice none 0 0]), 8, 56) := by kernel_rfl
set_option maxRecDepth 100000 in
set_option maxHeartbeats 1000000 in
theorem packetR (W : World) (b m : Nat) (vv : Value) (mn ml pn pl ag : Int) (nx wt : Nat) (ow : Bool) (h : W.heap[b]? = some (.cells #[.int .u8 mn, .int .u16 ml, .int .u8 pn, .int .u16 pl, .int .i64 ag, .int .u64 nx, .int .u64 wt, vv, .bool ow, .map (some m)] 64 (0, 0))) :
    Calls Try.prog 20 #[.pointer (some ⟨b, 0, none⟩)] W fun e W' => e = .returned (.agg #[.int .u8 mn, .int .u16 ml, .int .u8 pn, .int .u16 pl, .int .u64 0, .int .u64 wt, .bool false, .slice none 0 0]) ∧ Below W.heap.size W W' := by
  obtain ⟨W1, hW1⟩ : ∃ W1, W.alloc (.cells #[.int .u8 0, .int .u16 0, .int .u8 0, .int .u16 0, .int .u64 0, .int .u64 0, .bool false, .slice none 0 0] 46) = W1 := ⟨_, rfl⟩
  have b1 : Below W.heap.size W W1 := by rw [← hW1]; exact (Below.refl _ _).alloc (Nat.le_refl _) _
  have r1 : W1.heap[W.heap.size]? = some (.cells #[.int .u8 0, .int .u16 0, .int .u8 0, .int .u16 0, .int .u64 0, .int .u64 0, .bool false, .slice none 0 0] 46 (0, 0)) := by rw [← hW1]; exact heap_alloc_new _ _
  have h1 := (b1.block b (blt h)).trans h
  have HW := Lib.hid hW1
  have B1 := Lib.hid b1
  have R1 := Lib.hid r1
  have H1 := Lib.hid h1
  clear h hW1 b1 r1 h1
  go_enter Try.func20, Try.ntmps20
  go_wp2_with (rw [HW.out])
  refine region_heldT (S := fun X => X.heap[b]? = some (.cells #[.int .u8 mn, .int .u16 ml, .int .u8 pn, .int .u16 pl, .int .i64 ag, .int .u64 nx, .int .u64 wt, vv, .bool ow, .map (some m)] 64 (0, 0))) 13 (by kernel_rfl) (by decide) (fun inv => ?_)
  change FirstH _ _ _ _ _ _ _ _ _ _ W1.drew
  obtain ⟨W3, hW3⟩ : ∃ Y, W1.drew = Y := ⟨_, rfl⟩
  have b3 : Below W.heap.size W W3 := by rw [← hW3]; exact B1.out.drew
  have R3 : W3.heap[W.heap.size]? = some (.cells #[.int .u8 0, .int .u16 0, .int .u8 0, .int .u16 0, .int .u64 0, .int .u64 0, .bool false, .slice none 0 0] 46 (0, 0)) := by rw [← hW3]; exact R1.out
  have HS : W3.heap[b]? = some (.cells #[.int .u8 mn, .int .u16 ml, .int .u8 pn, .int .u16 pl, .int .i64 ag, .int .u64 nx, .int .u64 wt, vv, .bool ow, .map (some m)] 64 (0, 0)) := by rw [← hW3]; exact H1.out
  rw [hW3]
  have B3 := Lib.hid b3
  have RR := Lib.hid R3
  clear hW3 b3 R3
  refine FirstH.go (i := 0) (v := .pointer (some ⟨b, 0, none⟩)) rfl rfl _ rfl _ rfl (by kernel_rfl) (fun _ _ _ h => h) inv (fun X _ => by unfold bareO; go_simp) HS (fun inv => ?_)
  try simp only [Act.put, List.setIfInBounds_toArray, List.set_cons_zero, List.set_cons_succ]
  refine FirstH.go (i := 1) (v := .pointer (some ⟨b, 0, none⟩)) rfl rfl _ rfl _ rfl (by kernel_rfl) (fun _ _ _ h => h) inv (fun X _ => by unfold bareO; go_simp) HS (fun inv => ?_)
  try simp only [Act.put, List.setIfInBounds_toArray, List.set_cons_zero, List.set_cons_succ]
  refine FirstH.go (i := 2) (v := .pointer (some ⟨b, 0, none⟩)) rfl rfl _ rfl _ rfl (by kernel_rfl) (fun _ _ _ h => h) inv (fun X _ => by unfold bareO; go_simp) HS (fun inv => ?_)
  try simp only [Act.put, List.setIfInBounds_toArray, List.set_cons_zero, List.set_cons_succ]
  refine FirstH.go (i := 3) (v := .agg #[.int .u8 mn, .int .u16 ml]) rfl rfl _ rfl _ rfl (by kernel_rfl) (fun _ _ _ h => h) inv (fun X hS => by have c1 := cell_of hS 0 (.int .u8 mn) rfl; have c2 := cell_of hS 1 (.int .u16 ml) rfl; unfold bareO; go_simp) HS (fun inv => ?_)
  try simp only [Act.put, List.setIfInBounds_toArray, List.set_cons_zero, List.set_cons_succ]
  refine FirstH.go (i := 4) (v := .pointer (some ⟨b, 0, none⟩)) rfl rfl _ rfl _ rfl (by kernel_rfl) (fun _ _ _ h => h) inv (fun X _ => by unfold bareO; go_simp) HS (fun inv => ?_)
  try simp only [Act.put, List.setIfInBounds_toArray, List.set_cons_zero, List.set_cons_succ]
  refine FirstH.go (i := 5) (v := .pointer (some ⟨b, 0, none⟩)) rfl rfl _ rfl _ rfl (by kernel_rfl) (fun _ _ _ h => h) inv (fun X _ => by unfold bareO; go_simp) HS (fun inv => ?_)
  try simp only [Act.put, List.setIfInBounds_toArray, List.set_cons_zero, List.set_cons_succ]
  refine FirstH.go (i := 6) (v := .pointer (some ⟨b, 2, none⟩)) rfl rfl _ rfl _ rfl (by kernel_rfl) (fun _ _ _ h => h) inv (fun X _ => by unfold bareO; go_simp) HS (fun inv => ?_)
  try simp only [Act.put, List.setIfInBounds_toArray, List.set_cons_zero, List.set_cons_succ]
  refine FirstH.go (i := 7) (v := .agg #[.int .u8 pn, .int .u16 pl]) rfl rfl _ rfl _ rfl (by kernel_rfl) (fun _ _ _ h => h) inv (fun X hS => by have c1 := cell_of hS 2 (.int .u8 pn) rfl; have c2 := cell_of hS 3 (.int .u16 pl) rfl; unfold bareO; go_simp) HS (fun inv => ?_)
  try simp only [Act.put, List.setIfInBounds_toArray, List.set_cons_zero, List.set_cons_succ]
  refine FirstH.go (i := 8) (v := .pointer (some ⟨b, 0, none⟩)) rfl rfl _ rfl _ rfl (by kernel_rfl) (fun _ _ _ h => h) inv (fun X _ => by unfold bareO; go_simp) HS (fun inv => ?_)
  try simp only [Act.put, List.setIfInBounds_toArray, List.set_cons_zero, List.set_cons_succ]
  refine FirstH.go (i := 9) (v := .pointer (some ⟨b, 0, none⟩)) rfl rfl _ rfl _ rfl (by kernel_rfl) (fun _ _ _ h => h) inv (fun X _ => by unfold bareO; go_simp) HS (fun inv => ?_)
  try simp only [Act.put, List.setIfInBounds_toArray, List.set_cons_zero, List.set_cons_succ]
  refine FirstH.go (i := 10) (v := .pointer (some ⟨b, 6, none⟩)) rfl rfl _ rfl _ rfl (by kernel_rfl) (fun _ _ _ h => h) inv (fun X _ => by unfold bareO; go_simp) HS (fun inv => ?_)
  try simp only [Act.put, List.setIfInBounds_toArray, List.set_cons_zero, List.set_cons_succ]
  refine FirstH.go (i := 11) (v := .int .u64 wt) rfl rfl _ rfl _ rfl (by kernel_rfl) (fun _ _ _ h => h) inv (fun X hS => by have c1 := cell_of hS 6 (.int .u64 wt) rfl; unfold bareO; go_simp) HS (fun inv => ?_)
  try simp only [Act.put, List.setIfInBounds_toArray, List.set_cons_zero, List.set_cons_succ]
  refine FirstH.go (i := 12) (v := .agg #[.int .u8 mn, .int .u16 ml, .int .u8 pn, .int .u16 pl, .int .u64 0, .int .u64 wt, .bool false, .slice none 0 0]) rfl rfl _ rfl _ rfl (by kernel_rfl) (fun _ _ _ h => h) inv (fun X _ => by unfold bareO; go_simp) HS (fun inv => ?_)
  try simp only [Act.put, List.setIfInBounds_toArray, List.set_cons_zero, List.set_cons_succ]
  clear HS
  refine ⟨by kernel_rfl, ?_⟩
  simp only [List.drop_succ_cons, List.drop_zero]
  go_wp2_with (refine wpList_store_row rfl 46 (.tmp 2) (.tmp 15) rfl W.heap.size #[.int .u8 mn, .int .u16 ml, .int .u8 pn, .int .u16 pl, .int .u64 0, .int .u64 wt, .bool false, .slice none 0 0] (by rfl) (by rfl) 46 #[.int .u8 0, .int .u16 0, .int .u8 0, .int .u16 0, .int .u64 0, .int .u64 0, .bool false, .slice none 0 0] RR.out (by kernel_rfl) rfl (by simp [Value.oneCell']) ?_)
  refine bodyPost_ret (v := .agg #[.int .u8 mn, .int .u16 ml, .int .u8 pn, .int .u16 pl, .int .u64 0, .int .u64 wt, .bool false, .slice none 0 0]) (results_cell_row (p := 2) (ty := 46) rfl _ _ W.heap.size 46 #[.int .u8 mn, .int .u16 ml, .int .u8 pn, .int .u16 pl, .int .u64 0, .int .u64 wt, .bool false, .slice none 0 0] (0, 0) _ (by rfl) (setRow_heap _ _ _ _ _ _ RR.out) Try.underlying46 rfl (by kernel_rfl)) rfl ⟨rfl, below_row B3.out (Nat.le_refl _) _⟩

end Go.Proofs.Ytnagbiicpecamaa
