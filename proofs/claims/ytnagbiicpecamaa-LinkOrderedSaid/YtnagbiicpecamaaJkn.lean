/-
  Two ends that do not disturb one another; the law's ends and knows: by exact answers. Condition: the links lie in memory.
-/
import Derived.Test.YtnagbiicpecamaaJah
import Derived.Lib.SmallJoins
namespace Go.Proofs.Ytnagbiicpecamaa
set_option linter.unusedSimpArgs false
set_option linter.unusedVariables false
open Go.RowKit Go.Maps Go.Sort

theorem conv_bytes {w : World} {B : Nat} {A : Option Addr} {L : List UInt8} (h : BytesAt w B A L) (c : Nat) : Sem.run Try.prog (convert 44 9 (.slice A L.length c)) w = .ok (.string ⟨L.toArray⟩) w := by
  cases A with
  | none =>
    have hl : L = [] := by
      rcases Classical.em (L = []) with h0 | h0
      · exact h0
      · obtain ⟨g, o, e, -⟩ := h h0
        cases e
    subst hl
    exact run_convert_bytes_nil w _ _ Try.underlying44 Try.underlying5 0 c _ Try.underlying9
  | some a =>
    exact run_convert_bytes_back w 44 9 5 a c L Try.underlying44 Try.underlying5 Try.underlying9 (fun j hj => by
      have hne : L ≠ [] := by intro e; rw [e] at hj; simp at hj
      obtain ⟨g, o, e, _, hc⟩ := h hne
      cases e
      rw [addr_add]
      exact hc j _ (List.getElem?_eq_getElem hj))
/-- bytes newly laid. -/
theorem bytes_new (w : World) (L : List UInt8) (cs : Array Value) (fr : Nat × Nat) (h : cs.toList = Lib.byteCells L) : BytesAt (w.alloc (.cells cs 5 fr)) (w.heap.size + 1) (some ⟨w.heap.size, 0, none⟩) L := fun _ => by
  refine ⟨w.heap.size, 0, rfl, Nat.lt_succ_self _, fun j x hx => ?_⟩
  rw [Nat.zero_add, cell_of_row _ _ j _ _ _ (heap_alloc_new w _)]
  have h1 : cs.toList[j]? = some (.int .u8 x.toNat) := by rw [h, Lib.byteCells, List.getElem?_map, hx]; rfl
  simpa using h1

/-- a link that another one's call leaves alone. -/
theorem PL.other {base base' : Nat} {W W' : World} {b m b' m' : Nat} {v v' : Value} {c c' : Nat} {s s' : Sc} {L L' : List Ls} {K K' : List Kr} (h : PL base W b m v c s L K) (h' : PL base' W b' m' v' c' s' L' K') (k : KP (FP b' m' v') W W') (hb : b ≠ b') (hm : m ≠ m') (hv : ∀ g, v.ownBlock = some g → v'.ownBlock ≠ some g) : PL base W' b m v c s L K := by
  obtain ⟨es, cl, hmm⟩ := h.ml
  obtain ⟨es', cl', hmm'⟩ := h'.ml
  refine h.keepK k ?_ ?_ (fun g hg => ?_) fun g cur hg => h'.u8 g cur hg
  · rintro (e | e | e)
    · exact hb e
    · have := h.lnk
      rw [e, hmm'] at this
      cases this
    · obtain ⟨c2, h2⟩ := h'.row.block b e
      exact apart_of h.lnk h2 (by decide) rfl
  · rintro (e | e | e)
    · have := h'.lnk
      rw [← e, hmm] at this
      cases this
    · exact hm e
    · obtain ⟨c2, h2⟩ := h'.row.block m e
      rw [hmm] at h2
      cases h2
  · obtain ⟨c2, h2⟩ := h.row.block g hg
    rintro (e | e | e)
    · exact apart_of h2 h'.lnk (by decide) e
    · rw [e, hmm'] at h2
      cases h2
    · exact hv g hg e
/-- all lies from base on. -/
theorem PL.kbelow {base : Nat} {W W' : World} {b m : Nat} {v : Value} {c : Nat} {s : Sc} {L : List Ls} {K : List Kr} (h : PL base W b m v c s L K) (k : KP (FP b m v) W W') (hb : base ≤ W.heap.size) : Below base W W' :=
  k.below hb fun k hk => h.foot k hk

set_option maxRecDepth 100000 in
set_option maxHeartbeats 2000000 in
theorem endsW (first : Nat) (again : Int) (hf : first ≤ 18446744073709551615) (ha : again ≤ 9223372036854775807) (W : World) :
    Calls Try.prog 5 #[.int .u64 first, .int .i64 again] W fun e W' => ∃ bx mx b_y m_y, e = .returned (.tuple #[.pointer (some ⟨bx, 0, none⟩), .pointer (some ⟨b_y, 0, none⟩)]) ∧ PL W.heap.size W' bx mx (.slice none 0 0) 0 ⟨1, 1, 2, 3, max again 1, first, first, false⟩ [] [] ∧ PL W.heap.size W' b_y m_y (.slice none 0 0) 0 ⟨2, 3, 1, 1, max again 1, first, first, false⟩ [] [] ∧ bx ≠ b_y ∧ mx ≠ m_y ∧ Below W.heap.size W W' := by
  obtain ⟨W1, hW1⟩ : ∃ Y, W.alloc (.cells #[.int .u8 0, .int .u16 0] 43) = Y := ⟨_, rfl⟩
  have r1 : W1.heap[W.heap.size]? = some (.cells #[.int .u8 0, .int .u16 0] 43 (0, 0)) := by rw [← hW1]; exact heap_alloc_new _ _
  have s1 : W1.heap.size = W.heap.size + 1 := by rw [← hW1]; simp
  obtain ⟨W2, hW2⟩ : ∃ Y, W1.setRow W.heap.size #[.int .u8 1, .int .u16 1] = Y := ⟨_, rfl⟩
  have r2 : W2.heap[W.heap.size]? = some (.cells #[.int .u8 1, .int .u16 1] 43 (0, 0)) := by rw [← hW2]; exact setRow_heap _ _ _ _ _ _ r1
  have s2 : W2.heap.size = W.heap.size + 1 := by rw [← hW2, ← s1]; simp [World.setRow]
  have b2 : Below W.heap.size W W2 := by rw [← hW2, ← hW1]; exact below_row ((Below.refl _ _).alloc (Nat.le_refl _) _) (Nat.le_refl _) _
  obtain ⟨W3, hW3⟩ : ∃ Y, W2.alloc (.cells #[.int .u8 0, .int .u16 0] 43) = Y := ⟨_, rfl⟩
  have r3 : W3.heap[W2.heap.size]? = some (.cells #[.int .u8 0, .int .u16 0] 43 (0, 0)) := by rw [← hW3]; exact heap_alloc_new _ _
  obtain ⟨W4, hW4⟩ : ∃ Y, W3.setRow W2.heap.size #[.int .u8 2, .int .u16 3] = Y := ⟨_, rfl⟩
  have r4 : W4.heap[W2.heap.size]? = some (.cells #[.int .u8 2, .int .u16 3] 43 (0, 0)) := by rw [← hW4]; exact setRow_heap _ _ _ _ _ _ r3
  have b4 : Below W2.heap.size W2 W4 := by rw [← hW4, ← hW3]; exact below_row ((Below.refl _ _).alloc (Nat.le_refl _) _) (Nat.le_refl _) _
  obtain ⟨W5, hW5⟩ : ∃ Y, W4.drew = Y := ⟨_, rfl⟩
  have b5 : Below W4.heap.size W4 W5 := by rw [← hW5]; exact (Below.refl _ _).drew
  have q4 := (b4.block _ (blt r2)).trans r2
  have HS : W5.heap[W.heap.size]? = some (.cells #[.int .u8 1, .int .u16 1] 43 (0, 0)) ∧ W5.heap[W2.heap.size]? = some (.cells #[.int .u8 2, .int .u16 3] 43 (0, 0)) := ⟨(b5.block _ (blt q4)).trans q4, (b5.block _ (blt r4)).trans r4⟩
  have B5 := Lib.hid ((b2.trans (b4.mono b2.size)).trans (b5.mono (by have := b4.size; have := b2.size; omega)))
  have HW1 := Lib.hid hW1
  have HW2 := Lib.hid hW2
  have HW3 := Lib.hid hW3
  have HW4 := Lib.hid hW4
  have HW5 := Lib.hid hW5
  have R1 := Lib.hid r1
  have R3 := Lib.hid r3
  have H5 := Lib.hid HS
  have K5 := Lib.hid (newL 1 1 2 3 first again hf ha W5)
  have KN := Lib.hid (newL 2 3 1 1 first again hf ha)
  clear hW1 r1 s1 hW2 r2 s2 b2 hW3 r3 hW4 r4 b4 hW5 b5 q4 HS
  go_enter Try.func5, Try.ntmps5
  go_wp2_with (first
    | (rw [HW1.out])
    | (refine wpList_store_row rfl 43 (.tmp 6) (.tmp 8) rfl W.heap.size #[.int .u8 1, .int .u16 1] (by rfl) (by rfl) 43 #[.int .u8 0, .int .u16 0] R1.out (by kernel_rfl) rfl (by simp [Value.oneCell']) ?_; rw [HW2.out])
    | (rw [HW3.out])
    | (refine wpList_store_row rfl 43 (.tmp 7) (.tmp 9) rfl W2.heap.size #[.int .u8 2, .int .u16 3] (by rfl) (by rfl) 43 #[.int .u8 0, .int .u16 0] R3.out (by kernel_rfl) rfl (by simp [Value.oneCell']) ?_; rw [HW4.out]))
  refine region_heldT (S := fun X => X.heap[W.heap.size]? = some (.cells #[.int .u8 1, .int .u16 1] 43 (0, 0)) ∧ X.heap[W2.heap.size]? = some (.cells #[.int .u8 2, .int .u16 3] 43 (0, 0))) 10 (by kernel_rfl) (by decide) (fun inv => ?_)
  change FirstH _ _ _ _ _ _ _ _ _ _ W4.drew
  rw [HW5.out]
  have HS := H5.out
  refine FirstH.go (i := 0) (v := .agg #[.int .u8 1, .int .u16 1]) rfl rfl _ rfl _ rfl (by kernel_rfl) (fun _ _ _ h => h) inv (fun X hS => run_load_row 43 _ _ W.heap.size rfl _ _ _ _ hS.1 Try.underlying43 rfl (by kernel_rfl)) HS (fun inv => ?_)
  try simp only [Act.put, List.setIfInBounds_toArray, List.set_cons_zero, List.set_cons_succ]
  refine FirstH.go (i := 1) (v := .agg #[.int .u8 2, .int .u16 3]) rfl rfl _ rfl _ rfl (by kernel_rfl) (fun _ _ _ h => h) inv (fun X hS => run_load_row 43 _ _ W2.heap.size rfl _ _ _ _ hS.2 Try.underlying43 rfl (by kernel_rfl)) HS (fun inv => ?_)
  try simp only [Act.put, List.setIfInBounds_toArray, List.set_cons_zero, List.set_cons_succ]
  refine FirstH.go (i := 2) (v := .int .u64 first) rfl rfl _ rfl _ rfl (by kernel_rfl) (fun _ _ _ h => h) inv (fun X _ => by unfold bareO; go_simp) HS (fun inv => ?_)
  try simp only [Act.put, List.setIfInBounds_toArray, List.set_cons_zero, List.set_cons_succ]
  refine FirstH.go (i := 3) (v := .int .i64 again) rfl rfl _ rfl _ rfl (by kernel_rfl) (fun _ _ _ h => h) inv (fun X _ => by unfold bareO; go_simp) HS (fun inv => ?_)
  try simp only [Act.put, List.setIfInBounds_toArray, List.set_cons_zero, List.set_cons_succ]
  refine FirstH.go (i := 5) (v := .agg #[.int .u8 2, .int .u16 3]) rfl rfl _ rfl _ rfl (by kernel_rfl) (fun _ _ _ h => h) inv (fun X hS => run_load_row 43 _ _ W2.heap.size rfl _ _ _ _ hS.2 Try.underlying43 rfl (by kernel_rfl)) HS (fun inv => ?_)
  try simp only [Act.put, List.setIfInBounds_toArray, List.set_cons_zero, List.set_cons_succ]
  refine FirstH.go (i := 6) (v := .agg #[.int .u8 1, .int .u16 1]) rfl rfl _ rfl _ rfl (by kernel_rfl) (fun _ _ _ h => h) inv (fun X hS => run_load_row 43 _ _ W.heap.size rfl _ _ _ _ hS.1 Try.underlying43 rfl (by kernel_rfl)) HS (fun inv => ?_)
  try simp only [Act.put, List.setIfInBounds_toArray, List.set_cons_zero, List.set_cons_succ]
  refine FirstH.go (i := 7) (v := .int .u64 first) rfl rfl _ rfl _ rfl (by kernel_rfl) (fun _ _ _ h => h) inv (fun X _ => by unfold bareO; go_simp) HS (fun inv => ?_)
  try simp only [Act.put, List.setIfInBounds_toArray, List.set_cons_zero, List.set_cons_succ]
  refine FirstH.go (i := 8) (v := .int .i64 again) rfl rfl _ rfl _ rfl (by kernel_rfl) (fun _ _ _ h => h) inv (fun X _ => by unfold bareO; go_simp) HS (fun inv => ?_)
  try simp only [Act.put, List.setIfInBounds_toArray, List.set_cons_zero, List.set_cons_succ]
  clear HS
  refine FirstH.only (i := 4) (by kernel_rfl) (by decide) inv (fun inv => wpOp_call (i := 4) rfl rfl 14 rfl _ rfl 16 #[.agg #[.int .u8 1, .int .u16 1], .agg #[.int .u8 2, .int .u16 3], .int .u64 first, .int .i64 again] (by unfold bareO; go_simp) K5.out ?_)
  rintro e W6 ⟨rfl, p6, b6⟩
  have q6 := (b6.block _ (blt H5.out.1)).trans H5.out.1
  have t6 := (b6.block _ (blt H5.out.2)).trans H5.out.2
  refine ⟨_, rfl, ⟨q6, t6⟩, ?_⟩
  have P6 := Lib.hid p6
  have B6 := Lib.hid b6
  have Q6 := Lib.hid q6
  have T6 := Lib.hid t6
  clear p6 b6 q6 t6
  try simp only [Act.put, List.setIfInBounds_toArray, List.set_cons_zero, List.set_cons_succ]
  refine FirstH.only (i := 9) (by kernel_rfl) (by decide) inv (fun inv => wpOp_call (i := 9) rfl rfl 19 rfl _ rfl 16 #[.agg #[.int .u8 2, .int .u16 3], .agg #[.int .u8 1, .int .u16 1], .int .u64 first, .int .i64 again] (by unfold bareO; go_simp) (KN.out W6) ?_)
  rintro e W7 ⟨rfl, p7, b7⟩
  refine ⟨_, rfl, ⟨(b7.block _ (blt Q6.out)).trans Q6.out, (b7.block _ (blt T6.out)).trans T6.out⟩, ?_⟩
  have P7 := Lib.hid p7
  have B7 := Lib.hid b7
  clear p7 b7
  try simp only [Act.put, List.setIfInBounds_toArray, List.set_cons_zero, List.set_cons_succ]
  refine ⟨by kernel_rfl, ?_⟩
  simp only [List.drop_succ_cons, List.drop_zero]
  go_wp2
  have s5 := B5.out.size
  have s6 := B6.out.size
  have x6 := blt P6.out.lnk
  obtain ⟨es, cl, hm6⟩ := P6.out.ml
  have y6 := blt hm6
  have p6 := P6.out.below B7.out
  refine bodyPost_ret (results_tmp2 rfl _ _ _) rfl ⟨W5.heap.size + 3, W5.heap.size + 2, W6.heap.size + 3, W6.heap.size + 2, rfl, ?_, ?_, ?_, ?_, ?_⟩
  · exact { p6 with hb := Nat.le_trans s5 p6.hb, hm := Nat.le_trans s5 p6.hm, hv := fun g hg => Nat.le_trans s5 (p6.hv g hg) }
  · have p7 := P7.out
    exact { p7 with hb := by have := p7.hb; omega, hm := by have := p7.hm; omega, hv := fun g hg => by have := p7.hv g hg; omega }
  · omega
  · omega
  · exact B5.out.trans ((B6.out.mono s5).trans (B7.out.mono (by omega)))

end Go.Proofs.Ytnagbiicpecamaa
