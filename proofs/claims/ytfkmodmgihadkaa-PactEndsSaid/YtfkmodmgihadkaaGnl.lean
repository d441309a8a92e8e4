/-
  Nobody who promises, nobody who proposes, and such as nobody made: every call, by exact answers. No condition.
-/
import Derived.Test.YtfkmodmgihadkaaGac
import Derived.Test.YtfkmodmgihadkaaGp6
import Derived.Deep.MidRow
namespace Go.Proofs.Ytfkmodmgihadkaa
set_option linter.unusedSimpArgs false
set_option linter.unusedVariables false
open Go.RowKit Go.Maps Go.Sort
open V (P2)

/-- nobody who proposes, or one that nobody made. -/
def NoP (W : World) (po : Option Addr) : Prop := po = none ∨ ∃ b, po = some ⟨b, 0, none⟩ ∧ W.heap[b]? = some (.cells #[.int .u8 0, .int .u32 0, .slice none 0 0, .int .u64 0, .int .i64 0, .map none, .slice none 0 0, .int .u64 0, .slice none 0 0, .slice none 0 0, .bool false, .slice none 0 0, .slice none 0 0] 73 (0, 0))
theorem NoP.below {W W' : World} {po : Option Addr} (h : NoP W po) (hb : Below W.heap.size W W') : NoP W' po := by
  rcases h with h | ⟨b, e, hg⟩
  · exact .inl h
  · exact .inr ⟨b, e, (hb.block b (heap_lt hg)).trans hg⟩
/-- nobody who promises, or one that nobody made. -/
def NoA (W : World) (po : Option Addr) : Prop := po = none ∨ ∃ b, po = some ⟨b, 0, none⟩ ∧ AP W b A0
theorem NoA.below {W W' : World} {po : Option Addr} (h : NoA W po) (hb : Below W.heap.size W W') : NoA W' po := by
  rcases h with h | ⟨b, e, hg⟩
  · exact .inl h
  · exact .inr ⟨b, e, hg.below hb⟩
theorem neqMapN (W : World) (r : Option Nat) : (binOp .neq 71 (.map r) (.map none)).run Try.prog W = .ok (.bool (!r.isNone)) W := by
  cases r <;> kernel_rfl
set_option maxRecDepth 100000 in
set_option maxHeartbeats 2000000 in
theorem madeN (W : World) (po : Option Addr) (h : NoP W po) : Calls Try.prog 24 #[.pointer po] W fun e W' => e = .returned (.bool false) ∧ W = W' := by
  have hm := neqMapN
  rcases h with rfl | ⟨b, rfl, hg⟩
  · go_enter Try.func24, Try.ntmps24
    go_wp2
    go_ret
    exact ⟨rfl, rfl⟩
  · have c5 := cell_of hg 5 (.map none) rfl
    clear hg
    go_enter Try.func24, Try.ntmps24
    go_wp2
    go_ret
    exact ⟨rfl, rfl⟩
set_option maxRecDepth 100000 in
set_option maxHeartbeats 2000000 in
theorem inN (W : World) (po : Option Addr) (h : NoP W po) (k : Int) : Calls Try.prog 30 #[.pointer po, .int .i64 k] W fun e W' => e = .returned (.bool false) ∧ W = W' := by
  have K1 := Lib.hid (madeN W po h)
  clear h
  go_enter Try.func30, Try.ntmps30
  go_wp2_with (go_at_call 24; refine K1.out.mono ?_; rintro e w ⟨rfl, rfl⟩)
  go_ret
  exact ⟨rfl, rfl⟩
set_option maxRecDepth 100000 in
set_option maxHeartbeats 2000000 in
theorem readyN (W : World) (po : Option Addr) (h : NoP W po) : Calls Try.prog 17 #[.pointer po] W fun e W' => e = .returned (.bool false) ∧ W = W' := by
  have K1 := Lib.hid (inN W po h 0)
  clear h
  go_enter Try.func17, Try.ntmps17
  go_wp2_with (go_at_call 30; refine K1.out.mono ?_; rintro e w ⟨rfl, rfl⟩)
  go_ret
  exact ⟨rfl, rfl⟩
set_option maxRecDepth 100000 in
set_option maxHeartbeats 2000000 in
theorem phaseN (W : World) (po : Option Addr) (h : NoP W po) : Calls Try.prog 8 #[.pointer po] W fun e W' => e = .returned (.int .i64 0) ∧ W = W' := by
  have K1 := Lib.hid (madeN W po h)
  clear h
  go_enter Try.func8, Try.ntmps8
  go_wp2_with (go_at_call 24; refine K1.out.mono ?_; rintro e w ⟨rfl, rfl⟩)
  go_ret
  exact ⟨rfl, rfl⟩
set_option maxRecDepth 100000 in
set_option maxHeartbeats 2000000 in
theorem ballotN (W : World) (po : Option Addr) (h : NoP W po) : Calls Try.prog 20 #[.pointer po] W fun e W' => e = .returned (.int .u64 0) ∧ W = W' := by
  have K1 := Lib.hid (madeN W po h)
  clear h
  go_enter Try.func20, Try.ntmps20
  go_wp2_with (go_at_call 24; refine K1.out.mono ?_; rintro e w ⟨rfl, rfl⟩)
  go_ret
  exact ⟨rfl, rfl⟩
set_option maxRecDepth 100000 in
set_option maxHeartbeats 2000000 in
theorem missN (W : World) (po : Option Addr) (h : NoP W po) : Calls Try.prog 12 #[.pointer po] W fun e W' => e = .returned (.slice none 0 0) ∧ W = W' := by
  have K1 := Lib.hid (madeN W po h)
  clear h
  go_enter Try.func12, Try.ntmps12
  go_wp2_with (go_at_call 24; refine K1.out.mono ?_; rintro e w ⟨rfl, rfl⟩)
  go_ret
  exact ⟨rfl, rfl⟩
set_option maxRecDepth 100000 in
set_option maxHeartbeats 2000000 in
theorem accN (W : World) (po : Option Addr) (h : NoP W po) (x : P2) : Calls Try.prog 19 #[.pointer po, .agg #[.int .u8 x.n, .int .u16 x.l]] W fun e W' => e = .returned (.bool false) ∧ Below W.heap.size W W' := by
  obtain ⟨w1, hw1⟩ : ∃ z, W.alloc (.cells #[.int .u8 x.n, .int .u16 x.l] 54) = z := ⟨_, rfl⟩
  have b1 : Below W.heap.size W w1 := by rw [← hw1]; exact (Below.refl _ _).alloc (Nat.le_refl _) _
  have K1 := Lib.hid (inN w1 po (h.below b1))
  have B1 := Lib.hid b1
  have HW1 := Lib.hid hw1
  clear h hw1 b1
  go_enter Try.func19, Try.ntmps19
  go_wp2_with (first
    | (rw [HW1.out])
    | (go_at_call 30; refine (K1.out _).mono ?_; rintro e w ⟨rfl, rfl⟩))
  go_ret
  exact ⟨rfl, B1.out⟩
set_option maxRecDepth 100000 in
set_option maxHeartbeats 2000000 in
theorem promN (W : World) (po : Option Addr) (h : NoP W po) (x : P2) (acc : Int) (y : Vl) (has : Bool) : Calls Try.prog 16 #[.pointer po, .agg #[.int .u8 x.n, .int .u16 x.l], .slice none 0 0, .int .u64 acc, .agg y.cs, .bool has] W fun e W' => e = .returned (.tuple #[]) ∧ Below W.heap.size W W' := by
  obtain ⟨k, hk⟩ : ∃ k, W.heap.size = k := ⟨_, rfl⟩
  obtain ⟨w1, hw1⟩ : ∃ z, W.alloc (.cells #[.int .u8 x.n, .int .u16 x.l] 54) = z := ⟨_, rfl⟩
  have b1 : Below W.heap.size W w1 := by rw [← hw1]; exact (Below.refl _ _).alloc (Nat.le_refl _) _
  have s1 : w1.heap.size = k + 1 := by rw [← hw1]; simp [hk]
  obtain ⟨w2, hw2⟩ : ∃ z, w1.alloc (.cells y.cs 32) = z := ⟨_, rfl⟩
  have b2 : Below W.heap.size W w2 := by rw [← hw2]; exact b1.alloc b1.size _
  have K1 := Lib.hid (inN w2 po (h.below b2) 0)
  have B2 := Lib.hid b2
  have HW1 := Lib.hid hw1
  have HW2 := Lib.hid hw2
  have HS1 := Lib.hid s1
  have HK := Lib.hid hk
  clear h hw1 b1 hw2 b2 s1 hk
  go_enter Try.func16, Try.ntmps16
  go_wp2_with (first
    | (rw [HW2.out, HS1.out])
    | (rw [HW1.out])
    | (go_at_call 30; refine K1.out.mono ?_; rintro e w ⟨rfl, rfl⟩))
  refine bodyPost_ret (results_none rfl _ _ _) rfl ?_
  exact ⟨rfl, B2.out⟩
set_option maxRecDepth 100000 in
set_option maxHeartbeats 2000000 in
theorem propN (W : World) (po : Option Addr) (h : NoP W po) (wv : Value) : Calls Try.prog 18 #[.pointer po, wv] W fun e W' => e = .returned (.tuple #[.agg #[.slice none 0 0, .slice none 0 0], .bool false]) ∧ Below W.heap.size W W' := by
  obtain ⟨k, hk⟩ : ∃ k, W.heap.size = k := ⟨_, rfl⟩
  obtain ⟨w1, hw1⟩ : ∃ z, W.alloc (.cells #[.slice none 0 0, .slice none 0 0] 32) = z := ⟨_, rfl⟩
  have b1 : Below W.heap.size W w1 := by rw [← hw1]; exact (Below.refl _ _).alloc (Nat.le_refl _) _
  have r1 : w1.heap[k]? = some (.cells #[.slice none 0 0, .slice none 0 0] 32 (0, 0)) := by rw [← hw1, ← hk]; exact heap_alloc_new _ _
  have K1 := Lib.hid (readyN w1 po (h.below b1))
  obtain ⟨w2, hw2⟩ : ∃ z, w1.setRow k #[.slice none 0 0, .slice none 0 0] = z := ⟨_, rfl⟩
  have R2 : Hid (w2.heap[k]? = some (.cells #[.slice none 0 0, .slice none 0 0] 32 (0, 0))) := Lib.hid (by rw [← hw2]; exact setRow_heapG _ _ _ _ _ _ r1)
  have B2 : Hid (Below W.heap.size W w2) := Lib.hid (b1.trans (by rw [← hw2, hk]; exact (KP.setRow (S := fun j => j = k) w1 k _ rfl).below (Nat.le_of_lt (heap_lt r1)) fun j hj => Nat.le_of_eq hj.symm))
  have R1 := Lib.hid r1
  have HW1 := Lib.hid hw1
  have HW2 := Lib.hid hw2
  have HK := Lib.hid hk
  clear h hw1 b1 r1 hw2 hk
  go_enter Try.func18, Try.ntmps18
  go_wp2_with (first
    | (rw [HW1.out, HK.out])
    | (go_at_call 17; refine K1.out.mono ?_; rintro e w ⟨rfl, rfl⟩)
    | (refine wpList_store_row rfl 32 (.tmp 4) (.tmp 9) rfl k #[.slice none 0 0, .slice none 0 0] (by rfl) (by rfl) 32 _ R1.out (by kernel_rfl) rfl (by simp [Value.oneCell']) ?_; rw [HW2.out]))
  refine bodyPost_ret (v := .tuple #[.agg #[.slice none 0 0, .slice none 0 0], .bool false]) (by
    have c0 := cell_of R2.out 0 (.slice none 0 0) rfl
    have c1 := cell_of R2.out 1 (.slice none 0 0) rfl
    simp [results, Try.results18, go_sem]
    try go_simp) rfl ⟨rfl, B2.out⟩
set_option maxRecDepth 100000 in
set_option maxHeartbeats 2000000 in
theorem valueN (W : World) (po : Option Addr) (h : NoP W po) : Calls Try.prog 9 #[.pointer po] W fun e W' => e = .returned (.agg #[.slice none 0 0, .slice none 0 0]) ∧ Below W.heap.size W W' := by
  obtain ⟨k, hk⟩ : ∃ k, W.heap.size = k := ⟨_, rfl⟩
  obtain ⟨w1, hw1⟩ : ∃ z, W.alloc (.cells #[.slice none 0 0, .slice none 0 0] 32) = z := ⟨_, rfl⟩
  have b1 : Below W.heap.size W w1 := by rw [← hw1]; exact (Below.refl _ _).alloc (Nat.le_refl _) _
  have r1 : w1.heap[k]? = some (.cells #[.slice none 0 0, .slice none 0 0] 32 (0, 0)) := by rw [← hw1, ← hk]; exact heap_alloc_new _ _
  have K1 := Lib.hid (madeN w1 po (h.below b1))
  obtain ⟨w2, hw2⟩ : ∃ z, w1.setRow k #[.slice none 0 0, .slice none 0 0] = z := ⟨_, rfl⟩
  have R2 : Hid (w2.heap[k]? = some (.cells #[.slice none 0 0, .slice none 0 0] 32 (0, 0))) := Lib.hid (by rw [← hw2]; exact setRow_heapG _ _ _ _ _ _ r1)
  have B2 : Hid (Below W.heap.size W w2) := Lib.hid (b1.trans (by rw [← hw2, hk]; exact (KP.setRow (S := fun j => j = k) w1 k _ rfl).below (Nat.le_of_lt (heap_lt r1)) fun j hj => Nat.le_of_eq hj.symm))
  have R1 := Lib.hid r1
  have HW1 := Lib.hid hw1
  have HW2 := Lib.hid hw2
  have HK := Lib.hid hk
  clear h hw1 b1 r1 hw2 hk
  go_enter Try.func9, Try.ntmps9
  go_wp2_with (first
    | (rw [HW1.out, HK.out])
    | (go_at_call 24; refine K1.out.mono ?_; rintro e w ⟨rfl, rfl⟩)
    | (refine wpList_store_row rfl 32 (.tmp 2) (.tmp 6) rfl k #[.slice none 0 0, .slice none 0 0] (by rfl) (by rfl) 32 _ R1.out (by kernel_rfl) rfl (by simp [Value.oneCell']) ?_; rw [HW2.out]))
  refine bodyPost_ret (v := .agg #[.slice none 0 0, .slice none 0 0]) (by
    have c0 := cell_of R2.out 0 (.slice none 0 0) rfl
    have c1 := cell_of R2.out 1 (.slice none 0 0) rfl
    simp [results, Try.results9, go_sem]
    try go_simp) rfl ⟨rfl, B2.out⟩
set_option maxRecDepth 100000 in
set_option maxHeartbeats 2000000 in
theorem prepN (W : World) (po : Option Addr) (h : NoA W po) (n : Int) : Calls Try.prog 21 #[.pointer po, .int .u64 n] W fun e W' => e = .returned (.bool false) ∧ W = W' := by
  rcases h with rfl | ⟨b, rfl, x, hg, _⟩
  · exact prepNil n W
  · have c0 := cell_of hg 0 (.bool false) rfl
    clear hg
    go_enter Try.func21, Try.ntmps21
    go_wp2
    go_ret
    exact ⟨rfl, rfl⟩
theorem heldN (W : World) (po : Option Addr) (h : NoA W po) : Calls Try.prog 11 #[.pointer po] W fun e W' => ∃ x : Vl, e = .returned (.tuple #[.int .u64 0, .agg x.cs, .bool false]) ∧ x.Ok W' ∧ Below W.heap.size W W' := by
  rcases h with rfl | ⟨b, rfl, hg⟩
  · exact (heldNil W).mono fun e W' h => ⟨V0, h.1, V0.ok _, h.2⟩
  · exact (heldA W b A0 hg).mono fun e W' h => by
      obtain ⟨x, e, ok, _, hb⟩ := h
      exact ⟨x, e, ok, hb⟩
theorem accAN (W : World) (po : Option Addr) (h : NoA W po) (n : Int) (y : Vl) : Calls Try.prog 23 #[.pointer po, .int .u64 n, .agg y.cs] W fun e W' => e = .returned (.bool false) ∧ Below W.heap.size W W' := by
  obtain ⟨w1, hw1⟩ : ∃ z, W.alloc (.cells y.cs 32) = z := ⟨_, rfl⟩
  have b1 : Below W.heap.size W w1 := by rw [← hw1]; exact (Below.refl _ _).alloc (Nat.le_refl _) _
  have KPp := Lib.hid (prepN w1 po (h.below b1) n)
  have B1 := Lib.hid b1
  have HW1 := Lib.hid hw1
  clear hw1 h b1
  go_enter Try.func23, Try.ntmps23
  go_wp2_with (first
    | (rw [HW1.out])
    | (go_at_call 21; refine KPp.out.mono ?_; rintro e u ⟨rfl, rfl⟩))
  go_ret
  exact ⟨rfl, B1.out⟩

end Go.Proofs.Ytfkmodmgihadkaa
