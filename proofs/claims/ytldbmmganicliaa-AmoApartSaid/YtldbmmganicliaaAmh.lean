/-
  No table, and one that nobody made: every call, by exact answers. Condition: it is one of these two.
-/
import Derived.Test.YtldbmmganicliaaAmb
import Derived.Test.YtldbmmganicliaaAdr
import Derived.Test.YtldbmmganicliaaAdn
namespace Go.Proofs.Ytldbmmganicliaa
set_option linter.unusedSimpArgs false
set_option linter.unusedVariables false
open Go.RowKit Go.Maps Go.Sort

/-- no table, or one that nobody made. -/
def NoT (W : World) (v : Value) : Prop := v = .pointer none ∨ ∃ z, v = .pointer (some ⟨z, 0, none⟩) ∧ W.heap[z]? = some (.cells #[.int .u32 0, .map none, .map none] 85 (0, 0))
theorem NoT.below {W W' : World} {B : Nat} {v : Value} (h : NoT W v) (hB : W.heap.size ≤ B) (hb : Below B W W') : NoT W' v := by
  rcases h with h | ⟨z, h, hz⟩
  · exact .inl h
  · exact .inr ⟨z, h, (hb.block z (Nat.lt_of_lt_of_le (bltA hz) hB)).trans hz⟩
set_option maxRecDepth 100000 in
set_option maxHeartbeats 2000000 in
theorem nMade (W : World) (v : Value) (h : NoT W v) : Calls Try.prog 35 #[v] W fun e W' => e = .returned (.bool false) ∧ W = W' := by
  have hm := neqMapA
  rcases h with rfl | ⟨z, rfl, hz⟩
  · go_enter Try.func35, Try.ntmps35
    go_wp2
    go_ret
    exact ⟨rfl, rfl⟩
  · have c1 := cell_of hz 1 (.map none) rfl
    go_enter Try.func35, Try.ntmps35
    go_wp2
    go_ret
    exact ⟨rfl, rfl⟩
set_option maxRecDepth 100000 in
set_option maxHeartbeats 4000000 in
theorem nState (W : World) (v : Value) (h : NoT W v) (x : I10) :
    Calls Try.prog 23 #[v, .agg #[.int .u8 x.n, .int .u16 x.l, .int .u32 x.s, .int .u8 x.d, .int .u8 x.a0, .int .u8 x.a1, .int .u8 x.b0, .int .u8 x.b1, .int .u8 x.c0, .int .u8 x.c1]] W fun e W' => e = .returned (.int .i64 3) ∧ Below W.heap.size W W' := by
  have KM : Hid (∀ w, Below W.heap.size W w → Calls Try.prog 35 #[v] w fun e W' => e = .returned (.bool false) ∧ w = W') := Lib.hid fun w hw => nMade w v (h.below (Nat.le_refl _) hw)
  clear h
  go_enter Try.func23, Try.ntmps23
  go_wp2_with (first | (go_at_call 35; refine (KM.out _ (by repeat (first | (with_reducible exact Below.refl _ _) | (with_reducible refine Below.alloc ?_ (by first | (simp; done) | (simp; omega)) _)))).mono ?_; rintro e w1 ⟨rfl, rfl⟩) | fail)
  go_ret
  exact ⟨rfl, by repeat (first | (with_reducible exact Below.refl _ _) | (with_reducible refine Below.alloc ?_ (by first | (simp; done) | (simp; omega)) _))⟩
set_option maxRecDepth 100000 in
set_option maxHeartbeats 4000000 in
theorem nBegin (W : World) (v : Value) (h : NoT W v) (x : I10) :
    Calls Try.prog 12 #[v, .agg #[.int .u8 x.n, .int .u16 x.l, .int .u32 x.s, .int .u8 x.d, .int .u8 x.a0, .int .u8 x.a1, .int .u8 x.b0, .int .u8 x.b1, .int .u8 x.c0, .int .u8 x.c1]] W fun e W' => e = .returned (.int .i64 1) ∧ Below W.heap.size W W' := by
  have KM : Hid (∀ w, Below W.heap.size W w → Calls Try.prog 35 #[v] w fun e W' => e = .returned (.bool false) ∧ w = W') := Lib.hid fun w hw => nMade w v (h.below (Nat.le_refl _) hw)
  clear h
  go_enter Try.func12, Try.ntmps12
  go_wp2_with (first | (go_at_call 35; refine (KM.out _ (by repeat (first | (with_reducible exact Below.refl _ _) | (with_reducible refine Below.alloc ?_ (by first | (simp; done) | (simp; omega)) _)))).mono ?_; rintro e w1 ⟨rfl, rfl⟩) | fail)
  go_ret
  exact ⟨rfl, by repeat (first | (with_reducible exact Below.refl _ _) | (with_reducible refine Below.alloc ?_ (by first | (simp; done) | (simp; omega)) _))⟩
set_option maxRecDepth 100000 in
set_option maxHeartbeats 4000000 in
theorem nFloor (W : World) (v : Value) (h : NoT W v) (n l : Int) :
    Calls Try.prog 25 #[v, .agg #[.int .u8 n, .int .u16 l]] W fun e W' => e = .returned (.int .u32 0) ∧ Below W.heap.size W W' := by
  have KM : Hid (∀ w, Below W.heap.size W w → Calls Try.prog 35 #[v] w fun e W' => e = .returned (.bool false) ∧ w = W') := Lib.hid fun w hw => nMade w v (h.below (Nat.le_refl _) hw)
  clear h
  go_enter Try.func25, Try.ntmps25
  go_wp2_with (first | (go_at_call 35; refine (KM.out _ (by repeat (first | (with_reducible exact Below.refl _ _) | (with_reducible refine Below.alloc ?_ (by first | (simp; done) | (simp; omega)) _)))).mono ?_; rintro e w1 ⟨rfl, rfl⟩) | fail)
  go_ret
  exact ⟨rfl, by repeat (first | (with_reducible exact Below.refl _ _) | (with_reducible refine Below.alloc ?_ (by first | (simp; done) | (simp; omega)) _))⟩
set_option maxRecDepth 100000 in
set_option maxHeartbeats 4000000 in
theorem nLen (W : World) (v : Value) (h : NoT W v) :
    Calls Try.prog 27 #[v] W fun e W' => e = .returned (.int .i64 0) ∧ Below W.heap.size W W' := by
  have KM : Hid (∀ w, Below W.heap.size W w → Calls Try.prog 35 #[v] w fun e W' => e = .returned (.bool false) ∧ w = W') := Lib.hid fun w hw => nMade w v (h.below (Nat.le_refl _) hw)
  clear h
  go_enter Try.func27, Try.ntmps27
  go_wp2_with (first | (go_at_call 35; refine (KM.out _ (by repeat (first | (with_reducible exact Below.refl _ _) | (with_reducible refine Below.alloc ?_ (by first | (simp; done) | (simp; omega)) _)))).mono ?_; rintro e w1 ⟨rfl, rfl⟩) | fail)
  go_ret
  exact ⟨rfl, by repeat (first | (with_reducible exact Below.refl _ _) | (with_reducible refine Below.alloc ?_ (by first | (simp; done) | (simp; omega)) _))⟩
set_option maxRecDepth 100000 in
set_option maxHeartbeats 4000000 in
theorem nAll (W : World) (v : Value) (h : NoT W v) :
    Calls Try.prog 29 #[v] W fun e W' => e = .returned (.slice none 0 0) ∧ Below W.heap.size W W' := by
  have KM : Hid (∀ w, Below W.heap.size W w → Calls Try.prog 35 #[v] w fun e W' => e = .returned (.bool false) ∧ w = W') := Lib.hid fun w hw => nMade w v (h.below (Nat.le_refl _) hw)
  clear h
  go_enter Try.func29, Try.ntmps29
  go_wp2_with (first | (go_at_call 35; refine (KM.out _ (by repeat (first | (with_reducible exact Below.refl _ _) | (with_reducible refine Below.alloc ?_ (by first | (simp; done) | (simp; omega)) _)))).mono ?_; rintro e w1 ⟨rfl, rfl⟩) | fail)
  go_ret
  exact ⟨rfl, by repeat (first | (with_reducible exact Below.refl _ _) | (with_reducible refine Below.alloc ?_ (by first | (simp; done) | (simp; omega)) _))⟩
set_option maxRecDepth 100000 in
set_option maxHeartbeats 4000000 in
theorem nClone (W : World) (v : Value) (h : NoT W v) :
    Calls Try.prog 19 #[v] W fun e W' => e = .returned (.pointer none) ∧ Below W.heap.size W W' := by
  have KM : Hid (∀ w, Below W.heap.size W w → Calls Try.prog 35 #[v] w fun e W' => e = .returned (.bool false) ∧ w = W') := Lib.hid fun w hw => nMade w v (h.below (Nat.le_refl _) hw)
  clear h
  go_enter Try.func19, Try.ntmps19
  go_wp2_with (first | (go_at_call 35; refine (KM.out _ (by repeat (first | (with_reducible exact Below.refl _ _) | (with_reducible refine Below.alloc ?_ (by first | (simp; done) | (simp; omega)) _)))).mono ?_; rintro e w1 ⟨rfl, rfl⟩) | fail)
  go_ret
  exact ⟨rfl, by repeat (first | (with_reducible exact Below.refl _ _) | (with_reducible refine Below.alloc ?_ (by first | (simp; done) | (simp; omega)) _))⟩
set_option maxRecDepth 100000 in
set_option maxHeartbeats 4000000 in
theorem nEnd (W : World) (v : Value) (h : NoT W v) (x : I10) (code : Int) (val : ByteArray) :
    Calls Try.prog 14 #[v, .agg #[.int .u8 x.n, .int .u16 x.l, .int .u32 x.s, .int .u8 x.d, .int .u8 x.a0, .int .u8 x.a1, .int .u8 x.b0, .int .u8 x.b1, .int .u8 x.c0, .int .u8 x.c1], .agg #[.int .u8 code, .string val]] W fun e W' => e = .returned (.bool false) ∧ Below W.heap.size W W' := by
  have KM : Hid (∀ w, Below W.heap.size W w → Calls Try.prog 35 #[v] w fun e W' => e = .returned (.bool false) ∧ w = W') := Lib.hid fun w hw => nMade w v (h.below (Nat.le_refl _) hw)
  have KS : Hid (∀ w, Below W.heap.size W w → Calls Try.prog 23 #[v, .agg #[.int .u8 x.n, .int .u16 x.l, .int .u32 x.s, .int .u8 x.d, .int .u8 x.a0, .int .u8 x.a1, .int .u8 x.b0, .int .u8 x.b1, .int .u8 x.c0, .int .u8 x.c1]] w fun e W' => e = .returned (.int .i64 3) ∧ Below w.heap.size w W') := Lib.hid fun w hw => nState w v (h.below (Nat.le_refl _) hw) x
  clear h
  go_enter Try.func14, Try.ntmps14
  go_wp2_with (first | (go_at_call 35; refine (KM.out _ (by repeat (first | (with_reducible exact Below.refl _ _) | (with_reducible refine Below.alloc ?_ (by first | (simp; done) | (simp; omega)) _)))).mono ?_; rintro e w1 ⟨rfl, rfl⟩) | (go_at_call 23; obtain ⟨wz, hwz⟩ : ∃ z, (W.alloc (.cells #[.int .u8 x.n, .int .u16 x.l, .int .u32 x.s, .int .u8 x.d, .int .u8 x.a0, .int .u8 x.a1, .int .u8 x.b0, .int .u8 x.b1, .int .u8 x.c0, .int .u8 x.c1] 37)).alloc (.cells #[.int .u8 code, .string val] 53) = z := ⟨_, rfl⟩; have bz : Below W.heap.size W wz := (by rw [← hwz]; exact ((Below.refl _ _).alloc (Nat.le_refl _) _).alloc (by simp) _); rw [hwz]; refine (KS.out wz bz).mono ?_; rintro e w2 ⟨rfl, b2⟩; have BZ := Lib.hid (bz.trans (b2.mono bz.size)); clear b2) | fail)
  go_ret
  exact ⟨rfl, BZ.out⟩
set_option maxRecDepth 100000 in
set_option maxHeartbeats 4000000 in
theorem nRes (W : World) (v : Value) (h : NoT W v) (x : I10) :
    Calls Try.prog 20 #[v, .agg #[.int .u8 x.n, .int .u16 x.l, .int .u32 x.s, .int .u8 x.d, .int .u8 x.a0, .int .u8 x.a1, .int .u8 x.b0, .int .u8 x.b1, .int .u8 x.c0, .int .u8 x.c1]] W fun e W' => e = .returned (.tuple #[.agg #[.int .u8 0, .string ⟨#[]⟩], .bool false]) ∧ Below W.heap.size W W' := by
  obtain ⟨W1, hW1⟩ : ∃ z, W.alloc (.cells #[.int .u8 x.n, .int .u16 x.l, .int .u32 x.s, .int .u8 x.d, .int .u8 x.a0, .int .u8 x.a1, .int .u8 x.b0, .int .u8 x.b1, .int .u8 x.c0, .int .u8 x.c1] 37) = z := ⟨_, rfl⟩
  have b1 : Below W.heap.size W W1 := by rw [← hW1]; exact (Below.refl _ _).alloc (Nat.le_refl _) _
  obtain ⟨kx, hkx⟩ : ∃ z, W.heap.size = z := ⟨_, rfl⟩
  have R1 : W1.heap[kx]? = some (.cells #[.int .u8 x.n, .int .u16 x.l, .int .u32 x.s, .int .u8 x.d, .int .u8 x.a0, .int .u8 x.a1, .int .u8 x.b0, .int .u8 x.b1, .int .u8 x.c0, .int .u8 x.c1] 37 (0, 0)) := by rw [← hW1, ← hkx]; exact heap_alloc_new _ _
  obtain ⟨W2, hW2⟩ : ∃ z, W1.alloc (.cells #[.int .u8 0, .string ⟨#[]⟩] 53) = z := ⟨_, rfl⟩
  have hs1 : W1.heap.size = kx + 1 := by rw [← hW1, World.size_alloc, hkx]
  have b12 : Below W1.heap.size W1 W2 := by rw [← hW2]; exact (Below.refl _ _).alloc (Nat.le_refl _) _
  have R2 : W2.heap[kx + 1]? = some (.cells #[.int .u8 0, .string ⟨#[]⟩] 53 (0, 0)) := by rw [← hW2, ← hs1]; exact heap_alloc_new _ _
  have b2 : Below kx W W2 := (hkx ▸ b1 : Below kx W W1).trans (b12.mono (by omega))
  have KM := Lib.hid (nMade W2 v (h.below (by omega) b2))
  have BK := Lib.hid b2
  have HY := Lib.hid R2
  have HW1 := Lib.hid hW1
  have HW2 := Lib.hid hW2
  have HKX := Lib.hid hkx
  have HS1 := Lib.hid hs1
  clear h b1 b12 b2 hW1 hW2 R1 R2 hs1
  rw [hkx]
  go_enter Try.func20, Try.ntmps20
  go_wp2_with (first | rw [HW1.out, HKX.out] | (go_at_call 35; rw [HW1.out, HW2.out]; refine KM.out.mono ?_; rintro e w1 ⟨rfl, rfl⟩) | (refine wpList_store_row rfl 53 (.tmp 4) (.tmp 10) rfl (kx + 1) #[.int .u8 0, .string ⟨#[]⟩] (by rfl) (by rfl) 53 #[.int .u8 0, .string ⟨#[]⟩] HY.out (by kernel_rfl) rfl (by simp [Value.oneCell']) ?_) | fail)
  exact bodyPost_ret (v := .tuple #[.agg #[.int .u8 0, .string ⟨#[]⟩], .bool false]) (results_cell2_rowA (p := 4) (u := 5) (ty := 53) rfl _ _ (kx + 1) 53 _ (0, 0) _ (by rfl) (setRow_heap _ _ _ _ _ _ HY.out) Try.underlying53 rfl (by kernel_rfl)) rfl ⟨rfl, below_row BK.out (Nat.le_succ _) _⟩
set_option maxRecDepth 100000 in
set_option maxHeartbeats 4000000 in
theorem nSame0 (W : World) (v : Value) (h : NoT W v) :
    Calls Try.prog 31 #[v, .pointer none] W fun e W' => e = .returned (.bool true) ∧ W = W' := by
  have KM := Lib.hid (nMade W v h)
  have KN := Lib.hid (nMade W (.pointer none) (.inl rfl))
  clear h
  go_enter Try.func31, Try.ntmps31
  go_wp2_with fail
  refine KM.out.mono ?_
  rintro e w1 ⟨rfl, rfl⟩
  go_wp2_with fail
  refine KM.out.mono ?_
  rintro e w1 ⟨rfl, rfl⟩
  go_wp2_with fail
  refine KN.out.mono ?_
  rintro e w1 ⟨rfl, rfl⟩
  go_wp2_with fail
  go_ret
  exact ⟨rfl, rfl⟩
set_option maxRecDepth 100000 in
set_option maxHeartbeats 4000000 in
theorem nSame1 (W : World) (v : Value) (h : NoT W v) (b m k c : Nat) (t : Tt) (hp : PT W b m k c t) :
    Calls Try.prog 31 #[v, .pointer (some ⟨b, 0, none⟩)] W fun e W' => e = .returned (.bool false) ∧ W = W' := by
  have KM := Lib.hid (nMade W v h)
  have KN := Lib.hid (aMade W b m k c t hp)
  clear hp
  clear h
  go_enter Try.func31, Try.ntmps31
  go_wp2_with fail
  refine KM.out.mono ?_
  rintro e w1 ⟨rfl, rfl⟩
  go_wp2_with fail
  refine KM.out.mono ?_
  rintro e w1 ⟨rfl, rfl⟩
  go_wp2_with fail
  refine KN.out.mono ?_
  rintro e w1 ⟨rfl, rfl⟩
  go_wp2_with fail
  go_ret
  exact ⟨rfl, rfl⟩
set_option maxRecDepth 100000 in
set_option maxHeartbeats 4000000 in
theorem nSame2 (W : World) (v : Value) (h : NoT W v) (b m k c : Nat) (t : Tt) (hp : PT W b m k c t) :
    Calls Try.prog 31 #[.pointer (some ⟨b, 0, none⟩), v] W fun e W' => e = .returned (.bool false) ∧ W = W' := by
  have KM := Lib.hid (nMade W v h)
  have KN := Lib.hid (aMade W b m k c t hp)
  clear hp
  clear h
  go_enter Try.func31, Try.ntmps31
  go_wp2_with fail
  refine KN.out.mono ?_
  rintro e w1 ⟨rfl, rfl⟩
  go_wp2_with fail
  refine KM.out.mono ?_
  rintro e w1 ⟨rfl, rfl⟩
  go_wp2_with fail
  refine KN.out.mono ?_
  rintro e w1 ⟨rfl, rfl⟩
  go_wp2_with fail
  refine KM.out.mono ?_
  rintro e w1 ⟨rfl, rfl⟩
  go_wp2_with fail
  go_ret
  exact ⟨rfl, rfl⟩
set_option maxRecDepth 100000 in
set_option maxHeartbeats 4000000 in
theorem nRaise (W : World) (v : Value) (h : NoT W v) (n l u : Int) :
    Calls Try.prog 17 #[v, .agg #[.int .u8 n, .int .u16 l], .int .u32 u] W fun e W' => e = .returned (.tuple #[]) ∧ Below W.heap.size W W' := by
  obtain ⟨W1, hW1⟩ : ∃ z, (W.alloc (.cells #[v] 25)).alloc (.cells #[.int .u8 n, .int .u16 l] 31) = z := ⟨_, rfl⟩
  have b1 : Below W.heap.size W W1 := by rw [← hW1]; exact ((Below.refl _ _).alloc (Nat.le_refl _) _).alloc (by simp) _
  obtain ⟨kx, hkx⟩ : ∃ z, W.heap.size = z := ⟨_, rfl⟩
  have b0 : Below W.heap.size W (W.alloc (.cells #[v] 25)) := (Below.refl _ _).alloc (Nat.le_refl _) _
  have R0 : W1.heap[kx]? = some (.cells #[v] 25 (0, 0)) := by
    rw [← hW1, ← hkx]
    exact (Below.heap_alloc _ _ _ (by simp)).trans (heap_alloc_new _ _)
  have KM : Hid (∀ dd os, Calls Try.prog 35 #[v] (grow (redrawn W1 dd) os) fun e w' => e = .returned (.bool false) ∧ Below (grow (redrawn W1 dd) os).heap.size (grow (redrawn W1 dd) os) w') := Lib.hid fun dd os => (nMade _ v ((h.below (Nat.le_refl _) b1).below (Nat.le_refl _) (below_regrown W1 dd os))).mono fun e w' h => ⟨h.1, h.2 ▸ Below.refl _ _⟩
  have x0 := cell_of R0 0 v rfl
  have k0 := cell_regrown x0
  have HW1 := Lib.hid hW1
  have HKX := Lib.hid hkx
  have B1 : Hid (Below W.heap.size W W1) := Lib.hid b1
  have L1 : Hid (W.heap.size ≤ W1.heap.size) := Lib.hid b1.size
  clear b1 b0 R0 hW1 x0
  rcases h with rfl | ⟨z, rfl, hz⟩
  all_goals
    (try clear hz)
    go_enter Try.func17, Try.ntmps17
    go_wp2_with (first | rw [HW1.out, HKX.out] | fail)
    try rw [HW1.out]
    try rw [HKX.out]
    refine wp_region_quiet_below (by kernel_rfl) (by kernel_rfl) ?_
    repeat (go_big_quiet_step (first | (go_at_call 35; exact Calls.regrown_of (KM.out _ _)) | fail))
    refine wpQuiet_nil ?_
    rintro W9 ⟨p9, rfl⟩
    have B9 := Lib.hid (below_regrown W1 p9.d p9.os)
    generalize grow (redrawn W1 p9.d) p9.os = W9 at *
    clear k0
    go_wp2_with fail
    exact bodyPost_ret (results_none rfl _ _ _) rfl ⟨rfl, B1.out.trans (B9.out.mono L1.out)⟩

end Go.Proofs.Ytldbmmganicliaa
