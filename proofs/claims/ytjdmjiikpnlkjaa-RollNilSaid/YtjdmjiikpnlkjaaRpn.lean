/-
  No order, and one that nobody made: every call, by exact answers. No condition.
-/
import Derived.Test.YtjdmjiikpnlkjaaRob
import Derived.Deep.MidRow
namespace Go.Proofs.Ytjdmjiikpnlkjaa
set_option linter.unusedSimpArgs false
set_option linter.unusedVariables false
open Go.RowKit Go.Maps Go.Sort
open V (P2)

/-- no order, or one that nobody made. -/
def NoR (W : World) (po : Option Addr) : Prop := po = none ∨ ∃ b, po = some ⟨b, 0, none⟩ ∧ W.heap[b]? = some (.cells #[.int .u8 0, .int .u32 0, .slice none 0 0, .int .u8 0, .int .u16 0, .slice none 0 0, .int .i64 0, .int .i64 0, .bool false, .map none] 81 (0, 0))
theorem NoR.below {W W' : World} {po : Option Addr} (h : NoR W po) (hb : Below W.heap.size W W') : NoR W' po := by
  rcases h with h | ⟨b, e, hg⟩
  · exact .inl h
  · exact .inr ⟨b, e, (hb.block b (Array.getElem?_eq_some_iff.1 hg).1).trans hg⟩
theorem neqMapR (W : World) (r : Option Nat) : (binOp .neq 79 (.map r) (.map none)).run Try.prog W = .ok (.bool (!r.isNone)) W := by
  cases r <;> kernel_rfl
set_option maxRecDepth 100000 in
set_option maxHeartbeats 2000000 in
theorem madeZ (W : World) (po : Option Addr) (h : NoR W po) : Calls Try.prog 32 #[.pointer po] W fun e W' => e = .returned (.bool false) ∧ W = W' := by
  have hm := neqMapR
  rcases h with rfl | ⟨b, rfl, hg⟩
  · go_enter Try.func32, Try.ntmps32
    go_wp2
    go_ret
    exact ⟨rfl, rfl⟩
  · have c5 := cell_of hg 9 (.map none) rfl
    clear hg
    go_enter Try.func32, Try.ntmps32
    go_wp2
    go_ret
    exact ⟨rfl, rfl⟩
set_option maxRecDepth 100000 in
set_option maxHeartbeats 2000000 in
theorem leadsZ (W : World) (po : Option Addr) (h : NoR W po) : Calls Try.prog 38 #[.pointer po] W fun e W' => e = .returned (.bool false) ∧ Below W.heap.size W W' := by
  have KM : Hid (∀ dd os, Calls Try.prog 32 #[.pointer po] (grow (redrawn W dd) os) fun e w' => e = .returned (.bool false) ∧ Below (grow (redrawn W dd) os).heap.size (grow (redrawn W dd) os) w') := Lib.hid fun dd os => (madeZ _ po (h.below (below_regrown W dd os))).mono fun e w' h => ⟨h.1, h.2 ▸ Below.refl _ _⟩
  clear h
  go_enter Try.func38, Try.ntmps38
  go_wp2_with fail
  refine wp_region_quiet_below (by kernel_rfl) (by kernel_rfl) ?_
  repeat (go_big_quiet_step (first | (go_at_call 32; exact Calls.regrown_of (KM.out _ _)) | fail))
  refine wpQuiet_nil ?_
  rintro W9 ⟨p9, rfl⟩
  have B9 := Lib.hid (below_regrown W p9.d p9.os)
  generalize grow (redrawn W p9.d) p9.os = W9 at *
  go_wp2_with fail
  go_ret
  exact ⟨rfl, B9.out⟩
set_option maxRecDepth 100000 in
set_option maxHeartbeats 2000000 in
theorem shutZ (W : World) (po : Option Addr) (h : NoR W po) : Calls Try.prog 11 #[.pointer po] W fun e W' => e = .returned (.tuple #[]) ∧ Below W.heap.size W W' := by
  have K1 := Lib.hid (madeZ W po h)
  have K2 : Hid (Below W.heap.size W W) := Lib.hid (Below.refl _ _)
  clear h
  go_enter Try.func11, Try.ntmps11
  go_wp2_with (go_at_call 32; refine K1.out.mono ?_; rintro e w ⟨rfl, rfl⟩)
  exact bodyPost_end (results_none rfl _ _ _) rfl ⟨rfl, K2.out⟩
set_option maxRecDepth 100000 in
set_option maxHeartbeats 2000000 in
theorem openZ (W : World) (po : Option Addr) (h : NoR W po) : Calls Try.prog 29 #[.pointer po] W fun e W' => e = .returned (.bool false) ∧ Below W.heap.size W W' := by
  have K1 := Lib.hid (madeZ W po h)
  have K2 : Hid (Below W.heap.size W W) := Lib.hid (Below.refl _ _)
  clear h
  go_enter Try.func29, Try.ntmps29
  go_wp2_with (go_at_call 32; refine K1.out.mono ?_; rintro e w ⟨rfl, rfl⟩)
  go_ret
  exact ⟨rfl, K2.out⟩
set_option maxRecDepth 100000 in
set_option maxHeartbeats 2000000 in
theorem lenZ (W : World) (po : Option Addr) (h : NoR W po) : Calls Try.prog 21 #[.pointer po] W fun e W' => e = .returned (.int .i64 0) ∧ Below W.heap.size W W' := by
  have K1 := Lib.hid (madeZ W po h)
  have K2 : Hid (Below W.heap.size W W) := Lib.hid (Below.refl _ _)
  clear h
  go_enter Try.func21, Try.ntmps21
  go_wp2_with (go_at_call 32; refine K1.out.mono ?_; rintro e w ⟨rfl, rfl⟩)
  go_ret
  exact ⟨rfl, K2.out⟩
set_option maxRecDepth 100000 in
set_option maxHeartbeats 2000000 in
theorem baseZ (W : World) (po : Option Addr) (h : NoR W po) : Calls Try.prog 28 #[.pointer po] W fun e W' => e = .returned (.int .i64 0) ∧ Below W.heap.size W W' := by
  have K1 := Lib.hid (madeZ W po h)
  have K2 : Hid (Below W.heap.size W W) := Lib.hid (Below.refl _ _)
  clear h
  go_enter Try.func28, Try.ntmps28
  go_wp2_with (go_at_call 32; refine K1.out.mono ?_; rintro e w ⟨rfl, rfl⟩)
  go_ret
  exact ⟨rfl, K2.out⟩
set_option maxRecDepth 100000 in
set_option maxHeartbeats 2000000 in
theorem commitZ (W : World) (po : Option Addr) (h : NoR W po) : Calls Try.prog 13 #[.pointer po] W fun e W' => e = .returned (.int .i64 0) ∧ Below W.heap.size W W' := by
  have K1 := Lib.hid (madeZ W po h)
  have K2 : Hid (Below W.heap.size W W) := Lib.hid (Below.refl _ _)
  clear h
  go_enter Try.func13, Try.ntmps13
  go_wp2_with (go_at_call 32; refine K1.out.mono ?_; rintro e w ⟨rfl, rfl⟩)
  go_ret
  exact ⟨rfl, K2.out⟩
set_option maxRecDepth 100000 in
set_option maxHeartbeats 2000000 in
theorem logZ (W : World) (po : Option Addr) (h : NoR W po) : Calls Try.prog 27 #[.pointer po] W fun e W' => e = .returned (.slice none 0 0) ∧ Below W.heap.size W W' := by
  have K1 := Lib.hid (madeZ W po h)
  have K2 : Hid (Below W.heap.size W W) := Lib.hid (Below.refl _ _)
  clear h
  go_enter Try.func27, Try.ntmps27
  go_wp2_with (go_at_call 32; refine K1.out.mono ?_; rintro e w ⟨rfl, rfl⟩)
  go_ret
  exact ⟨rfl, K2.out⟩
set_option maxRecDepth 100000 in
set_option maxHeartbeats 2000000 in
theorem tailZ (W : World) (po : Option Addr) (h : NoR W po) : Calls Try.prog 12 #[.pointer po] W fun e W' => e = .returned (.slice none 0 0) ∧ Below W.heap.size W W' := by
  have K1 := Lib.hid (madeZ W po h)
  have K2 : Hid (Below W.heap.size W W) := Lib.hid (Below.refl _ _)
  clear h
  go_enter Try.func12, Try.ntmps12
  go_wp2_with (go_at_call 32; refine K1.out.mono ?_; rintro e w ⟨rfl, rfl⟩)
  go_ret
  exact ⟨rfl, K2.out⟩
set_option maxRecDepth 100000 in
set_option maxHeartbeats 2000000 in
theorem takeZ (W : World) (po : Option Addr) (h : NoR W po) (fr co : Int) (v : Value) : Calls Try.prog 20 #[.pointer po, .int .i64 fr, v, .int .i64 co] W fun e W' => e = .returned (.bool false) ∧ Below W.heap.size W W' := by
  have K1 := Lib.hid (madeZ W po h)
  have K2 : Hid (Below W.heap.size W W) := Lib.hid (Below.refl _ _)
  clear h
  go_enter Try.func20, Try.ntmps20
  go_wp2_with (go_at_call 32; refine K1.out.mono ?_; rintro e w ⟨rfl, rfl⟩)
  go_ret
  exact ⟨rfl, K2.out⟩
set_option maxRecDepth 100000 in
set_option maxHeartbeats 2000000 in
theorem ackedZ (W : World) (po : Option Addr) (h : NoR W po) (x : P2) (u : Int) : Calls Try.prog 23 #[.pointer po, .agg #[.int .u8 x.n, .int .u16 x.l], .int .i64 u] W fun e W' => e = .returned (.tuple #[]) ∧ Below W.heap.size W W' := by
  obtain ⟨w1, hw1⟩ : ∃ z, W.alloc (.cells #[.int .u8 x.n, .int .u16 x.l] 49) = z := ⟨_, rfl⟩
  have b1 : Below W.heap.size W w1 := by rw [← hw1]; exact (Below.refl _ _).alloc (Nat.le_refl _) _
  have KL : Hid (∀ dd os, Calls Try.prog 38 #[.pointer po] (grow (redrawn w1 dd) os) fun e w' => e = .returned (.bool false) ∧ Below (grow (redrawn w1 dd) os).heap.size (grow (redrawn w1 dd) os) w') := Lib.hid fun dd os => leadsZ _ po ((h.below b1).below (below_regrown w1 dd os))
  have B1 := Lib.hid b1
  have HW1 := Lib.hid hw1
  clear h hw1 b1
  go_enter Try.func23, Try.ntmps23
  go_wp2_with (rw [HW1.out])
  refine wp_region_quiet_below (by kernel_rfl) (by kernel_rfl) ?_
  repeat (go_big_quiet_step (first | (go_at_call 38; exact Calls.regrown_of (KL.out _ _)) | fail))
  refine wpQuiet_nil ?_
  rintro W9 ⟨p9, rfl⟩
  have B9 := Lib.hid (B1.out.trans ((below_regrown w1 p9.d p9.os).mono B1.out.size))
  generalize grow (redrawn w1 p9.d) p9.os = W9 at *
  go_wp2_with fail
  refine bodyPost_ret (results_none rfl _ _ _) rfl ?_
  exact ⟨rfl, B9.out⟩
set_option maxRecDepth 100000 in
set_option maxHeartbeats 2000000 in
theorem sinceZ (W : World) (po : Option Addr) (h : NoR W po) (x : P2) (u : Int) : Calls Try.prog 25 #[.pointer po, .agg #[.int .u8 x.n, .int .u16 x.l], .int .i64 u] W fun e W' => e = .returned (.tuple #[.int .i64 0, .slice none 0 0]) ∧ Below W.heap.size W W' := by
  obtain ⟨w1, hw1⟩ : ∃ z, W.alloc (.cells #[.int .u8 x.n, .int .u16 x.l] 49) = z := ⟨_, rfl⟩
  have b1 : Below W.heap.size W w1 := by rw [← hw1]; exact (Below.refl _ _).alloc (Nat.le_refl _) _
  have KL : Hid (∀ dd os, Calls Try.prog 38 #[.pointer po] (grow (redrawn w1 dd) os) fun e w' => e = .returned (.bool false) ∧ Below (grow (redrawn w1 dd) os).heap.size (grow (redrawn w1 dd) os) w') := Lib.hid fun dd os => leadsZ _ po ((h.below b1).below (below_regrown w1 dd os))
  have B1 := Lib.hid b1
  have HW1 := Lib.hid hw1
  clear h hw1 b1
  go_enter Try.func25, Try.ntmps25
  go_wp2_with (rw [HW1.out])
  refine wp_region_quiet_below (by kernel_rfl) (by kernel_rfl) ?_
  repeat (go_big_quiet_step (first | (go_at_call 38; exact Calls.regrown_of (KL.out _ _)) | fail))
  refine wpQuiet_nil ?_
  rintro W9 ⟨p9, rfl⟩
  have B9 := Lib.hid (B1.out.trans ((below_regrown w1 p9.d p9.os).mono B1.out.size))
  generalize grow (redrawn w1 p9.d) p9.os = W9 at *
  go_wp2_with fail
  go_ret2
  exact ⟨rfl, B9.out⟩
set_option maxRecDepth 100000 in
set_option maxHeartbeats 2000000 in
theorem addZ (W : World) (po : Option Addr) (h : NoR W po) (e : Le) : Calls Try.prog 17 #[.pointer po, .agg e.cs] W fun e W' => e = .returned (.int .i64 1) ∧ Below W.heap.size W W' := by
  obtain ⟨w1, hw1⟩ : ∃ z, W.alloc (.cells e.cs 63) = z := ⟨_, rfl⟩
  have b1 : Below W.heap.size W w1 := by rw [← hw1]; exact (Below.refl _ _).alloc (Nat.le_refl _) _
  have KL : Hid (∀ dd os, Calls Try.prog 38 #[.pointer po] (grow (redrawn w1 dd) os) fun e w' => e = .returned (.bool false) ∧ Below (grow (redrawn w1 dd) os).heap.size (grow (redrawn w1 dd) os) w') := Lib.hid fun dd os => leadsZ _ po ((h.below b1).below (below_regrown w1 dd os))
  have B1 := Lib.hid b1
  have HW1 := Lib.hid hw1
  clear h hw1 b1
  go_enter Try.func17, Try.ntmps17
  go_wp2_with (rw [HW1.out])
  refine wp_region_quiet_below (by kernel_rfl) (by kernel_rfl) ?_
  repeat (go_big_quiet_step (first | (go_at_call 38; exact Calls.regrown_of (KL.out _ _)) | fail))
  refine wpQuiet_nil ?_
  rintro W9 ⟨p9, rfl⟩
  have B9 := Lib.hid (B1.out.trans ((below_regrown w1 p9.d p9.os).mono B1.out.size))
  generalize grow (redrawn w1 p9.d) p9.os = W9 at *
  go_wp2_with fail
  go_ret
  exact ⟨rfl, B9.out⟩

end Go.Proofs.Ytjdmjiikpnlkjaa
