/-
  The law's Packet: the document's packet in the program's form, by an exact answer. Condition: the body lies in memory.
-/
import Derived.Test.YtgnfclikdfllnaaJko
namespace Go.Proofs.Ytgnfclikdfllnaa
set_option linter.unusedSimpArgs false
set_option linter.unusedVariables false
open Go.RowKit Go.Maps Go.Sort

/-- what goes along: the packet that is converted, and where the answer is laid. -/
structure Going (W : World) (cs : Array Value) (X : World) : Prop where
  below : Below W.heap.size W X
  arg : X.heap[W.heap.size]? = some (.cells cs 37 (0, 0))
  res : X.heap[W.heap.size + 1]? = some (.cells #[.int .u8 0, .int .u16 0, .int .u8 0, .int .u16 0, .int .u64 0, .int .u64 0, .bool false, .slice none 0 0] 53 (0, 0))
  lt : W.heap.size + 1 < X.heap.size
theorem Going.on {W : World} {cs : Array Value} {X Y : World} (h : Going W cs X) (hb : Below X.heap.size X Y) : Going W cs Y :=
  ⟨h.below.trans (hb.mono h.below.size), (hb.block _ (Nat.lt_of_succ_lt h.lt)).trans h.arg, (hb.block _ h.lt).trans h.res, Nat.lt_of_lt_of_le h.lt hb.size⟩
theorem Going.grown {W : World} {cs : Array Value} {X Y : World} {k : Nat} (h : Going W cs X) (hg : X.grownBy Y (some k)) (hk : W.heap.size + 1 < k) : Going W cs Y :=
  ⟨h.below.grown hg h.below.size (fun j hj => by cases hj; omega), (hg.block _ (Nat.lt_of_succ_lt h.lt) (by simp; omega)).trans h.arg, (hg.block _ h.lt (by simp; omega)).trans h.res, Nat.lt_of_lt_of_le h.lt hg.size⟩
theorem two_up (w : World) (c1 c2 : Array Value) (t1 t2 : TypeId) : Below w.heap.size w ((w.alloc (.cells c1 t1)).alloc (.cells c2 t2)) := ((Below.refl _ _).alloc (Nat.le_refl _) _).alloc (by simp) _

set_option maxRecDepth 100000 in
set_option maxHeartbeats 4000000 in
theorem packO (fn fl tn tl : Int) (seq ack : Nat) (has : Bool) (body : List UInt8) (ad : Addr) (c n : Nat) (W : World) (hn : n = body.length) (hr : BytesAt W W.heap.size (some ad) body) (hl : body.length ≤ 140737488355328) :
    Calls Try.prog 20 #[.agg #[.int .u8 fn, .int .u16 fl, .int .u8 tn, .int .u16 tl, .int .u64 seq, .int .u64 ack, .bool has, .slice (some ad) n c]] W fun e W' => ∃ A2 c2, e = .returned (.agg #[.int .u8 fn, .int .u16 fl, .int .u8 tn, .int .u16 tl, .int .u64 seq, .int .u64 ack, .bool has, .slice A2 n c2]) ∧ OwnB W' 0 A2 body ∧ n ≤ c2 ∧ c2 ≤ maxLen ∧ Below W.heap.size W W' := by
  obtain ⟨A, hA⟩ : ∃ A, (some ad : Option Addr) = A := ⟨_, rfl⟩
  obtain ⟨cs, hcs⟩ : ∃ cs : Array Value, #[.int .u8 fn, .int .u16 fl, .int .u8 tn, .int .u16 tl, .int .u64 seq, .int .u64 ack, .bool has, .slice A n c] = cs := ⟨_, rfl⟩
  rw [hA]
  have HA := Lib.hid hA
  have HN := Lib.hid hn
  have HR := Lib.hid hr
  have TPQ := Lib.hid (fun a b w => toProc a b w)
  obtain ⟨W1, hW1⟩ : ∃ W1, W.alloc (.cells #[.int .u8 fn, .int .u16 fl, .int .u8 tn, .int .u16 tl, .int .u64 seq, .int .u64 ack, .bool has, .slice A n c] 37) = W1 := ⟨_, rfl⟩
  obtain ⟨W2, hW2⟩ : ∃ W2, W1.alloc (.cells #[.int .u8 0, .int .u16 0, .int .u8 0, .int .u16 0, .int .u64 0, .int .u64 0, .bool false, .slice none 0 0] 53) = W2 := ⟨_, rfl⟩
  have s1 : W1.heap.size = W.heap.size + 1 := by rw [← hW1]; simp
  have s2 : W2.heap.size = W.heap.size + 2 := by rw [← hW2]; simp [s1]
  have rA1 : W1.heap[W.heap.size]? = some (.cells cs 37 (0, 0)) := by rw [← hW1, ← hcs]; exact heap_alloc_new _ _
  have G2 : Going W cs W2 := ⟨by rw [← hW2, ← hW1]; exact two_up _ _ _ _ _, by rw [← hW2, Below.heap_alloc _ _ _ (by omega)]; exact rA1, by rw [← hW2, ← s1]; exact heap_alloc_new _ _, by omega⟩
  obtain ⟨W3, hW3⟩ : ∃ W3, W2.drew = W3 := ⟨_, rfl⟩
  have G3 : Hid (Going W cs W3) := Lib.hid (by rw [← hW3]; exact G2.on (Below.refl _ _).drew)
  have HW1 := Lib.hid hW1
  have HW2 := Lib.hid hW2
  have HW3 := Lib.hid hW3
  have S1 := Lib.hid s1
  have S2 := Lib.hid s2
  have HCS := Lib.hid hcs
  clear hA hn hr hW1 hW2 hW3 s1 s2 rA1 G2 hcs
  go_enter Try.func20, Try.ntmps20
  go_wp2
  refine region_heldT (S := fun X => X.cell? ⟨W.heap.size, 0, none⟩ = some (.int .u8 fn) ∧ X.cell? ⟨W.heap.size, 1, none⟩ = some (.int .u16 fl) ∧ X.cell? ⟨W.heap.size, 2, none⟩ = some (.int .u8 tn) ∧ X.cell? ⟨W.heap.size, 3, none⟩ = some (.int .u16 tl) ∧ X.cell? ⟨W.heap.size, 4, none⟩ = some (.int .u64 seq) ∧ X.cell? ⟨W.heap.size, 5, none⟩ = some (.int .u64 ack) ∧ X.cell? ⟨W.heap.size, 6, none⟩ = some (.bool has) ∧ X.cell? ⟨W.heap.size, 7, none⟩ = some (.slice A n c)) 16 (by kernel_rfl) (by decide) (fun inv => ?_)
  change FirstH _ _ _ _ _ _ _ _ _ _ ((W.alloc (.cells #[.int .u8 fn, .int .u16 fl, .int .u8 tn, .int .u16 tl, .int .u64 seq, .int .u64 ack, .bool has, .slice A n c] 37)).alloc (.cells #[.int .u8 0, .int .u16 0, .int .u8 0, .int .u16 0, .int .u64 0, .int .u64 0, .bool false, .slice none 0 0] 53)).drew
  rw [HW1.out, HW2.out, HW3.out]
  have HS : W3.cell? ⟨W.heap.size, 0, none⟩ = some (.int .u8 fn) ∧ W3.cell? ⟨W.heap.size, 1, none⟩ = some (.int .u16 fl) ∧ W3.cell? ⟨W.heap.size, 2, none⟩ = some (.int .u8 tn) ∧ W3.cell? ⟨W.heap.size, 3, none⟩ = some (.int .u16 tl) ∧ W3.cell? ⟨W.heap.size, 4, none⟩ = some (.int .u64 seq) ∧ W3.cell? ⟨W.heap.size, 5, none⟩ = some (.int .u64 ack) ∧ W3.cell? ⟨W.heap.size, 6, none⟩ = some (.bool has) ∧ W3.cell? ⟨W.heap.size, 7, none⟩ = some (.slice A n c) := ⟨(cell_of_row _ _ 0 _ _ _ G3.out.arg).trans (by rw [← HCS.out]; rfl), (cell_of_row _ _ 1 _ _ _ G3.out.arg).trans (by rw [← HCS.out]; rfl), (cell_of_row _ _ 2 _ _ _ G3.out.arg).trans (by rw [← HCS.out]; rfl), (cell_of_row _ _ 3 _ _ _ G3.out.arg).trans (by rw [← HCS.out]; rfl), (cell_of_row _ _ 4 _ _ _ G3.out.arg).trans (by rw [← HCS.out]; rfl), (cell_of_row _ _ 5 _ _ _ G3.out.arg).trans (by rw [← HCS.out]; rfl), (cell_of_row _ _ 6 _ _ _ G3.out.arg).trans (by rw [← HCS.out]; rfl), (cell_of_row _ _ 7 _ _ _ G3.out.arg).trans (by rw [← HCS.out]; rfl)⟩
  refine FirstH.go (i := 0) (v := .pointer (some ⟨W.heap.size, 0, none⟩)) rfl rfl _ rfl _ rfl (by kernel_rfl) (fun _ _ _ h => h) inv (fun X _ => by unfold bareO; go_simp) HS (fun inv => ?_)
  try simp only [Act.put, List.setIfInBounds_toArray, List.set_cons_zero, List.set_cons_succ]
  refine FirstH.go (i := 1) (v := .agg #[.int .u8 fn, .int .u16 fl]) rfl rfl _ rfl _ rfl (by kernel_rfl) (fun _ _ _ h => h) inv (fun X hS => by obtain ⟨l0, l1, l2, l3, l4, l5, l6, l7⟩ := hS; unfold bareO; go_simp) HS (fun inv => ?_)
  try simp only [Act.put, List.setIfInBounds_toArray, List.set_cons_zero, List.set_cons_succ]
  refine FirstH.go (i := 3) (v := .pointer (some ⟨W.heap.size, 2, none⟩)) rfl rfl _ rfl _ rfl (by kernel_rfl) (fun _ _ _ h => h) inv (fun X _ => by unfold bareO; go_simp) HS (fun inv => ?_)
  try simp only [Act.put, List.setIfInBounds_toArray, List.set_cons_zero, List.set_cons_succ]
  refine FirstH.go (i := 4) (v := .agg #[.int .u8 tn, .int .u16 tl]) rfl rfl _ rfl _ rfl (by kernel_rfl) (fun _ _ _ h => h) inv (fun X hS => by obtain ⟨l0, l1, l2, l3, l4, l5, l6, l7⟩ := hS; unfold bareO; go_simp) HS (fun inv => ?_)
  try simp only [Act.put, List.setIfInBounds_toArray, List.set_cons_zero, List.set_cons_succ]
  refine FirstH.go (i := 6) (v := .pointer (some ⟨W.heap.size, 4, none⟩)) rfl rfl _ rfl _ rfl (by kernel_rfl) (fun _ _ _ h => h) inv (fun X _ => by unfold bareO; go_simp) HS (fun inv => ?_)
  try simp only [Act.put, List.setIfInBounds_toArray, List.set_cons_zero, List.set_cons_succ]
  refine FirstH.go (i := 7) (v := .int .u64 seq) rfl rfl _ rfl _ rfl (by kernel_rfl) (fun _ _ _ h => h) inv (fun X hS => by obtain ⟨l0, l1, l2, l3, l4, l5, l6, l7⟩ := hS; unfold bareO; go_simp) HS (fun inv => ?_)
  try simp only [Act.put, List.setIfInBounds_toArray, List.set_cons_zero, List.set_cons_succ]
  refine FirstH.go (i := 8) (v := .pointer (some ⟨W.heap.size, 5, none⟩)) rfl rfl _ rfl _ rfl (by kernel_rfl) (fun _ _ _ h => h) inv (fun X _ => by unfold bareO; go_simp) HS (fun inv => ?_)
  try simp only [Act.put, List.setIfInBounds_toArray, List.set_cons_zero, List.set_cons_succ]
  refine FirstH.go (i := 9) (v := .int .u64 ack) rfl rfl _ rfl _ rfl (by kernel_rfl) (fun _ _ _ h => h) inv (fun X hS => by obtain ⟨l0, l1, l2, l3, l4, l5, l6, l7⟩ := hS; unfold bareO; go_simp) HS (fun inv => ?_)
  try simp only [Act.put, List.setIfInBounds_toArray, List.set_cons_zero, List.set_cons_succ]
  refine FirstH.go (i := 10) (v := .pointer (some ⟨W.heap.size, 6, none⟩)) rfl rfl _ rfl _ rfl (by kernel_rfl) (fun _ _ _ h => h) inv (fun X _ => by unfold bareO; go_simp) HS (fun inv => ?_)
  try simp only [Act.put, List.setIfInBounds_toArray, List.set_cons_zero, List.set_cons_succ]
  refine FirstH.go (i := 11) (v := .bool has) rfl rfl _ rfl _ rfl (by kernel_rfl) (fun _ _ _ h => h) inv (fun X hS => by obtain ⟨l0, l1, l2, l3, l4, l5, l6, l7⟩ := hS; unfold bareO; go_simp) HS (fun inv => ?_)
  try simp only [Act.put, List.setIfInBounds_toArray, List.set_cons_zero, List.set_cons_succ]
  refine FirstH.go (i := 13) (v := .pointer (some ⟨W.heap.size, 7, none⟩)) rfl rfl _ rfl _ rfl (by kernel_rfl) (fun _ _ _ h => h) inv (fun X _ => by unfold bareO; go_simp) HS (fun inv => ?_)
  try simp only [Act.put, List.setIfInBounds_toArray, List.set_cons_zero, List.set_cons_succ]
  refine FirstH.go (i := 14) (v := .slice A n c) rfl rfl _ rfl _ rfl (by kernel_rfl) (fun _ _ _ h => h) inv (fun X hS => by obtain ⟨l0, l1, l2, l3, l4, l5, l6, l7⟩ := hS; unfold bareO; go_simp) HS (fun inv => ?_)
  try simp only [Act.put, List.setIfInBounds_toArray, List.set_cons_zero, List.set_cons_succ]
  clear HS
  refine FirstH.two (i := 2) (j := 12) (by kernel_rfl) (by decide) (by decide) inv (fun inv => ?_) (fun inv => ?_)
  · refine (wpOp_call (i := 2) rfl rfl 5 rfl _ rfl 10 #[.agg #[.int .u8 fn, .int .u16 fl]] (by unfold bareO; go_simp) (TPQ.out _ _ _) ?_)
    rintro e W4 ⟨rfl, h4⟩
    have b4 : Below W3.heap.size W3 W4 := by rw [← h4]; exact two_up _ _ _ _ _
    have G4 := Lib.hid (G3.out.on b4)
    clear h4 b4
    have HS : W4.cell? ⟨W.heap.size, 0, none⟩ = some (.int .u8 fn) ∧ W4.cell? ⟨W.heap.size, 1, none⟩ = some (.int .u16 fl) ∧ W4.cell? ⟨W.heap.size, 2, none⟩ = some (.int .u8 tn) ∧ W4.cell? ⟨W.heap.size, 3, none⟩ = some (.int .u16 tl) ∧ W4.cell? ⟨W.heap.size, 4, none⟩ = some (.int .u64 seq) ∧ W4.cell? ⟨W.heap.size, 5, none⟩ = some (.int .u64 ack) ∧ W4.cell? ⟨W.heap.size, 6, none⟩ = some (.bool has) ∧ W4.cell? ⟨W.heap.size, 7, none⟩ = some (.slice A n c) := ⟨(cell_of_row _ _ 0 _ _ _ G4.out.arg).trans (by rw [← HCS.out]; rfl), (cell_of_row _ _ 1 _ _ _ G4.out.arg).trans (by rw [← HCS.out]; rfl), (cell_of_row _ _ 2 _ _ _ G4.out.arg).trans (by rw [← HCS.out]; rfl), (cell_of_row _ _ 3 _ _ _ G4.out.arg).trans (by rw [← HCS.out]; rfl), (cell_of_row _ _ 4 _ _ _ G4.out.arg).trans (by rw [← HCS.out]; rfl), (cell_of_row _ _ 5 _ _ _ G4.out.arg).trans (by rw [← HCS.out]; rfl), (cell_of_row _ _ 6 _ _ _ G4.out.arg).trans (by rw [← HCS.out]; rfl), (cell_of_row _ _ 7 _ _ _ G4.out.arg).trans (by rw [← HCS.out]; rfl)⟩
    refine ⟨_, rfl, HS, ?_⟩
    clear HS
    try simp only [Act.put, List.setIfInBounds_toArray, List.set_cons_zero, List.set_cons_succ]
    refine FirstH.two (i := 5) (j := 12) (by kernel_rfl) (by decide) (by decide) inv (fun inv => ?_) (fun inv => ?_)
    · refine (wpOp_call (i := 5) rfl rfl 8 rfl _ rfl 10 #[.agg #[.int .u8 tn, .int .u16 tl]] (by unfold bareO; go_simp) (TPQ.out _ _ _) ?_)
      rintro e W5 ⟨rfl, h5⟩
      have b5 : Below W4.heap.size W4 W5 := by rw [← h5]; exact two_up _ _ _ _ _
      have G5 := Lib.hid (G4.out.on b5)
      clear h5 b5
      have HS : W5.cell? ⟨W.heap.size, 0, none⟩ = some (.int .u8 fn) ∧ W5.cell? ⟨W.heap.size, 1, none⟩ = some (.int .u16 fl) ∧ W5.cell? ⟨W.heap.size, 2, none⟩ = some (.int .u8 tn) ∧ W5.cell? ⟨W.heap.size, 3, none⟩ = some (.int .u16 tl) ∧ W5.cell? ⟨W.heap.size, 4, none⟩ = some (.int .u64 seq) ∧ W5.cell? ⟨W.heap.size, 5, none⟩ = some (.int .u64 ack) ∧ W5.cell? ⟨W.heap.size, 6, none⟩ = some (.bool has) ∧ W5.cell? ⟨W.heap.size, 7, none⟩ = some (.slice A n c) := ⟨(cell_of_row _ _ 0 _ _ _ G5.out.arg).trans (by rw [← HCS.out]; rfl), (cell_of_row _ _ 1 _ _ _ G5.out.arg).trans (by rw [← HCS.out]; rfl), (cell_of_row _ _ 2 _ _ _ G5.out.arg).trans (by rw [← HCS.out]; rfl), (cell_of_row _ _ 3 _ _ _ G5.out.arg).trans (by rw [← HCS.out]; rfl), (cell_of_row _ _ 4 _ _ _ G5.out.arg).trans (by rw [← HCS.out]; rfl), (cell_of_row _ _ 5 _ _ _ G5.out.arg).trans (by rw [← HCS.out]; rfl), (cell_of_row _ _ 6 _ _ _ G5.out.arg).trans (by rw [← HCS.out]; rfl), (cell_of_row _ _ 7 _ _ _ G5.out.arg).trans (by rw [← HCS.out]; rfl)⟩
      refine ⟨_, rfl, HS, ?_⟩
      clear HS
      try simp only [Act.put, List.setIfInBounds_toArray, List.set_cons_zero, List.set_cons_succ]
      refine FirstH.only (i := 12) (by kernel_rfl) (by decide) inv (fun inv => wpOp_vl (i := 12) (v := .slice (some ⟨W5.heap.size, 0, none⟩) 0 0) (w' := W5.alloc (.cells #[] 5)) rfl rfl 15 rfl _ rfl (by unfold bareO; go_simp) ?_)
      obtain ⟨W6, hW6⟩ : ∃ x, W5.alloc (.cells #[] 5) = x := ⟨_, rfl⟩
      have O6 : Hid (W6.ownsRow W5.heap.size 5 1 (.slice (some ⟨W5.heap.size, 0, none⟩) 0 0) 0 []) := Lib.hid (by rw [← hW6]; exact ⟨rfl, .inr ⟨W5.heap.size, 0, #[], rfl, Nat.le_refl _, heap_alloc_new _ _, Nat.le_refl _, by unfold maxLen; omega, rfl, rfl⟩⟩)
      have G6 : Hid (Going W cs W6) := Lib.hid (by rw [← hW6]; exact G5.out.on ((Below.refl _ _).alloc (Nat.le_refl _) _))
      have T6 := Lib.hid (G5.out.lt)
      rw [hW6]
      clear hW6
      have HS : W6.cell? ⟨W.heap.size, 0, none⟩ = some (.int .u8 fn) ∧ W6.cell? ⟨W.heap.size, 1, none⟩ = some (.int .u16 fl) ∧ W6.cell? ⟨W.heap.size, 2, none⟩ = some (.int .u8 tn) ∧ W6.cell? ⟨W.heap.size, 3, none⟩ = some (.int .u16 tl) ∧ W6.cell? ⟨W.heap.size, 4, none⟩ = some (.int .u64 seq) ∧ W6.cell? ⟨W.heap.size, 5, none⟩ = some (.int .u64 ack) ∧ W6.cell? ⟨W.heap.size, 6, none⟩ = some (.bool has) ∧ W6.cell? ⟨W.heap.size, 7, none⟩ = some (.slice A n c) := ⟨(cell_of_row _ _ 0 _ _ _ G6.out.arg).trans (by rw [← HCS.out]; rfl), (cell_of_row _ _ 1 _ _ _ G6.out.arg).trans (by rw [← HCS.out]; rfl), (cell_of_row _ _ 2 _ _ _ G6.out.arg).trans (by rw [← HCS.out]; rfl), (cell_of_row _ _ 3 _ _ _ G6.out.arg).trans (by rw [← HCS.out]; rfl), (cell_of_row _ _ 4 _ _ _ G6.out.arg).trans (by rw [← HCS.out]; rfl), (cell_of_row _ _ 5 _ _ _ G6.out.arg).trans (by rw [← HCS.out]; rfl), (cell_of_row _ _ 6 _ _ _ G6.out.arg).trans (by rw [← HCS.out]; rfl), (cell_of_row _ _ 7 _ _ _ G6.out.arg).trans (by rw [← HCS.out]; rfl)⟩
      refine ⟨HS, ?_⟩
      clear HS
      try simp only [Act.put, List.setIfInBounds_toArray, List.set_cons_zero, List.set_cons_succ]
      refine FirstH.only (i := 15) (by kernel_rfl) (by decide) inv (fun inv => wpOp_appB (i := 15) rfl rfl 18 rfl (.tmp 15) (.tmp 17) rfl W5.heap.size _ 0 [] rfl O6.out (some ad) body n c W.heap.size (by rw [show (.tmp 17 : Operand) = .tmp 17 from rfl]; exact (congrArg (fun a => Value.slice a n c) HA.out.symm)) HN.out (fun e => by cases e) (HR.out.below G6.out.below (Nat.le_refl _) (Nat.le_refl _)) (by omega) (Nat.le_of_lt (O6.out.lt _ rfl).2) ?_)
      intro v9 W9 O9 g9
      have G9 := Lib.hid (G6.out.grown (k := W5.heap.size) g9 T6.out)
      rw [Nat.zero_add, List.nil_append] at O9
      obtain ⟨A9, c9, rfl, -, at9, le9, mx9⟩ := bytes_of_own O9
      have N9 : ∀ g9 o9, A9 = some ⟨g9, o9, none⟩ → g9 ≠ W.heap.size + 1 := fun g9 o9 h => by subst h; have h1 := (O9.lt g9 rfl).1; have h2 := T6.out; omega
      have HS : W9.cell? ⟨W.heap.size, 0, none⟩ = some (.int .u8 fn) ∧ W9.cell? ⟨W.heap.size, 1, none⟩ = some (.int .u16 fl) ∧ W9.cell? ⟨W.heap.size, 2, none⟩ = some (.int .u8 tn) ∧ W9.cell? ⟨W.heap.size, 3, none⟩ = some (.int .u16 tl) ∧ W9.cell? ⟨W.heap.size, 4, none⟩ = some (.int .u64 seq) ∧ W9.cell? ⟨W.heap.size, 5, none⟩ = some (.int .u64 ack) ∧ W9.cell? ⟨W.heap.size, 6, none⟩ = some (.bool has) ∧ W9.cell? ⟨W.heap.size, 7, none⟩ = some (.slice A n c) := ⟨(cell_of_row _ _ 0 _ _ _ G9.out.arg).trans (by rw [← HCS.out]; rfl), (cell_of_row _ _ 1 _ _ _ G9.out.arg).trans (by rw [← HCS.out]; rfl), (cell_of_row _ _ 2 _ _ _ G9.out.arg).trans (by rw [← HCS.out]; rfl), (cell_of_row _ _ 3 _ _ _ G9.out.arg).trans (by rw [← HCS.out]; rfl), (cell_of_row _ _ 4 _ _ _ G9.out.arg).trans (by rw [← HCS.out]; rfl), (cell_of_row _ _ 5 _ _ _ G9.out.arg).trans (by rw [← HCS.out]; rfl), (cell_of_row _ _ 6 _ _ _ G9.out.arg).trans (by rw [← HCS.out]; rfl), (cell_of_row _ _ 7 _ _ _ G9.out.arg).trans (by rw [← HCS.out]; rfl)⟩
      refine ⟨HS, ?_⟩
      clear HS
      try simp only [Act.put, List.setIfInBounds_toArray, List.set_cons_zero, List.set_cons_succ]
      refine ⟨by kernel_rfl, ?_⟩
      simp only [List.drop_succ_cons, List.drop_zero]
      rw [← HN.out]
      refine wpList_bd rfl 53 _ rfl #[.int .u8 fn, .int .u16 fl, .int .u8 tn, .int .u16 tl, .int .u64 seq, .int .u64 ack, .bool has, .slice A9 n c9] (by kernel_rfl) ?_
      refine wpList_store_row rfl 53 (.tmp 2) (.tmp 19) rfl (W.heap.size + 1) #[.int .u8 fn, .int .u16 fl, .int .u8 tn, .int .u16 tl, .int .u64 seq, .int .u64 ack, .bool has, .slice A9 n c9] (by rfl) (by rfl) 53 #[.int .u8 0, .int .u16 0, .int .u8 0, .int .u16 0, .int .u64 0, .int .u64 0, .bool false, .slice none 0 0] G9.out.res (by kernel_rfl) rfl (by simp [Value.oneCell']) ?_
      have ER := Lib.hid (setRow_heap W9 (W.heap.size + 1) _ #[.int .u8 fn, .int .u16 fl, .int .u8 tn, .int .u16 tl, .int .u64 seq, .int .u64 ack, .bool has, .slice A9 n c9] _ _ G9.out.res)
      go_wp2
      exact bodyPost_ret (v := .agg #[.int .u8 fn, .int .u16 fl, .int .u8 tn, .int .u16 tl, .int .u64 seq, .int .u64 ack, .bool has, .slice A9 n c9]) (results_cell_row (p := 2) (ty := 53) rfl _ _ (W.heap.size + 1) 53 #[.int .u8 fn, .int .u16 fl, .int .u8 tn, .int .u16 tl, .int .u64 seq, .int .u64 ack, .bool has, .slice A9 n c9] (0, 0) _ (by rfl) ER.out Try.underlying53 rfl (by kernel_rfl)) rfl ⟨A9, c9, rfl, (at9.keep fun g cur _ hg => setRow_at hg (apart_of hg G9.out.res (by decide)) _).lower (Nat.zero_le _), by rw [HN.out]; exact le9, mx9, below_row G9.out.below (Nat.le_succ _) _⟩
    · refine (wpOp_vl (i := 12) (v := .slice (some ⟨W4.heap.size, 0, none⟩) 0 0) (w' := W4.alloc (.cells #[] 5)) rfl rfl 15 rfl _ rfl (by unfold bareO; go_simp) ?_)
      obtain ⟨W5, hW5⟩ : ∃ x, W4.alloc (.cells #[] 5) = x := ⟨_, rfl⟩
      have O5 : Hid (W5.ownsRow W4.heap.size 5 1 (.slice (some ⟨W4.heap.size, 0, none⟩) 0 0) 0 []) := Lib.hid (by rw [← hW5]; exact ⟨rfl, .inr ⟨W4.heap.size, 0, #[], rfl, Nat.le_refl _, heap_alloc_new _ _, Nat.le_refl _, by unfold maxLen; omega, rfl, rfl⟩⟩)
      have G5 : Hid (Going W cs W5) := Lib.hid (by rw [← hW5]; exact G4.out.on ((Below.refl _ _).alloc (Nat.le_refl _) _))
      have T5 := Lib.hid (G4.out.lt)
      rw [hW5]
      clear hW5
      have HS : W5.cell? ⟨W.heap.size, 0, none⟩ = some (.int .u8 fn) ∧ W5.cell? ⟨W.heap.size, 1, none⟩ = some (.int .u16 fl) ∧ W5.cell? ⟨W.heap.size, 2, none⟩ = some (.int .u8 tn) ∧ W5.cell? ⟨W.heap.size, 3, none⟩ = some (.int .u16 tl) ∧ W5.cell? ⟨W.heap.size, 4, none⟩ = some (.int .u64 seq) ∧ W5.cell? ⟨W.heap.size, 5, none⟩ = some (.int .u64 ack) ∧ W5.cell? ⟨W.heap.size, 6, none⟩ = some (.bool has) ∧ W5.cell? ⟨W.heap.size, 7, none⟩ = some (.slice A n c) := ⟨(cell_of_row _ _ 0 _ _ _ G5.out.arg).trans (by rw [← HCS.out]; rfl), (cell_of_row _ _ 1 _ _ _ G5.out.arg).trans (by rw [← HCS.out]; rfl), (cell_of_row _ _ 2 _ _ _ G5.out.arg).trans (by rw [← HCS.out]; rfl), (cell_of_row _ _ 3 _ _ _ G5.out.arg).trans (by rw [← HCS.out]; rfl), (cell_of_row _ _ 4 _ _ _ G5.out.arg).trans (by rw [← HCS.out]; rfl), (cell_of_row _ _ 5 _ _ _ G5.out.arg).trans (by rw [← HCS.out]; rfl), (cell_of_row _ _ 6 _ _ _ G5.out.arg).trans (by rw [← HCS.out]; rfl), (cell_of_row _ _ 7 _ _ _ G5.out.arg).trans (by rw [← HCS.out]; rfl)⟩
      refine ⟨HS, ?_⟩
      clear HS
      try simp only [Act.put, List.setIfInBounds_toArray, List.set_cons_zero, List.set_cons_succ]
      refine FirstH.only (i := 5) (by kernel_rfl) (by decide) inv (fun inv => wpOp_call (i := 5) rfl rfl 8 rfl _ rfl 10 #[.agg #[.int .u8 tn, .int .u16 tl]] (by unfold bareO; go_simp) (TPQ.out _ _ _) ?_)
      rintro e W6 ⟨rfl, h6⟩
      have b6 : Below W5.heap.size W5 W6 := by rw [← h6]; exact two_up _ _ _ _ _
      have G6 := Lib.hid (G5.out.on b6)
      have O6 := Lib.hid (owns_keepB O5.out fun g hg => b6.block g (O5.out.lt g hg).2)
      clear h6 b6
      have HS : W6.cell? ⟨W.heap.size, 0, none⟩ = some (.int .u8 fn) ∧ W6.cell? ⟨W.heap.size, 1, none⟩ = some (.int .u16 fl) ∧ W6.cell? ⟨W.heap.size, 2, none⟩ = some (.int .u8 tn) ∧ W6.cell? ⟨W.heap.size, 3, none⟩ = some (.int .u16 tl) ∧ W6.cell? ⟨W.heap.size, 4, none⟩ = some (.int .u64 seq) ∧ W6.cell? ⟨W.heap.size, 5, none⟩ = some (.int .u64 ack) ∧ W6.cell? ⟨W.heap.size, 6, none⟩ = some (.bool has) ∧ W6.cell? ⟨W.heap.size, 7, none⟩ = some (.slice A n c) := ⟨(cell_of_row _ _ 0 _ _ _ G6.out.arg).trans (by rw [← HCS.out]; rfl), (cell_of_row _ _ 1 _ _ _ G6.out.arg).trans (by rw [← HCS.out]; rfl), (cell_of_row _ _ 2 _ _ _ G6.out.arg).trans (by rw [← HCS.out]; rfl), (cell_of_row _ _ 3 _ _ _ G6.out.arg).trans (by rw [← HCS.out]; rfl), (cell_of_row _ _ 4 _ _ _ G6.out.arg).trans (by rw [← HCS.out]; rfl), (cell_of_row _ _ 5 _ _ _ G6.out.arg).trans (by rw [← HCS.out]; rfl), (cell_of_row _ _ 6 _ _ _ G6.out.arg).trans (by rw [← HCS.out]; rfl), (cell_of_row _ _ 7 _ _ _ G6.out.arg).trans (by rw [← HCS.out]; rfl)⟩
      refine ⟨_, rfl, HS, ?_⟩
      clear HS
      try simp only [Act.put, List.setIfInBounds_toArray, List.set_cons_zero, List.set_cons_succ]
      refine FirstH.only (i := 15) (by kernel_rfl) (by decide) inv (fun inv => wpOp_appB (i := 15) rfl rfl 18 rfl (.tmp 15) (.tmp 17) rfl W4.heap.size _ 0 [] rfl O6.out (some ad) body n c W.heap.size (by rw [show (.tmp 17 : Operand) = .tmp 17 from rfl]; exact (congrArg (fun a => Value.slice a n c) HA.out.symm)) HN.out (fun e => by cases e) (HR.out.below G6.out.below (Nat.le_refl _) (Nat.le_refl _)) (by omega) (Nat.le_of_lt (O6.out.lt _ rfl).2) ?_)
      intro v9 W9 O9 g9
      have G9 := Lib.hid (G6.out.grown (k := W4.heap.size) g9 T5.out)
      rw [Nat.zero_add, List.nil_append] at O9
      obtain ⟨A9, c9, rfl, -, at9, le9, mx9⟩ := bytes_of_own O9
      have N9 : ∀ g9 o9, A9 = some ⟨g9, o9, none⟩ → g9 ≠ W.heap.size + 1 := fun g9 o9 h => by subst h; have h1 := (O9.lt g9 rfl).1; have h2 := T5.out; omega
      have HS : W9.cell? ⟨W.heap.size, 0, none⟩ = some (.int .u8 fn) ∧ W9.cell? ⟨W.heap.size, 1, none⟩ = some (.int .u16 fl) ∧ W9.cell? ⟨W.heap.size, 2, none⟩ = some (.int .u8 tn) ∧ W9.cell? ⟨W.heap.size, 3, none⟩ = some (.int .u16 tl) ∧ W9.cell? ⟨W.heap.size, 4, none⟩ = some (.int .u64 seq) ∧ W9.cell? ⟨W.heap.size, 5, none⟩ = some (.int .u64 ack) ∧ W9.cell? ⟨W.heap.size, 6, none⟩ = some (.bool has) ∧ W9.cell? ⟨W.heap.size, 7, none⟩ = some (.slice A n c) := ⟨(cell_of_row _ _ 0 _ _ _ G9.out.arg).trans (by rw [← HCS.out]; rfl), (cell_of_row _ _ 1 _ _ _ G9.out.arg).trans (by rw [← HCS.out]; rfl), (cell_of_row _ _ 2 _ _ _ G9.out.arg).trans (by rw [← HCS.out]; rfl), (cell_of_row _ _ 3 _ _ _ G9.out.arg).trans (by rw [← HCS.out]; rfl), (cell_of_row _ _ 4 _ _ _ G9.out.arg).trans (by rw [← HCS.out]; rfl), (cell_of_row _ _ 5 _ _ _ G9.out.arg).trans (by rw [← HCS.out]; rfl), (cell_of_row _ _ 6 _ _ _ G9.out.arg).trans (by rw [← HCS.out]; rfl), (cell_of_row _ _ 7 _ _ _ G9.out.arg).trans (by rw [← HCS.out]; rfl)⟩
      refine ⟨HS, ?_⟩
      clear HS
      try simp only [Act.put, List.setIfInBounds_toArray, List.set_cons_zero, List.set_cons_succ]
      refine ⟨by kernel_rfl, ?_⟩
      simp only [List.drop_succ_cons, List.drop_zero]
      rw [← HN.out]
      refine wpList_bd rfl 53 _ rfl #[.int .u8 fn, .int .u16 fl, .int .u8 tn, .int .u16 tl, .int .u64 seq, .int .u64 ack, .bool has, .slice A9 n c9] (by kernel_rfl) ?_
      refine wpList_store_row rfl 53 (.tmp 2) (.tmp 19) rfl (W.heap.size + 1) #[.int .u8 fn, .int .u16 fl, .int .u8 tn, .int .u16 tl, .int .u64 seq, .int .u64 ack, .bool has, .slice A9 n c9] (by rfl) (by rfl) 53 #[.int .u8 0, .int .u16 0, .int .u8 0, .int .u16 0, .int .u64 0, .int .u64 0, .bool false, .slice none 0 0] G9.out.res (by kernel_rfl) rfl (by simp [Value.oneCell']) ?_
      have ER := Lib.hid (setRow_heap W9 (W.heap.size + 1) _ #[.int .u8 fn, .int .u16 fl, .int .u8 tn, .int .u16 tl, .int .u64 seq, .int .u64 ack, .bool has, .slice A9 n c9] _ _ G9.out.res)
      go_wp2
      exact bodyPost_ret (v := .agg #[.int .u8 fn, .int .u16 fl, .int .u8 tn, .int .u16 tl, .int .u64 seq, .int .u64 ack, .bool has, .slice A9 n c9]) (results_cell_row (p := 2) (ty := 53) rfl _ _ (W.heap.size + 1) 53 #[.int .u8 fn, .int .u16 fl, .int .u8 tn, .int .u16 tl, .int .u64 seq, .int .u64 ack, .bool has, .slice A9 n c9] (0, 0) _ (by rfl) ER.out Try.underlying53 rfl (by kernel_rfl)) rfl ⟨A9, c9, rfl, (at9.keep fun g cur _ hg => setRow_at hg (apart_of hg G9.out.res (by decide)) _).lower (Nat.zero_le _), by rw [HN.out]; exact le9, mx9, below_row G9.out.below (Nat.le_succ _) _⟩
  · refine (wpOp_vl (i := 12) (v := .slice (some ⟨W3.heap.size, 0, none⟩) 0 0) (w' := W3.alloc (.cells #[] 5)) rfl rfl 15 rfl _ rfl (by unfold bareO; go_simp) ?_)
    obtain ⟨W4, hW4⟩ : ∃ x, W3.alloc (.cells #[] 5) = x := ⟨_, rfl⟩
    have O4 : Hid (W4.ownsRow W3.heap.size 5 1 (.slice (some ⟨W3.heap.size, 0, none⟩) 0 0) 0 []) := Lib.hid (by rw [← hW4]; exact ⟨rfl, .inr ⟨W3.heap.size, 0, #[], rfl, Nat.le_refl _, heap_alloc_new _ _, Nat.le_refl _, by unfold maxLen; omega, rfl, rfl⟩⟩)
    have G4 : Hid (Going W cs W4) := Lib.hid (by rw [← hW4]; exact G3.out.on ((Below.refl _ _).alloc (Nat.le_refl _) _))
    have T4 := Lib.hid (G3.out.lt)
    rw [hW4]
    clear hW4
    have HS : W4.cell? ⟨W.heap.size, 0, none⟩ = some (.int .u8 fn) ∧ W4.cell? ⟨W.heap.size, 1, none⟩ = some (.int .u16 fl) ∧ W4.cell? ⟨W.heap.size, 2, none⟩ = some (.int .u8 tn) ∧ W4.cell? ⟨W.heap.size, 3, none⟩ = some (.int .u16 tl) ∧ W4.cell? ⟨W.heap.size, 4, none⟩ = some (.int .u64 seq) ∧ W4.cell? ⟨W.heap.size, 5, none⟩ = some (.int .u64 ack) ∧ W4.cell? ⟨W.heap.size, 6, none⟩ = some (.bool has) ∧ W4.cell? ⟨W.heap.size, 7, none⟩ = some (.slice A n c) := ⟨(cell_of_row _ _ 0 _ _ _ G4.out.arg).trans (by rw [← HCS.out]; rfl), (cell_of_row _ _ 1 _ _ _ G4.out.arg).trans (by rw [← HCS.out]; rfl), (cell_of_row _ _ 2 _ _ _ G4.out.arg).trans (by rw [← HCS.out]; rfl), (cell_of_row _ _ 3 _ _ _ G4.out.arg).trans (by rw [← HCS.out]; rfl), (cell_of_row _ _ 4 _ _ _ G4.out.arg).trans (by rw [← HCS.out]; rfl), (cell_of_row _ _ 5 _ _ _ G4.out.arg).trans (by rw [← HCS.out]; rfl), (cell_of_row _ _ 6 _ _ _ G4.out.arg).trans (by rw [← HCS.out]; rfl), (cell_of_row _ _ 7 _ _ _ G4.out.arg).trans (by rw [← HCS.out]; rfl)⟩
    refine ⟨HS, ?_⟩
    clear HS
    try simp only [Act.put, List.setIfInBounds_toArray, List.set_cons_zero, List.set_cons_succ]
    refine FirstH.only (i := 2) (by kernel_rfl) (by decide) inv (fun inv => wpOp_call (i := 2) rfl rfl 5 rfl _ rfl 10 #[.agg #[.int .u8 fn, .int .u16 fl]] (by unfold bareO; go_simp) (TPQ.out _ _ _) ?_)
    rintro e W5 ⟨rfl, h5⟩
    have b5 : Below W4.heap.size W4 W5 := by rw [← h5]; exact two_up _ _ _ _ _
    have G5 := Lib.hid (G4.out.on b5)
    have O5 := Lib.hid (owns_keepB O4.out fun g hg => b5.block g (O4.out.lt g hg).2)
    clear h5 b5
    have HS : W5.cell? ⟨W.heap.size, 0, none⟩ = some (.int .u8 fn) ∧ W5.cell? ⟨W.heap.size, 1, none⟩ = some (.int .u16 fl) ∧ W5.cell? ⟨W.heap.size, 2, none⟩ = some (.int .u8 tn) ∧ W5.cell? ⟨W.heap.size, 3, none⟩ = some (.int .u16 tl) ∧ W5.cell? ⟨W.heap.size, 4, none⟩ = some (.int .u64 seq) ∧ W5.cell? ⟨W.heap.size, 5, none⟩ = some (.int .u64 ack) ∧ W5.cell? ⟨W.heap.size, 6, none⟩ = some (.bool has) ∧ W5.cell? ⟨W.heap.size, 7, none⟩ = some (.slice A n c) := ⟨(cell_of_row _ _ 0 _ _ _ G5.out.arg).trans (by rw [← HCS.out]; rfl), (cell_of_row _ _ 1 _ _ _ G5.out.arg).trans (by rw [← HCS.out]; rfl), (cell_of_row _ _ 2 _ _ _ G5.out.arg).trans (by rw [← HCS.out]; rfl), (cell_of_row _ _ 3 _ _ _ G5.out.arg).trans (by rw [← HCS.out]; rfl), (cell_of_row _ _ 4 _ _ _ G5.out.arg).trans (by rw [← HCS.out]; rfl), (cell_of_row _ _ 5 _ _ _ G5.out.arg).trans (by rw [← HCS.out]; rfl), (cell_of_row _ _ 6 _ _ _ G5.out.arg).trans (by rw [← HCS.out]; rfl), (cell_of_row _ _ 7 _ _ _ G5.out.arg).trans (by rw [← HCS.out]; rfl)⟩
    refine ⟨_, rfl, HS, ?_⟩
    clear HS
    try simp only [Act.put, List.setIfInBounds_toArray, List.set_cons_zero, List.set_cons_succ]
    refine FirstH.only (i := 5) (by kernel_rfl) (by decide) inv (fun inv => wpOp_call (i := 5) rfl rfl 8 rfl _ rfl 10 #[.agg #[.int .u8 tn, .int .u16 tl]] (by unfold bareO; go_simp) (TPQ.out _ _ _) ?_)
    rintro e W6 ⟨rfl, h6⟩
    have b6 : Below W5.heap.size W5 W6 := by rw [← h6]; exact two_up _ _ _ _ _
    have G6 := Lib.hid (G5.out.on b6)
    have O6 := Lib.hid (owns_keepB O5.out fun g hg => b6.block g (O5.out.lt g hg).2)
    clear h6 b6
    have HS : W6.cell? ⟨W.heap.size, 0, none⟩ = some (.int .u8 fn) ∧ W6.cell? ⟨W.heap.size, 1, none⟩ = some (.int .u16 fl) ∧ W6.cell? ⟨W.heap.size, 2, none⟩ = some (.int .u8 tn) ∧ W6.cell? ⟨W.heap.size, 3, none⟩ = some (.int .u16 tl) ∧ W6.cell? ⟨W.heap.size, 4, none⟩ = some (.int .u64 seq) ∧ W6.cell? ⟨W.heap.size, 5, none⟩ = some (.int .u64 ack) ∧ W6.cell? ⟨W.heap.size, 6, none⟩ = some (.bool has) ∧ W6.cell? ⟨W.heap.size, 7, none⟩ = some (.slice A n c) := ⟨(cell_of_row _ _ 0 _ _ _ G6.out.arg).trans (by rw [← HCS.out]; rfl), (cell_of_row _ _ 1 _ _ _ G6.out.arg).trans (by rw [← HCS.out]; rfl), (cell_of_row _ _ 2 _ _ _ G6.out.arg).trans (by rw [← HCS.out]; rfl), (cell_of_row _ _ 3 _ _ _ G6.out.arg).trans (by rw [← HCS.out]; rfl), (cell_of_row _ _ 4 _ _ _ G6.out.arg).trans (by rw [← HCS.out]; rfl), (cell_of_row _ _ 5 _ _ _ G6.out.arg).trans (by rw [← HCS.out]; rfl), (cell_of_row _ _ 6 _ _ _ G6.out.arg).trans (by rw [← HCS.out]; rfl), (cell_of_row _ _ 7 _ _ _ G6.out.arg).trans (by rw [← HCS.out]; rfl)⟩
    refine ⟨_, rfl, HS, ?_⟩
    clear HS
    try simp only [Act.put, List.setIfInBounds_toArray, List.set_cons_zero, List.set_cons_succ]
    refine FirstH.only (i := 15) (by kernel_rfl) (by decide) inv (fun inv => wpOp_appB (i := 15) rfl rfl 18 rfl (.tmp 15) (.tmp 17) rfl W3.heap.size _ 0 [] rfl O6.out (some ad) body n c W.heap.size (by rw [show (.tmp 17 : Operand) = .tmp 17 from rfl]; exact (congrArg (fun a => Value.slice a n c) HA.out.symm)) HN.out (fun e => by cases e) (HR.out.below G6.out.below (Nat.le_refl _) (Nat.le_refl _)) (by omega) (Nat.le_of_lt (O6.out.lt _ rfl).2) ?_)
    intro v9 W9 O9 g9
    have G9 := Lib.hid (G6.out.grown (k := W3.heap.size) g9 T4.out)
    rw [Nat.zero_add, List.nil_append] at O9
    obtain ⟨A9, c9, rfl, -, at9, le9, mx9⟩ := bytes_of_own O9
    have N9 : ∀ g9 o9, A9 = some ⟨g9, o9, none⟩ → g9 ≠ W.heap.size + 1 := fun g9 o9 h => by subst h; have h1 := (O9.lt g9 rfl).1; have h2 := T4.out; omega
    have HS : W9.cell? ⟨W.heap.size, 0, none⟩ = some (.int .u8 fn) ∧ W9.cell? ⟨W.heap.size, 1, none⟩ = some (.int .u16 fl) ∧ W9.cell? ⟨W.heap.size, 2, none⟩ = some (.int .u8 tn) ∧ W9.cell? ⟨W.heap.size, 3, none⟩ = some (.int .u16 tl) ∧ W9.cell? ⟨W.heap.size, 4, none⟩ = some (.int .u64 seq) ∧ W9.cell? ⟨W.heap.size, 5, none⟩ = some (.int .u64 ack) ∧ W9.cell? ⟨W.heap.size, 6, none⟩ = some (.bool has) ∧ W9.cell? ⟨W.heap.size, 7, none⟩ = some (.slice A n c) := ⟨(cell_of_row _ _ 0 _ _ _ G9.out.arg).trans (by rw [← HCS.out]; rfl), (cell_of_row _ _ 1 _ _ _ G9.out.arg).trans (by rw [← HCS.out]; rfl), (cell_of_row _ _ 2 _ _ _ G9.out.arg).trans (by rw [← HCS.out]; rfl), (cell_of_row _ _ 3 _ _ _ G9.out.arg).trans (by rw [← HCS.out]; rfl), (cell_of_row _ _ 4 _ _ _ G9.out.arg).trans (by rw [← HCS.out]; rfl), (cell_of_row _ _ 5 _ _ _ G9.out.arg).trans (by rw [← HCS.out]; rfl), (cell_of_row _ _ 6 _ _ _ G9.out.arg).trans (by rw [← HCS.out]; rfl), (cell_of_row _ _ 7 _ _ _ G9.out.arg).trans (by rw [← HCS.out]; rfl)⟩
    refine ⟨HS, ?_⟩
    clear HS
    try simp only [Act.put, List.setIfInBounds_toArray, List.set_cons_zero, List.set_cons_succ]
    refine ⟨by kernel_rfl, ?_⟩
    simp only [List.drop_succ_cons, List.drop_zero]
    rw [← HN.out]
    refine wpList_bd rfl 53 _ rfl #[.int .u8 fn, .int .u16 fl, .int .u8 tn, .int .u16 tl, .int .u64 seq, .int .u64 ack, .bool has, .slice A9 n c9] (by kernel_rfl) ?_
    refine wpList_store_row rfl 53 (.tmp 2) (.tmp 19) rfl (W.heap.size + 1) #[.int .u8 fn, .int .u16 fl, .int .u8 tn, .int .u16 tl, .int .u64 seq, .int .u64 ack, .bool has, .slice A9 n c9] (by rfl) (by rfl) 53 #[.int .u8 0, .int .u16 0, .int .u8 0, .int .u16 0, .int .u64 0, .int .u64 0, .bool false, .slice none 0 0] G9.out.res (by kernel_rfl) rfl (by simp [Value.oneCell']) ?_
    have ER := Lib.hid (setRow_heap W9 (W.heap.size + 1) _ #[.int .u8 fn, .int .u16 fl, .int .u8 tn, .int .u16 tl, .int .u64 seq, .int .u64 ack, .bool has, .slice A9 n c9] _ _ G9.out.res)
    go_wp2
    exact bodyPost_ret (v := .agg #[.int .u8 fn, .int .u16 fl, .int .u8 tn, .int .u16 tl, .int .u64 seq, .int .u64 ack, .bool has, .slice A9 n c9]) (results_cell_row (p := 2) (ty := 53) rfl _ _ (W.heap.size + 1) 53 #[.int .u8 fn, .int .u16 fl, .int .u8 tn, .int .u16 tl, .int .u64 seq, .int .u64 ack, .bool has, .slice A9 n c9] (0, 0) _ (by rfl) ER.out Try.underlying53 rfl (by kernel_rfl)) rfl ⟨A9, c9, rfl, (at9.keep fun g cur _ hg => setRow_at hg (apart_of hg G9.out.res (by decide)) _).lower (Nat.zero_le _), by rw [HN.out]; exact le9, mx9, below_row G9.out.below (Nat.le_succ _) _⟩

set_option maxRecDepth 100000 in
set_option maxHeartbeats 4000000 in
theorem packO0 (fn fl tn tl : Int) (seq ack : Nat) (has : Bool) (W : World) :
    Calls Try.prog 20 #[.agg #[.int .u8 fn, .int .u16 fl, .int .u8 tn, .int .u16 tl, .int .u64 seq, .int .u64 ack, .bool has, .slice none 0 0]] W fun e W' => ∃ A2 c2, e = .returned (.agg #[.int .u8 fn, .int .u16 fl, .int .u8 tn, .int .u16 tl, .int .u64 seq, .int .u64 ack, .bool has, .slice A2 0 c2]) ∧ OwnB W' 0 A2 [] ∧ c2 ≤ maxLen ∧ Below W.heap.size W W' := by
  obtain ⟨cs, hcs⟩ : ∃ cs : Array Value, #[.int .u8 fn, .int .u16 fl, .int .u8 tn, .int .u16 tl, .int .u64 seq, .int .u64 ack, .bool has, .slice none 0 0] = cs := ⟨_, rfl⟩
  have TPQ := Lib.hid (fun a b w => toProc a b w)
  obtain ⟨W1, hW1⟩ : ∃ W1, W.alloc (.cells #[.int .u8 fn, .int .u16 fl, .int .u8 tn, .int .u16 tl, .int .u64 seq, .int .u64 ack, .bool has, .slice none 0 0] 37) = W1 := ⟨_, rfl⟩
  obtain ⟨W2, hW2⟩ : ∃ W2, W1.alloc (.cells #[.int .u8 0, .int .u16 0, .int .u8 0, .int .u16 0, .int .u64 0, .int .u64 0, .bool false, .slice none 0 0] 53) = W2 := ⟨_, rfl⟩
  have s1 : W1.heap.size = W.heap.size + 1 := by rw [← hW1]; simp
  have s2 : W2.heap.size = W.heap.size + 2 := by rw [← hW2]; simp [s1]
  have rA1 : W1.heap[W.heap.size]? = some (.cells cs 37 (0, 0)) := by rw [← hW1, ← hcs]; exact heap_alloc_new _ _
  have G2 : Going W cs W2 := ⟨by rw [← hW2, ← hW1]; exact two_up _ _ _ _ _, by rw [← hW2, Below.heap_alloc _ _ _ (by omega)]; exact rA1, by rw [← hW2, ← s1]; exact heap_alloc_new _ _, by omega⟩
  obtain ⟨W3, hW3⟩ : ∃ W3, W2.drew = W3 := ⟨_, rfl⟩
  have G3 : Hid (Going W cs W3) := Lib.hid (by rw [← hW3]; exact G2.on (Below.refl _ _).drew)
  have HW1 := Lib.hid hW1
  have HW2 := Lib.hid hW2
  have HW3 := Lib.hid hW3
  have S1 := Lib.hid s1
  have S2 := Lib.hid s2
  have HCS := Lib.hid hcs
  clear hW1 hW2 hW3 s1 s2 rA1 G2 hcs
  go_enter Try.func20, Try.ntmps20
  go_wp2
  refine region_heldT (S := fun X => X.cell? ⟨W.heap.size, 0, none⟩ = some (.int .u8 fn) ∧ X.cell? ⟨W.heap.size, 1, none⟩ = some (.int .u16 fl) ∧ X.cell? ⟨W.heap.size, 2, none⟩ = some (.int .u8 tn) ∧ X.cell? ⟨W.heap.size, 3, none⟩ = some (.int .u16 tl) ∧ X.cell? ⟨W.heap.size, 4, none⟩ = some (.int .u64 seq) ∧ X.cell? ⟨W.heap.size, 5, none⟩ = some (.int .u64 ack) ∧ X.cell? ⟨W.heap.size, 6, none⟩ = some (.bool has) ∧ X.cell? ⟨W.heap.size, 7, none⟩ = some (.slice none 0 0)) 16 (by kernel_rfl) (by decide) (fun inv => ?_)
  change FirstH _ _ _ _ _ _ _ _ _ _ ((W.alloc (.cells #[.int .u8 fn, .int .u16 fl, .int .u8 tn, .int .u16 tl, .int .u64 seq, .int .u64 ack, .bool has, .slice none 0 0] 37)).alloc (.cells #[.int .u8 0, .int .u16 0, .int .u8 0, .int .u16 0, .int .u64 0, .int .u64 0, .bool false, .slice none 0 0] 53)).drew
  rw [HW1.out, HW2.out, HW3.out]
  have HS : W3.cell? ⟨W.heap.size, 0, none⟩ = some (.int .u8 fn) ∧ W3.cell? ⟨W.heap.size, 1, none⟩ = some (.int .u16 fl) ∧ W3.cell? ⟨W.heap.size, 2, none⟩ = some (.int .u8 tn) ∧ W3.cell? ⟨W.heap.size, 3, none⟩ = some (.int .u16 tl) ∧ W3.cell? ⟨W.heap.size, 4, none⟩ = some (.int .u64 seq) ∧ W3.cell? ⟨W.heap.size, 5, none⟩ = some (.int .u64 ack) ∧ W3.cell? ⟨W.heap.size, 6, none⟩ = some (.bool has) ∧ W3.cell? ⟨W.heap.size, 7, none⟩ = some (.slice none 0 0) := ⟨(cell_of_row _ _ 0 _ _ _ G3.out.arg).trans (by rw [← HCS.out]; rfl), (cell_of_row _ _ 1 _ _ _ G3.out.arg).trans (by rw [← HCS.out]; rfl), (cell_of_row _ _ 2 _ _ _ G3.out.arg).trans (by rw [← HCS.out]; rfl), (cell_of_row _ _ 3 _ _ _ G3.out.arg).trans (by rw [← HCS.out]; rfl), (cell_of_row _ _ 4 _ _ _ G3.out.arg).trans (by rw [← HCS.out]; rfl), (cell_of_row _ _ 5 _ _ _ G3.out.arg).trans (by rw [← HCS.out]; rfl), (cell_of_row _ _ 6 _ _ _ G3.out.arg).trans (by rw [← HCS.out]; rfl), (cell_of_row _ _ 7 _ _ _ G3.out.arg).trans (by rw [← HCS.out]; rfl)⟩
  refine FirstH.go (i := 0) (v := .pointer (some ⟨W.heap.size, 0, none⟩)) rfl rfl _ rfl _ rfl (by kernel_rfl) (fun _ _ _ h => h) inv (fun X _ => by unfold bareO; go_simp) HS (fun inv => ?_)
  try simp only [Act.put, List.setIfInBounds_toArray, List.set_cons_zero, List.set_cons_succ]
  refine FirstH.go (i := 1) (v := .agg #[.int .u8 fn, .int .u16 fl]) rfl rfl _ rfl _ rfl (by kernel_rfl) (fun _ _ _ h => h) inv (fun X hS => by obtain ⟨l0, l1, l2, l3, l4, l5, l6, l7⟩ := hS; unfold bareO; go_simp) HS (fun inv => ?_)
  try simp only [Act.put, List.setIfInBounds_toArray, List.set_cons_zero, List.set_cons_succ]
  refine FirstH.go (i := 3) (v := .pointer (some ⟨W.heap.size, 2, none⟩)) rfl rfl _ rfl _ rfl (by kernel_rfl) (fun _ _ _ h => h) inv (fun X _ => by unfold bareO; go_simp) HS (fun inv => ?_)
  try simp only [Act.put, List.setIfInBounds_toArray, List.set_cons_zero, List.set_cons_succ]
  refine FirstH.go (i := 4) (v := .agg #[.int .u8 tn, .int .u16 tl]) rfl rfl _ rfl _ rfl (by kernel_rfl) (fun _ _ _ h => h) inv (fun X hS => by obtain ⟨l0, l1, l2, l3, l4, l5, l6, l7⟩ := hS; unfold bareO; go_simp) HS (fun inv => ?_)
  try simp only [Act.put, List.setIfInBounds_toArray, List.set_cons_zero, List.set_cons_succ]
  refine FirstH.go (i := 6) (v := .pointer (some ⟨W.heap.size, 4, none⟩)) rfl rfl _ rfl _ rfl (by kernel_rfl) (fun _ _ _ h => h) inv (fun X _ => by unfold bareO; go_simp) HS (fun inv => ?_)
  try simp only [Act.put, List.setIfInBounds_toArray, List.set_cons_zero, List.set_cons_succ]
  refine FirstH.go (i := 7) (v := .int .u64 seq) rfl rfl _ rfl _ rfl (by kernel_rfl) (fun _ _ _ h => h) inv (fun X hS => by obtain ⟨l0, l1, l2, l3, l4, l5, l6, l7⟩ := hS; unfold bareO; go_simp) HS (fun inv => ?_)
  try simp only [Act.put, List.setIfInBounds_toArray, List.set_cons_zero, List.set_cons_succ]
  refine FirstH.go (i := 8) (v := .pointer (some ⟨W.heap.size, 5, none⟩)) rfl rfl _ rfl _ rfl (by kernel_rfl) (fun _ _ _ h => h) inv (fun X _ => by unfold bareO; go_simp) HS (fun inv => ?_)
  try simp only [Act.put, List.setIfInBounds_toArray, List.set_cons_zero, List.set_cons_succ]
  refine FirstH.go (i := 9) (v := .int .u64 ack) rfl rfl _ rfl _ rfl (by kernel_rfl) (fun _ _ _ h => h) inv (fun X hS => by obtain ⟨l0, l1, l2, l3, l4, l5, l6, l7⟩ := hS; unfold bareO; go_simp) HS (fun inv => ?_)
  try simp only [Act.put, List.setIfInBounds_toArray, List.set_cons_zero, List.set_cons_succ]
  refine FirstH.go (i := 10) (v := .pointer (some ⟨W.heap.size, 6, none⟩)) rfl rfl _ rfl _ rfl (by kernel_rfl) (fun _ _ _ h => h) inv (fun X _ => by unfold bareO; go_simp) HS (fun inv => ?_)
  try simp only [Act.put, List.setIfInBounds_toArray, List.set_cons_zero, List.set_cons_succ]
  refine FirstH.go (i := 11) (v := .bool has) rfl rfl _ rfl _ rfl (by kernel_rfl) (fun _ _ _ h => h) inv (fun X hS => by obtain ⟨l0, l1, l2, l3, l4, l5, l6, l7⟩ := hS; unfold bareO; go_simp) HS (fun inv => ?_)
  try simp only [Act.put, List.setIfInBounds_toArray, List.set_cons_zero, List.set_cons_succ]
  refine FirstH.go (i := 13) (v := .pointer (some ⟨W.heap.size, 7, none⟩)) rfl rfl _ rfl _ rfl (by kernel_rfl) (fun _ _ _ h => h) inv (fun X _ => by unfold bareO; go_simp) HS (fun inv => ?_)
  try simp only [Act.put, List.setIfInBounds_toArray, List.set_cons_zero, List.set_cons_succ]
  refine FirstH.go (i := 14) (v := .slice none 0 0) rfl rfl _ rfl _ rfl (by kernel_rfl) (fun _ _ _ h => h) inv (fun X hS => by obtain ⟨l0, l1, l2, l3, l4, l5, l6, l7⟩ := hS; unfold bareO; go_simp) HS (fun inv => ?_)
  try simp only [Act.put, List.setIfInBounds_toArray, List.set_cons_zero, List.set_cons_succ]
  clear HS
  refine FirstH.two (i := 2) (j := 12) (by kernel_rfl) (by decide) (by decide) inv (fun inv => ?_) (fun inv => ?_)
  · refine (wpOp_call (i := 2) rfl rfl 5 rfl _ rfl 10 #[.agg #[.int .u8 fn, .int .u16 fl]] (by unfold bareO; go_simp) (TPQ.out _ _ _) ?_)
    rintro e W4 ⟨rfl, h4⟩
    have b4 : Below W3.heap.size W3 W4 := by rw [← h4]; exact two_up _ _ _ _ _
    have G4 := Lib.hid (G3.out.on b4)
    clear h4 b4
    have HS : W4.cell? ⟨W.heap.size, 0, none⟩ = some (.int .u8 fn) ∧ W4.cell? ⟨W.heap.size, 1, none⟩ = some (.int .u16 fl) ∧ W4.cell? ⟨W.heap.size, 2, none⟩ = some (.int .u8 tn) ∧ W4.cell? ⟨W.heap.size, 3, none⟩ = some (.int .u16 tl) ∧ W4.cell? ⟨W.heap.size, 4, none⟩ = some (.int .u64 seq) ∧ W4.cell? ⟨W.heap.size, 5, none⟩ = some (.int .u64 ack) ∧ W4.cell? ⟨W.heap.size, 6, none⟩ = some (.bool has) ∧ W4.cell? ⟨W.heap.size, 7, none⟩ = some (.slice none 0 0) := ⟨(cell_of_row _ _ 0 _ _ _ G4.out.arg).trans (by rw [← HCS.out]; rfl), (cell_of_row _ _ 1 _ _ _ G4.out.arg).trans (by rw [← HCS.out]; rfl), (cell_of_row _ _ 2 _ _ _ G4.out.arg).trans (by rw [← HCS.out]; rfl), (cell_of_row _ _ 3 _ _ _ G4.out.arg).trans (by rw [← HCS.out]; rfl), (cell_of_row _ _ 4 _ _ _ G4.out.arg).trans (by rw [← HCS.out]; rfl), (cell_of_row _ _ 5 _ _ _ G4.out.arg).trans (by rw [← HCS.out]; rfl), (cell_of_row _ _ 6 _ _ _ G4.out.arg).trans (by rw [← HCS.out]; rfl), (cell_of_row _ _ 7 _ _ _ G4.out.arg).trans (by rw [← HCS.out]; rfl)⟩
    refine ⟨_, rfl, HS, ?_⟩
    clear HS
    try simp only [Act.put, List.setIfInBounds_toArray, List.set_cons_zero, List.set_cons_succ]
    refine FirstH.two (i := 5) (j := 12) (by kernel_rfl) (by decide) (by decide) inv (fun inv => ?_) (fun inv => ?_)
    · refine (wpOp_call (i := 5) rfl rfl 8 rfl _ rfl 10 #[.agg #[.int .u8 tn, .int .u16 tl]] (by unfold bareO; go_simp) (TPQ.out _ _ _) ?_)
      rintro e W5 ⟨rfl, h5⟩
      have b5 : Below W4.heap.size W4 W5 := by rw [← h5]; exact two_up _ _ _ _ _
      have G5 := Lib.hid (G4.out.on b5)
      clear h5 b5
      have HS : W5.cell? ⟨W.heap.size, 0, none⟩ = some (.int .u8 fn) ∧ W5.cell? ⟨W.heap.size, 1, none⟩ = some (.int .u16 fl) ∧ W5.cell? ⟨W.heap.size, 2, none⟩ = some (.int .u8 tn) ∧ W5.cell? ⟨W.heap.size, 3, none⟩ = some (.int .u16 tl) ∧ W5.cell? ⟨W.heap.size, 4, none⟩ = some (.int .u64 seq) ∧ W5.cell? ⟨W.heap.size, 5, none⟩ = some (.int .u64 ack) ∧ W5.cell? ⟨W.heap.size, 6, none⟩ = some (.bool has) ∧ W5.cell? ⟨W.heap.size, 7, none⟩ = some (.slice none 0 0) := ⟨(cell_of_row _ _ 0 _ _ _ G5.out.arg).trans (by rw [← HCS.out]; rfl), (cell_of_row _ _ 1 _ _ _ G5.out.arg).trans (by rw [← HCS.out]; rfl), (cell_of_row _ _ 2 _ _ _ G5.out.arg).trans (by rw [← HCS.out]; rfl), (cell_of_row _ _ 3 _ _ _ G5.out.arg).trans (by rw [← HCS.out]; rfl), (cell_of_row _ _ 4 _ _ _ G5.out.arg).trans (by rw [← HCS.out]; rfl), (cell_of_row _ _ 5 _ _ _ G5.out.arg).trans (by rw [← HCS.out]; rfl), (cell_of_row _ _ 6 _ _ _ G5.out.arg).trans (by rw [← HCS.out]; rfl), (cell_of_row _ _ 7 _ _ _ G5.out.arg).trans (by rw [← HCS.out]; rfl)⟩
      refine ⟨_, rfl, HS, ?_⟩
      clear HS
      try simp only [Act.put, List.setIfInBounds_toArray, List.set_cons_zero, List.set_cons_succ]
      refine FirstH.only (i := 12) (by kernel_rfl) (by decide) inv (fun inv => wpOp_vl (i := 12) (v := .slice (some ⟨W5.heap.size, 0, none⟩) 0 0) (w' := W5.alloc (.cells #[] 5)) rfl rfl 15 rfl _ rfl (by unfold bareO; go_simp) ?_)
      obtain ⟨W6, hW6⟩ : ∃ x, W5.alloc (.cells #[] 5) = x := ⟨_, rfl⟩
      have O6 : Hid (W6.ownsRow W5.heap.size 5 1 (.slice (some ⟨W5.heap.size, 0, none⟩) 0 0) 0 []) := Lib.hid (by rw [← hW6]; exact ⟨rfl, .inr ⟨W5.heap.size, 0, #[], rfl, Nat.le_refl _, heap_alloc_new _ _, Nat.le_refl _, by unfold maxLen; omega, rfl, rfl⟩⟩)
      have G6 : Hid (Going W cs W6) := Lib.hid (by rw [← hW6]; exact G5.out.on ((Below.refl _ _).alloc (Nat.le_refl _) _))
      have T6 := Lib.hid (G5.out.lt)
      rw [hW6]
      clear hW6
      have HS : W6.cell? ⟨W.heap.size, 0, none⟩ = some (.int .u8 fn) ∧ W6.cell? ⟨W.heap.size, 1, none⟩ = some (.int .u16 fl) ∧ W6.cell? ⟨W.heap.size, 2, none⟩ = some (.int .u8 tn) ∧ W6.cell? ⟨W.heap.size, 3, none⟩ = some (.int .u16 tl) ∧ W6.cell? ⟨W.heap.size, 4, none⟩ = some (.int .u64 seq) ∧ W6.cell? ⟨W.heap.size, 5, none⟩ = some (.int .u64 ack) ∧ W6.cell? ⟨W.heap.size, 6, none⟩ = some (.bool has) ∧ W6.cell? ⟨W.heap.size, 7, none⟩ = some (.slice none 0 0) := ⟨(cell_of_row _ _ 0 _ _ _ G6.out.arg).trans (by rw [← HCS.out]; rfl), (cell_of_row _ _ 1 _ _ _ G6.out.arg).trans (by rw [← HCS.out]; rfl), (cell_of_row _ _ 2 _ _ _ G6.out.arg).trans (by rw [← HCS.out]; rfl), (cell_of_row _ _ 3 _ _ _ G6.out.arg).trans (by rw [← HCS.out]; rfl), (cell_of_row _ _ 4 _ _ _ G6.out.arg).trans (by rw [← HCS.out]; rfl), (cell_of_row _ _ 5 _ _ _ G6.out.arg).trans (by rw [← HCS.out]; rfl), (cell_of_row _ _ 6 _ _ _ G6.out.arg).trans (by rw [← HCS.out]; rfl), (cell_of_row _ _ 7 _ _ _ G6.out.arg).trans (by rw [← HCS.out]; rfl)⟩
      refine ⟨HS, ?_⟩
      clear HS
      try simp only [Act.put, List.setIfInBounds_toArray, List.set_cons_zero, List.set_cons_succ]
      refine FirstH.only (i := 15) (by kernel_rfl) (by decide) inv (fun inv => wpOp_vl (i := 15) (v := .slice (some ⟨W5.heap.size, 0, none⟩) 0 0) (w' := W6) rfl rfl 18 rfl _ rfl (by unfold bareO; go_simp) ?_)
      have G9 := G6
      obtain ⟨W9, hW9⟩ : ∃ x, W6 = x := ⟨_, rfl⟩
      rw [hW9] at G9 ⊢
      have HS : W9.cell? ⟨W.heap.size, 0, none⟩ = some (.int .u8 fn) ∧ W9.cell? ⟨W.heap.size, 1, none⟩ = some (.int .u16 fl) ∧ W9.cell? ⟨W.heap.size, 2, none⟩ = some (.int .u8 tn) ∧ W9.cell? ⟨W.heap.size, 3, none⟩ = some (.int .u16 tl) ∧ W9.cell? ⟨W.heap.size, 4, none⟩ = some (.int .u64 seq) ∧ W9.cell? ⟨W.heap.size, 5, none⟩ = some (.int .u64 ack) ∧ W9.cell? ⟨W.heap.size, 6, none⟩ = some (.bool has) ∧ W9.cell? ⟨W.heap.size, 7, none⟩ = some (.slice none 0 0) := ⟨(cell_of_row _ _ 0 _ _ _ G9.out.arg).trans (by rw [← HCS.out]; rfl), (cell_of_row _ _ 1 _ _ _ G9.out.arg).trans (by rw [← HCS.out]; rfl), (cell_of_row _ _ 2 _ _ _ G9.out.arg).trans (by rw [← HCS.out]; rfl), (cell_of_row _ _ 3 _ _ _ G9.out.arg).trans (by rw [← HCS.out]; rfl), (cell_of_row _ _ 4 _ _ _ G9.out.arg).trans (by rw [← HCS.out]; rfl), (cell_of_row _ _ 5 _ _ _ G9.out.arg).trans (by rw [← HCS.out]; rfl), (cell_of_row _ _ 6 _ _ _ G9.out.arg).trans (by rw [← HCS.out]; rfl), (cell_of_row _ _ 7 _ _ _ G9.out.arg).trans (by rw [← HCS.out]; rfl)⟩
      refine ⟨HS, ?_⟩
      clear HS
      try simp only [Act.put, List.setIfInBounds_toArray, List.set_cons_zero, List.set_cons_succ]
      refine ⟨by kernel_rfl, ?_⟩
      simp only [List.drop_succ_cons, List.drop_zero]
      refine wpList_bd rfl 53 _ rfl #[.int .u8 fn, .int .u16 fl, .int .u8 tn, .int .u16 tl, .int .u64 seq, .int .u64 ack, .bool has, .slice (some ⟨W5.heap.size, 0, none⟩) 0 0] (by kernel_rfl) ?_
      refine wpList_store_row rfl 53 (.tmp 2) (.tmp 19) rfl (W.heap.size + 1) #[.int .u8 fn, .int .u16 fl, .int .u8 tn, .int .u16 tl, .int .u64 seq, .int .u64 ack, .bool has, .slice (some ⟨W5.heap.size, 0, none⟩) 0 0] (by rfl) (by rfl) 53 #[.int .u8 0, .int .u16 0, .int .u8 0, .int .u16 0, .int .u64 0, .int .u64 0, .bool false, .slice none 0 0] G9.out.res (by kernel_rfl) rfl (by simp [Value.oneCell']) ?_
      have ER := Lib.hid (setRow_heap W9 (W.heap.size + 1) _ #[.int .u8 fn, .int .u16 fl, .int .u8 tn, .int .u16 tl, .int .u64 seq, .int .u64 ack, .bool has, .slice (some ⟨W5.heap.size, 0, none⟩) 0 0] _ _ G9.out.res)
      go_wp2
      exact bodyPost_ret (v := .agg #[.int .u8 fn, .int .u16 fl, .int .u8 tn, .int .u16 tl, .int .u64 seq, .int .u64 ack, .bool has, .slice (some ⟨W5.heap.size, 0, none⟩) 0 0]) (results_cell_row (p := 2) (ty := 53) rfl _ _ (W.heap.size + 1) 53 #[.int .u8 fn, .int .u16 fl, .int .u8 tn, .int .u16 tl, .int .u64 seq, .int .u64 ack, .bool has, .slice (some ⟨W5.heap.size, 0, none⟩) 0 0] (0, 0) _ (by rfl) ER.out Try.underlying53 rfl (by kernel_rfl)) rfl ⟨_, 0, rfl, (fun h => absurd rfl h), (by unfold maxLen; omega), below_row G9.out.below (Nat.le_succ _) _⟩
    · refine (wpOp_vl (i := 12) (v := .slice (some ⟨W4.heap.size, 0, none⟩) 0 0) (w' := W4.alloc (.cells #[] 5)) rfl rfl 15 rfl _ rfl (by unfold bareO; go_simp) ?_)
      obtain ⟨W5, hW5⟩ : ∃ x, W4.alloc (.cells #[] 5) = x := ⟨_, rfl⟩
      have O5 : Hid (W5.ownsRow W4.heap.size 5 1 (.slice (some ⟨W4.heap.size, 0, none⟩) 0 0) 0 []) := Lib.hid (by rw [← hW5]; exact ⟨rfl, .inr ⟨W4.heap.size, 0, #[], rfl, Nat.le_refl _, heap_alloc_new _ _, Nat.le_refl _, by unfold maxLen; omega, rfl, rfl⟩⟩)
      have G5 : Hid (Going W cs W5) := Lib.hid (by rw [← hW5]; exact G4.out.on ((Below.refl _ _).alloc (Nat.le_refl _) _))
      have T5 := Lib.hid (G4.out.lt)
      rw [hW5]
      clear hW5
      have HS : W5.cell? ⟨W.heap.size, 0, none⟩ = some (.int .u8 fn) ∧ W5.cell? ⟨W.heap.size, 1, none⟩ = some (.int .u16 fl) ∧ W5.cell? ⟨W.heap.size, 2, none⟩ = some (.int .u8 tn) ∧ W5.cell? ⟨W.heap.size, 3, none⟩ = some (.int .u16 tl) ∧ W5.cell? ⟨W.heap.size, 4, none⟩ = some (.int .u64 seq) ∧ W5.cell? ⟨W.heap.size, 5, none⟩ = some (.int .u64 ack) ∧ W5.cell? ⟨W.heap.size, 6, none⟩ = some (.bool has) ∧ W5.cell? ⟨W.heap.size, 7, none⟩ = some (.slice none 0 0) := ⟨(cell_of_row _ _ 0 _ _ _ G5.out.arg).trans (by rw [← HCS.out]; rfl), (cell_of_row _ _ 1 _ _ _ G5.out.arg).trans (by rw [← HCS.out]; rfl), (cell_of_row _ _ 2 _ _ _ G5.out.arg).trans (by rw [← HCS.out]; rfl), (cell_of_row _ _ 3 _ _ _ G5.out.arg).trans (by rw [← HCS.out]; rfl), (cell_of_row _ _ 4 _ _ _ G5.out.arg).trans (by rw [← HCS.out]; rfl), (cell_of_row _ _ 5 _ _ _ G5.out.arg).trans (by rw [← HCS.out]; rfl), (cell_of_row _ _ 6 _ _ _ G5.out.arg).trans (by rw [← HCS.out]; rfl), (cell_of_row _ _ 7 _ _ _ G5.out.arg).trans (by rw [← HCS.out]; rfl)⟩
      refine ⟨HS, ?_⟩
      clear HS
      try simp only [Act.put, List.setIfInBounds_toArray, List.set_cons_zero, List.set_cons_succ]
      refine FirstH.only (i := 5) (by kernel_rfl) (by decide) inv (fun inv => wpOp_call (i := 5) rfl rfl 8 rfl _ rfl 10 #[.agg #[.int .u8 tn, .int .u16 tl]] (by unfold bareO; go_simp) (TPQ.out _ _ _) ?_)
      rintro e W6 ⟨rfl, h6⟩
      have b6 : Below W5.heap.size W5 W6 := by rw [← h6]; exact two_up _ _ _ _ _
      have G6 := Lib.hid (G5.out.on b6)
      have O6 := Lib.hid (owns_keepB O5.out fun g hg => b6.block g (O5.out.lt g hg).2)
      clear h6 b6
      have HS : W6.cell? ⟨W.heap.size, 0, none⟩ = some (.int .u8 fn) ∧ W6.cell? ⟨W.heap.size, 1, none⟩ = some (.int .u16 fl) ∧ W6.cell? ⟨W.heap.size, 2, none⟩ = some (.int .u8 tn) ∧ W6.cell? ⟨W.heap.size, 3, none⟩ = some (.int .u16 tl) ∧ W6.cell? ⟨W.heap.size, 4, none⟩ = some (.int .u64 seq) ∧ W6.cell? ⟨W.heap.size, 5, none⟩ = some (.int .u64 ack) ∧ W6.cell? ⟨W.heap.size, 6, none⟩ = some (.bool has) ∧ W6.cell? ⟨W.heap.size, 7, none⟩ = some (.slice none 0 0) := ⟨(cell_of_row _ _ 0 _ _ _ G6.out.arg).trans (by rw [← HCS.out]; rfl), (cell_of_row _ _ 1 _ _ _ G6.out.arg).trans (by rw [← HCS.out]; rfl), (cell_of_row _ _ 2 _ _ _ G6.out.arg).trans (by rw [← HCS.out]; rfl), (cell_of_row _ _ 3 _ _ _ G6.out.arg).trans (by rw [← HCS.out]; rfl), (cell_of_row _ _ 4 _ _ _ G6.out.arg).trans (by rw [← HCS.out]; rfl), (cell_of_row _ _ 5 _ _ _ G6.out.arg).trans (by rw [← HCS.out]; rfl), (cell_of_row _ _ 6 _ _ _ G6.out.arg).trans (by rw [← HCS.out]; rfl), (cell_of_row _ _ 7 _ _ _ G6.out.arg).trans (by rw [← HCS.out]; rfl)⟩
      refine ⟨_, rfl, HS, ?_⟩
      clear HS
      try simp only [Act.put, List.setIfInBounds_toArray, List.set_cons_zero, List.set_cons_succ]
      refine FirstH.only (i := 15) (by kernel_rfl) (by decide) inv (fun inv => wpOp_vl (i := 15) (v := .slice (some ⟨W4.heap.size, 0, none⟩) 0 0) (w' := W6) rfl rfl 18 rfl _ rfl (by unfold bareO; go_simp) ?_)
      have G9 := G6
      obtain ⟨W9, hW9⟩ : ∃ x, W6 = x := ⟨_, rfl⟩
      rw [hW9] at G9 ⊢
      have HS : W9.cell? ⟨W.heap.size, 0, none⟩ = some (.int .u8 fn) ∧ W9.cell? ⟨W.heap.size, 1, none⟩ = some (.int .u16 fl) ∧ W9.cell? ⟨W.heap.size, 2, none⟩ = some (.int .u8 tn) ∧ W9.cell? ⟨W.heap.size, 3, none⟩ = some (.int .u16 tl) ∧ W9.cell? ⟨W.heap.size, 4, none⟩ = some (.int .u64 seq) ∧ W9.cell? ⟨W.heap.size, 5, none⟩ = some (.int .u64 ack) ∧ W9.cell? ⟨W.heap.size, 6, none⟩ = some (.bool has) ∧ W9.cell? ⟨W.heap.size, 7, none⟩ = some (.slice none 0 0) := ⟨(cell_of_row _ _ 0 _ _ _ G9.out.arg).trans (by rw [← HCS.out]; rfl), (cell_of_row _ _ 1 _ _ _ G9.out.arg).trans (by rw [← HCS.out]; rfl), (cell_of_row _ _ 2 _ _ _ G9.out.arg).trans (by rw [← HCS.out]; rfl), (cell_of_row _ _ 3 _ _ _ G9.out.arg).trans (by rw [← HCS.out]; rfl), (cell_of_row _ _ 4 _ _ _ G9.out.arg).trans (by rw [← HCS.out]; rfl), (cell_of_row _ _ 5 _ _ _ G9.out.arg).trans (by rw [← HCS.out]; rfl), (cell_of_row _ _ 6 _ _ _ G9.out.arg).trans (by rw [← HCS.out]; rfl), (cell_of_row _ _ 7 _ _ _ G9.out.arg).trans (by rw [← HCS.out]; rfl)⟩
      refine ⟨HS, ?_⟩
      clear HS
      try simp only [Act.put, List.setIfInBounds_toArray, List.set_cons_zero, List.set_cons_succ]
      refine ⟨by kernel_rfl, ?_⟩
      simp only [List.drop_succ_cons, List.drop_zero]
      refine wpList_bd rfl 53 _ rfl #[.int .u8 fn, .int .u16 fl, .int .u8 tn, .int .u16 tl, .int .u64 seq, .int .u64 ack, .bool has, .slice (some ⟨W4.heap.size, 0, none⟩) 0 0] (by kernel_rfl) ?_
      refine wpList_store_row rfl 53 (.tmp 2) (.tmp 19) rfl (W.heap.size + 1) #[.int .u8 fn, .int .u16 fl, .int .u8 tn, .int .u16 tl, .int .u64 seq, .int .u64 ack, .bool has, .slice (some ⟨W4.heap.size, 0, none⟩) 0 0] (by rfl) (by rfl) 53 #[.int .u8 0, .int .u16 0, .int .u8 0, .int .u16 0, .int .u64 0, .int .u64 0, .bool false, .slice none 0 0] G9.out.res (by kernel_rfl) rfl (by simp [Value.oneCell']) ?_
      have ER := Lib.hid (setRow_heap W9 (W.heap.size + 1) _ #[.int .u8 fn, .int .u16 fl, .int .u8 tn, .int .u16 tl, .int .u64 seq, .int .u64 ack, .bool has, .slice (some ⟨W4.heap.size, 0, none⟩) 0 0] _ _ G9.out.res)
      go_wp2
      exact bodyPost_ret (v := .agg #[.int .u8 fn, .int .u16 fl, .int .u8 tn, .int .u16 tl, .int .u64 seq, .int .u64 ack, .bool has, .slice (some ⟨W4.heap.size, 0, none⟩) 0 0]) (results_cell_row (p := 2) (ty := 53) rfl _ _ (W.heap.size + 1) 53 #[.int .u8 fn, .int .u16 fl, .int .u8 tn, .int .u16 tl, .int .u64 seq, .int .u64 ack, .bool has, .slice (some ⟨W4.heap.size, 0, none⟩) 0 0] (0, 0) _ (by rfl) ER.out Try.underlying53 rfl (by kernel_rfl)) rfl ⟨_, 0, rfl, (fun h => absurd rfl h), (by unfold maxLen; omega), below_row G9.out.below (Nat.le_succ _) _⟩
  · refine (wpOp_vl (i := 12) (v := .slice (some ⟨W3.heap.size, 0, none⟩) 0 0) (w' := W3.alloc (.cells #[] 5)) rfl rfl 15 rfl _ rfl (by unfold bareO; go_simp) ?_)
    obtain ⟨W4, hW4⟩ : ∃ x, W3.alloc (.cells #[] 5) = x := ⟨_, rfl⟩
    have O4 : Hid (W4.ownsRow W3.heap.size 5 1 (.slice (some ⟨W3.heap.size, 0, none⟩) 0 0) 0 []) := Lib.hid (by rw [← hW4]; exact ⟨rfl, .inr ⟨W3.heap.size, 0, #[], rfl, Nat.le_refl _, heap_alloc_new _ _, Nat.le_refl _, by unfold maxLen; omega, rfl, rfl⟩⟩)
    have G4 : Hid (Going W cs W4) := Lib.hid (by rw [← hW4]; exact G3.out.on ((Below.refl _ _).alloc (Nat.le_refl _) _))
    have T4 := Lib.hid (G3.out.lt)
    rw [hW4]
    clear hW4
    have HS : W4.cell? ⟨W.heap.size, 0, none⟩ = some (.int .u8 fn) ∧ W4.cell? ⟨W.heap.size, 1, none⟩ = some (.int .u16 fl) ∧ W4.cell? ⟨W.heap.size, 2, none⟩ = some (.int .u8 tn) ∧ W4.cell? ⟨W.heap.size, 3, none⟩ = some (.int .u16 tl) ∧ W4.cell? ⟨W.heap.size, 4, none⟩ = some (.int .u64 seq) ∧ W4.cell? ⟨W.heap.size, 5, none⟩ = some (.int .u64 ack) ∧ W4.cell? ⟨W.heap.size, 6, none⟩ = some (.bool has) ∧ W4.cell? ⟨W.heap.size, 7, none⟩ = some (.slice none 0 0) := ⟨(cell_of_row _ _ 0 _ _ _ G4.out.arg).trans (by rw [← HCS.out]; rfl), (cell_of_row _ _ 1 _ _ _ G4.out.arg).trans (by rw [← HCS.out]; rfl), (cell_of_row _ _ 2 _ _ _ G4.out.arg).trans (by rw [← HCS.out]; rfl), (cell_of_row _ _ 3 _ _ _ G4.out.arg).trans (by rw [← HCS.out]; rfl), (cell_of_row _ _ 4 _ _ _ G4.out.arg).trans (by rw [← HCS.out]; rfl), (cell_of_row _ _ 5 _ _ _ G4.out.arg).trans (by rw [← HCS.out]; rfl), (cell_of_row _ _ 6 _ _ _ G4.out.arg).trans (by rw [← HCS.out]; rfl), (cell_of_row _ _ 7 _ _ _ G4.out.arg).trans (by rw [← HCS.out]; rfl)⟩
    refine ⟨HS, ?_⟩
    clear HS
    try simp only [Act.put, List.setIfInBounds_toArray, List.set_cons_zero, List.set_cons_succ]
    refine FirstH.only (i := 2) (by kernel_rfl) (by decide) inv (fun inv => wpOp_call (i := 2) rfl rfl 5 rfl _ rfl 10 #[.agg #[.int .u8 fn, .int .u16 fl]] (by unfold bareO; go_simp) (TPQ.out _ _ _) ?_)
    rintro e W5 ⟨rfl, h5⟩
    have b5 : Below W4.heap.size W4 W5 := by rw [← h5]; exact two_up _ _ _ _ _
    have G5 := Lib.hid (G4.out.on b5)
    have O5 := Lib.hid (owns_keepB O4.out fun g hg => b5.block g (O4.out.lt g hg).2)
    clear h5 b5
    have HS : W5.cell? ⟨W.heap.size, 0, none⟩ = some (.int .u8 fn) ∧ W5.cell? ⟨W.heap.size, 1, none⟩ = some (.int .u16 fl) ∧ W5.cell? ⟨W.heap.size, 2, none⟩ = some (.int .u8 tn) ∧ W5.cell? ⟨W.heap.size, 3, none⟩ = some (.int .u16 tl) ∧ W5.cell? ⟨W.heap.size, 4, none⟩ = some (.int .u64 seq) ∧ W5.cell? ⟨W.heap.size, 5, none⟩ = some (.int .u64 ack) ∧ W5.cell? ⟨W.heap.size, 6, none⟩ = some (.bool has) ∧ W5.cell? ⟨W.heap.size, 7, none⟩ = some (.slice none 0 0) := ⟨(cell_of_row _ _ 0 _ _ _ G5.out.arg).trans (by rw [← HCS.out]; rfl), (cell_of_row _ _ 1 _ _ _ G5.out.arg).trans (by rw [← HCS.out]; rfl), (cell_of_row _ _ 2 _ _ _ G5.out.arg).trans (by rw [← HCS.out]; rfl), (cell_of_row _ _ 3 _ _ _ G5.out.arg).trans (by rw [← HCS.out]; rfl), (cell_of_row _ _ 4 _ _ _ G5.out.arg).trans (by rw [← HCS.out]; rfl), (cell_of_row _ _ 5 _ _ _ G5.out.arg).trans (by rw [← HCS.out]; rfl), (cell_of_row _ _ 6 _ _ _ G5.out.arg).trans (by rw [← HCS.out]; rfl), (cell_of_row _ _ 7 _ _ _ G5.out.arg).trans (by rw [← HCS.out]; rfl)⟩
    refine ⟨_, rfl, HS, ?_⟩
    clear HS
    try simp only [Act.put, List.setIfInBounds_toArray, List.set_cons_zero, List.set_cons_succ]
    refine FirstH.only (i := 5) (by kernel_rfl) (by decide) inv (fun inv => wpOp_call (i := 5) rfl rfl 8 rfl _ rfl 10 #[.agg #[.int .u8 tn, .int .u16 tl]] (by unfold bareO; go_simp) (TPQ.out _ _ _) ?_)
    rintro e W6 ⟨rfl, h6⟩
    have b6 : Below W5.heap.size W5 W6 := by rw [← h6]; exact two_up _ _ _ _ _
    have G6 := Lib.hid (G5.out.on b6)
    have O6 := Lib.hid (owns_keepB O5.out fun g hg => b6.block g (O5.out.lt g hg).2)
    clear h6 b6
    have HS : W6.cell? ⟨W.heap.size, 0, none⟩ = some (.int .u8 fn) ∧ W6.cell? ⟨W.heap.size, 1, none⟩ = some (.int .u16 fl) ∧ W6.cell? ⟨W.heap.size, 2, none⟩ = some (.int .u8 tn) ∧ W6.cell? ⟨W.heap.size, 3, none⟩ = some (.int .u16 tl) ∧ W6.cell? ⟨W.heap.size, 4, none⟩ = some (.int .u64 seq) ∧ W6.cell? ⟨W.heap.size, 5, none⟩ = some (.int .u64 ack) ∧ W6.cell? ⟨W.heap.size, 6, none⟩ = some (.bool has) ∧ W6.cell? ⟨W.heap.size, 7, none⟩ = some (.slice none 0 0) := ⟨(cell_of_row _ _ 0 _ _ _ G6.out.arg).trans (by rw [← HCS.out]; rfl), (cell_of_row _ _ 1 _ _ _ G6.out.arg).trans (by rw [← HCS.out]; rfl), (cell_of_row _ _ 2 _ _ _ G6.out.arg).trans (by rw [← HCS.out]; rfl), (cell_of_row _ _ 3 _ _ _ G6.out.arg).trans (by rw [← HCS.out]; rfl), (cell_of_row _ _ 4 _ _ _ G6.out.arg).trans (by rw [← HCS.out]; rfl), (cell_of_row _ _ 5 _ _ _ G6.out.arg).trans (by rw [← HCS.out]; rfl), (cell_of_row _ _ 6 _ _ _ G6.out.arg).trans (by rw [← HCS.out]; rfl), (cell_of_row _ _ 7 _ _ _ G6.out.arg).trans (by rw [← HCS.out]; rfl)⟩
    refine ⟨_, rfl, HS, ?_⟩
    clear HS
    try simp only [Act.put, List.setIfInBounds_toArray, List.set_cons_zero, List.set_cons_succ]
    refine FirstH.only (i := 15) (by kernel_rfl) (by decide) inv (fun inv => wpOp_vl (i := 15) (v := .slice (some ⟨W3.heap.size, 0, none⟩) 0 0) (w' := W6) rfl rfl 18 rfl _ rfl (by unfold bareO; go_simp) ?_)
    have G9 := G6
    obtain ⟨W9, hW9⟩ : ∃ x, W6 = x := ⟨_, rfl⟩
    rw [hW9] at G9 ⊢
    have HS : W9.cell? ⟨W.heap.size, 0, none⟩ = some (.int .u8 fn) ∧ W9.cell? ⟨W.heap.size, 1, none⟩ = some (.int .u16 fl) ∧ W9.cell? ⟨W.heap.size, 2, none⟩ = some (.int .u8 tn) ∧ W9.cell? ⟨W.heap.size, 3, none⟩ = some (.int .u16 tl) ∧ W9.cell? ⟨W.heap.size, 4, none⟩ = some (.int .u64 seq) ∧ W9.cell? ⟨W.heap.size, 5, none⟩ = some (.int .u64 ack) ∧ W9.cell? ⟨W.heap.size, 6, none⟩ = some (.bool has) ∧ W9.cell? ⟨W.heap.size, 7, none⟩ = some (.slice none 0 0) := ⟨(cell_of_row _ _ 0 _ _ _ G9.out.arg).trans (by rw [← HCS.out]; rfl), (cell_of_row _ _ 1 _ _ _ G9.out.arg).trans (by rw [← HCS.out]; rfl), (cell_of_row _ _ 2 _ _ _ G9.out.arg).trans (by rw [← HCS.out]; rfl), (cell_of_row _ _ 3 _ _ _ G9.out.arg).trans (by rw [← HCS.out]; rfl), (cell_of_row _ _ 4 _ _ _ G9.out.arg).trans (by rw [← HCS.out]; rfl), (cell_of_row _ _ 5 _ _ _ G9.out.arg).trans (by rw [← HCS.out]; rfl), (cell_of_row _ _ 6 _ _ _ G9.out.arg).trans (by rw [← HCS.out]; rfl), (cell_of_row _ _ 7 _ _ _ G9.out.arg).trans (by rw [← HCS.out]; rfl)⟩
    refine ⟨HS, ?_⟩
    clear HS
    try simp only [Act.put, List.setIfInBounds_toArray, List.set_cons_zero, List.set_cons_succ]
    refine ⟨by kernel_rfl, ?_⟩
    simp only [List.drop_succ_cons, List.drop_zero]
    refine wpList_bd rfl 53 _ rfl #[.int .u8 fn, .int .u16 fl, .int .u8 tn, .int .u16 tl, .int .u64 seq, .int .u64 ack, .bool has, .slice (some ⟨W3.heap.size, 0, none⟩) 0 0] (by kernel_rfl) ?_
    refine wpList_store_row rfl 53 (.tmp 2) (.tmp 19) rfl (W.heap.size + 1) #[.int .u8 fn, .int .u16 fl, .int .u8 tn, .int .u16 tl, .int .u64 seq, .int .u64 ack, .bool has, .slice (some ⟨W3.heap.size, 0, none⟩) 0 0] (by rfl) (by rfl) 53 #[.int .u8 0, .int .u16 0, .int .u8 0, .int .u16 0, .int .u64 0, .int .u64 0, .bool false, .slice none 0 0] G9.out.res (by kernel_rfl) rfl (by simp [Value.oneCell']) ?_
    have ER := Lib.hid (setRow_heap W9 (W.heap.size + 1) _ #[.int .u8 fn, .int .u16 fl, .int .u8 tn, .int .u16 tl, .int .u64 seq, .int .u64 ack, .bool has, .slice (some ⟨W3.heap.size, 0, none⟩) 0 0] _ _ G9.out.res)
    go_wp2
    exact bodyPost_ret (v := .agg #[.int .u8 fn, .int .u16 fl, .int .u8 tn, .int .u16 tl, .int .u64 seq, .int .u64 ack, .bool has, .slice (some ⟨W3.heap.size, 0, none⟩) 0 0]) (results_cell_row (p := 2) (ty := 53) rfl _ _ (W.heap.size + 1) 53 #[.int .u8 fn, .int .u16 fl, .int .u8 tn, .int .u16 tl, .int .u64 seq, .int .u64 ack, .bool has, .slice (some ⟨W3.heap.size, 0, none⟩) 0 0] (0, 0) _ (by rfl) ER.out Try.underlying53 rfl (by kernel_rfl)) rfl ⟨_, 0, rfl, (fun h => absurd rfl h), (by unfold maxLen; omega), below_row G9.out.below (Nat.le_succ _) _⟩


theorem packW (p : Hp) (A : Option Addr) (c : Nat) (W : World) (hr : BytesAt W W.heap.size A p.B) (hl : p.B.length ≤ 1000000) (hA : A = none → c = 0) :
    Calls Try.prog 20 #[.agg (p.cs A c)] W fun e W' => ∃ A2 c2, e = .returned (.agg (p.cs A2 c2)) ∧ OwnB W' 0 A2 p.B ∧ p.B.length ≤ c2 ∧ c2 ≤ maxLen ∧ Below W.heap.size W W' := by
  obtain ⟨fn, fl, tn, tl, seq, ack, has, B⟩ := p
  cases A with
  | some ad => exact packO fn fl tn tl seq ack has B ad c B.length W rfl hr (by simp at hl; omega)
  | none =>
    obtain rfl := hA rfl
    have hB : B = [] := by
      rcases Classical.em (B = []) with h | h
      · exact h
      · obtain ⟨g, o, e, -⟩ := hr h
        cases e
    subst hB
    refine (packO0 fn fl tn tl seq ack has W).mono fun e W' ⟨A2, c2, he, h1, h2, h3⟩ => ⟨A2, c2, he, h1, Nat.zero_le _, h2, h3⟩

end Go.Proofs.Ytgnfclikdfllnaa
