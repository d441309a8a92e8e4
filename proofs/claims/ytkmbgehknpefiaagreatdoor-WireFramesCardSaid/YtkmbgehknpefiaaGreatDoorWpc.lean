/-
  The law's Packet: the document's packet in the program's form, by an exact answer. Condition: the body lies in memory.
-/
import Derived.Test.YtkmbgehknpefiaaGreatDoorWpu
import Derived.Test.YtkmbgehknpefiaaGreatDoorEfh
import Derived.Test.YtkmbgehknpefiaaGreatDoorWk1
import Derived.Test.YtkmbgehknpefiaaGreatDoorIConv
import Derived.Laws.Rows
import Derived.Laws.Tables
import Derived.Laws.CopyOwn
namespace Go.Proofs.YtkmbgehknpefiaaGreatDoor
set_option linter.unusedSimpArgs false
set_option linter.unusedVariables false
open Go.RowKit Go.Sort

theorem FirstH.two {P : Program} {md : Region.Mode} {ops : Array Oper} {Q : Exit → Act → World → Prop} {S : World → Prop} {n i j : Nat} {L : Array Bool → Act → World → Prop} {f : Nat} {done : Array Bool} {a : Act} {w : World} (hr : Region.ready md ops done = [i, j]) (hin : i < n) (hjn : j < n) (inv : HeadInv md ops n done)
    (Hi : HeadInv md ops n (done.setIfInBounds i true) → wpOp P ops Q i (fun a' w' => S w' ∧ FirstH P md ops Q S n L f (done.setIfInBounds i true) a' w') a w)
    (Hj : HeadInv md ops n (done.setIfInBounds j true) → wpOp P ops Q j (fun a' w' => S w' ∧ FirstH P md ops Q S n L f (done.setIfInBounds j true) a' w') a w) : FirstH P md ops Q S n L (f + 1) done a w :=
  ⟨by rw [hr]; simp, fun k hk => by
    have hk' := hk
    rw [hr] at hk'
    simp only [List.mem_cons, List.not_mem_nil, or_false] at hk'
    rcases hk' with rfl | rfl
    · exact ⟨hin, Hi (inv.set (by rw [hr]; simp) hin)⟩
    · exact ⟨hjn, Hj (inv.set (by rw [hr]; simp) hjn)⟩⟩
/-- an operation that yields a value and turns the world. -/
theorem wpOp_vl {P : Program} {w w' : World} {ops : Array Oper} {o : Oper} {i : Nat} {a : Act} {K : Act → World → Prop} {Q : Exit → Act → World → Prop} {v : Value} (hi : ops[i]? = some o) (hgd : o.guard = none) (d : Tmp) (hd : o.dst = some d) (p : Op) (ho : o.op = p)
    (hr : (execOp a.eval (bareO p o.type)).run P w = .ok (.value v) w') (h : K (a.put (some d) v) w') : wpOp P ops Q i K a w := by
  rw [execOp_bare ho] at hr
  rw [← hd] at h
  unfold wpOp
  simp only [hi]
  rw [if_pos (by simp [Region.wanted, hgd])]
  refine .inl ?_
  unfold Oper.wp
  rw [hr, Oper.upon_value]
  exact h
/-- bytes appended to a row that is one's own, as one step. -/
theorem wpOp_app {w : World} {ops : Array Oper} {o : Oper} {i : Nat} {a : Act} {K : Act → World → Prop} {Q : Exit → Act → World → Prop} (hi : ops[i]? = some o) (hgd : o.guard = none) (d : Tmp) (hd : o.dst = some d) (s xo : Operand)
    (ho : o.op = .call { callee := .builtin .append, args := #[s, xo], argTypes := #[41, 41] })
    (base : Nat) (v : Value) (n : Nat) (xs : List Value) (hs : a.eval s = v) (hown : w.ownsRow base 5 1 v n xs)
    (ad : Addr) (X : List UInt8) (m c B : Nat) (hx : a.eval xo = .slice (some ad) m c) (hmm : m = X.length) (hr : BytesAt w B (some ad) X)
    (hlen : n + X.length ≤ 140737488355328) (hbase : base ≤ w.heap.size)
    (h : ∀ v' w', w'.ownsRow base 5 1 v' (n + X.length) (xs ++ Lib.byteCells X) → w.grownBy w' v.ownBlock → K (a.put (some d) v') w') : wpOp Tryz.prog ops Q i K a w := by
  subst hmm
  rw [← hd] at h
  obtain ⟨i0, hi0, hz0, hz1, hz2⟩ := info_parts byteI
  unfold wpOp
  simp only [hi]
  rw [if_pos (by simp [Region.wanted, hgd])]
  refine .inl ?_
  exact wp_append_own w s xo 41 ho base 5 i0 _ 1 1 Tryz.underlying41 hi0 hz0 hz1 hz2 rfl (by decide) v n xs hs hown ad X.length c (Lib.byteCells X) hx (by rw [Lib.byteCells_length, Nat.mul_one]) hr.cells (byteCells_one X)
    (by unfold maxLen; omega) (by omega) hbase fun v' w' h2 h3 _ => h v' w' h2 h3

/-- what goes along: the packet that is converted, and where the answer is laid. -/
structure Going (W : World) (cs : Array Value) (X : World) : Prop where
  below : Below W.heap.size W X
  arg : X.heap[W.heap.size]? = some (.cells cs 73 (0, 0))
  res : X.heap[W.heap.size + 1]? = some (.cells #[.int .u8 0, .int .u16 0, .int .u8 0, .int .u16 0, .int .u64 0, .int .u64 0, .bool false, .slice none 0 0] 76 (0, 0))
  lt : W.heap.size + 1 < X.heap.size
theorem Going.on {W : World} {cs : Array Value} {X Y : World} (h : Going W cs X) (hb : Below X.heap.size X Y) : Going W cs Y :=
  ⟨h.below.trans (hb.mono h.below.size), (hb.block _ (Nat.lt_of_succ_lt h.lt)).trans h.arg, (hb.block _ h.lt).trans h.res, Nat.lt_of_lt_of_le h.lt hb.size⟩
theorem Going.grown {W : World} {cs : Array Value} {X Y : World} {k : Nat} (h : Going W cs X) (hg : X.grownBy Y (some k)) (hk : W.heap.size + 1 < k) : Going W cs Y :=
  ⟨h.below.grown hg h.below.size (fun j hj => by cases hj; omega), (hg.block _ (Nat.lt_of_succ_lt h.lt) (by simp; omega)).trans h.arg, (hg.block _ h.lt (by simp; omega)).trans h.res, Nat.lt_of_lt_of_le h.lt hg.size⟩
theorem BytesAt.setRow {W : World} {B k : Nat} {A : Option Addr} {L : List UInt8} (h : BytesAt W B A L) (hne : ∀ g o, A = some ⟨g, o, none⟩ → g ≠ k) (cs : Array Value) : BytesAt (W.setRow k cs) B A L := fun hx => by
  obtain ⟨b, o, e, hb, hc⟩ := h hx
  exact ⟨b, o, e, hb, fun j x hj => (cell_setRow_other _ _ _ _ (hne b o e)).trans (hc j x hj)⟩
theorem BytesAt.up {W : World} {B B' : Nat} {A : Option Addr} {L : List UInt8} (h : BytesAt W B A L) (hB : B ≤ B') : BytesAt W B' A L := h.keep hB fun _ _ _ => rfl
theorem two_up (w : World) (c1 c2 : Array Value) (t1 t2 : TypeId) : Below w.heap.size w ((w.alloc (.cells c1 t1)).alloc (.cells c2 t2)) := ((Below.refl _ _).alloc (Nat.le_refl _) _).alloc (by simp) _

set_option maxRecDepth 100000 in
set_option maxHeartbeats 4000000 in
theorem packO (fn fl tn tl seq ack : Nat) (has : Bool) (body : List UInt8) (ad : Addr) (c n : Nat) (W : World) (hn : n = body.length) (hr : BytesAt W W.heap.size (some ad) body) (hl : body.length ≤ 140737488355328) :
    Calls Tryz.prog 18 #[.agg #[.int .u8 fn, .int .u16 fl, .int .u8 tn, .int .u16 tl, .int .u64 seq, .int .u64 ack, .bool has, .slice (some ad) n c]] W fun e W' => ∃ A2 c2, e = .returned (.agg #[.int .u8 fn, .int .u16 fl, .int .u8 tn, .int .u16 tl, .int .u64 seq, .int .u64 ack, .bool has, .slice A2 n c2]) ∧ BytesAt W' W'.heap.size A2 body ∧ n ≤ c2 ∧ c2 ≤ maxLen ∧ Below W.heap.size W W' := by
  obtain ⟨A, hA⟩ : ∃ A, (some ad : Option Addr) = A := ⟨_, rfl⟩
  obtain ⟨cs, hcs⟩ : ∃ cs : Array Value, #[.int .u8 fn, .int .u16 fl, .int .u8 tn, .int .u16 tl, .int .u64 seq, .int .u64 ack, .bool has, .slice A n c] = cs := ⟨_, rfl⟩
  rw [hA]
  have HA := Lib.hid hA
  have HN := Lib.hid hn
  have HR := Lib.hid hr
  have KP := Lib.hid (fun a b w => I.toProc a b w)
  obtain ⟨W1, hW1⟩ : ∃ W1, W.alloc (.cells #[.int .u8 fn, .int .u16 fl, .int .u8 tn, .int .u16 tl, .int .u64 seq, .int .u64 ack, .bool has, .slice A n c] 73) = W1 := ⟨_, rfl⟩
  obtain ⟨W2, hW2⟩ : ∃ W2, W1.alloc (.cells #[.int .u8 0, .int .u16 0, .int .u8 0, .int .u16 0, .int .u64 0, .int .u64 0, .bool false, .slice none 0 0] 76) = W2 := ⟨_, rfl⟩
  have s1 : W1.heap.size = W.heap.size + 1 := by rw [← hW1]; simp
  have s2 : W2.heap.size = W.heap.size + 2 := by rw [← hW2]; simp [s1]
  have rA1 : W1.heap[W.heap.size]? = some (.cells cs 73 (0, 0)) := by rw [← hW1, ← hcs]; exact heap_alloc_new _ _
  have G2 : Going W cs W2 := ⟨by rw [← hW2, ← hW1]; exact two_up _ _ _ _ _, by rw [← hW2, Below.heap_alloc _ _ _ (by omega)]; exact rA1, by rw [← hW2, ← s1]; exact heap_alloc_new _ _, by omega⟩
  obtain ⟨W3, hW3⟩ : ∃ W3, W2.drew = W3 := ⟨_, rfl⟩
  have G3 : Hid (Going W cs W3) := Lib.hid (by rw [← hW3]; exact G2.on (Below.refl _ _).drew)
  have HW1 := Lib.hid hW1
  have HW2 := Lib.hid hW2
  have HW3 := Lib.hid hW3
  have S1 := Lib.hid s1
  have S2 := Lib.hid s2
  have HCS := Lib.hid hcs
  clear hA hn hr hW1 hW2 hW3 s1 s2 rA1 G2 hcs
  go_enter Tryz.func18, Tryz.ntmps18
  go_wp2
  refine region_heldT (S := fun X => X.cell? ⟨W.heap.size, 0, none⟩ = some (.int .u8 fn) ∧ X.cell? ⟨W.heap.size, 1, none⟩ = some (.int .u16 fl) ∧ X.cell? ⟨W.heap.size, 2, none⟩ = some (.int .u8 tn) ∧ X.cell? ⟨W.heap.size, 3, none⟩ = some (.int .u16 tl) ∧ X.cell? ⟨W.heap.size, 4, none⟩ = some (.int .u64 seq) ∧ X.cell? ⟨W.heap.size, 5, none⟩ = some (.int .u64 ack) ∧ X.cell? ⟨W.heap.size, 6, none⟩ = some (.bool has) ∧ X.cell? ⟨W.heap.size, 7, none⟩ = some (.slice A n c)) 16 (by kernel_rfl) (by decide) (fun inv => ?_)
  change FirstH _ _ _ _ _ _ _ _ _ _ ((W.alloc (.cells #[.int .u8 fn, .int .u16 fl, .int .u8 tn, .int .u16 tl, .int .u64 seq, .int .u64 ack, .bool has, .slice A n c] 73)).alloc (.cells #[.int .u8 0, .int .u16 0, .int .u8 0, .int .u16 0, .int .u64 0, .int .u64 0, .bool false, .slice none 0 0] 76)).drew
  rw [HW1.out, HW2.out, HW3.out]
  have HS : W3.cell? ⟨W.heap.size, 0, none⟩ = some (.int .u8 fn) ∧ W3.cell? ⟨W.heap.size, 1, none⟩ = some (.int .u16 fl) ∧ W3.cell? ⟨W.heap.size, 2, none⟩ = some (.int .u8 tn) ∧ W3.cell? ⟨W.heap.size, 3, none⟩ = some (.int .u16 tl) ∧ W3.cell? ⟨W.heap.size, 4, none⟩ = some (.int .u64 seq) ∧ W3.cell? ⟨W.heap.size, 5, none⟩ = some (.int .u64 ack) ∧ W3.cell? ⟨W.heap.size, 6, none⟩ = some (.bool has) ∧ W3.cell? ⟨W.heap.size, 7, none⟩ = some (.slice A n c) := ⟨(cell_of_row _ _ 0 _ _ _ G3.out.arg).trans (by rw [← HCS.out]; rfl), (cell_of_row _ _ 1 _ _ _ G3.out.arg).trans (by rw [← HCS.out]; rfl), (cell_of_row _ _ 2 _ _ _ G3.out.arg).trans (by rw [← HCS.out]; rfl), (cell_of_row _ _ 3 _ _ _ G3.out.arg).trans (by rw [← HCS.out]; rfl), (cell_of_row _ _ 4 _ _ _ G3.out.arg).trans (by rw [← HCS.out]; rfl), (cell_of_row _ _ 5 _ _ _ G3.out.arg).trans (by rw [← HCS.out]; rfl), (cell_of_row _ _ 6 _ _ _ G3.out.arg).trans (by rw [← HCS.out]; rfl), (cell_of_row _ _ 7 _ _ _ G3.out.arg).trans (by rw [← HCS.out]; rfl)⟩
  refine FirstH.go (i := 0) (v := .pointer (some ⟨W.heap.size, 0, none⟩)) rfl rfl _ rfl _ rfl (by kernel_rfl) (fun _ _ _ h => h) inv (fun X _ => by unfold bareO; go_simp) HS (fun inv => ?_)
  try simp only [Act.put, List.setIfInBounds_toArray, List.set_cons_zero, List.set_cons_succ]
  refine FirstH.go (i := 1) (v := .agg #[.int .u8 fn, .int .u16 fl]) rfl rfl _ rfl _ rfl (by kernel_rfl) (fun _ _ _ h => h) inv (fun X hS => by obtain ⟨l0, l1, l2, l3, l4, l5, l6, l7⟩ := hS; unfold bareO; go_simp) HS (fun inv => ?_)
  try simp only [Act.put, List.setIfInBounds_toArray, List.set_cons_zero, List.set_cons_succ]
  refine FirstH.go (i := 3) (v := .pointer (some ⟨W.heap.size, 2, none⟩)) rfl rfl _ rfl _ rfl (by kernel_rfl) (fun _ _ _ h => h) inv (fun X _ => by unfold bareO; go_simp) HS (fun inv => ?_)
  try simp only [Act.put, List.setIfInBounds_toArray, List.set_cons_zero, List.set_cons_succ]
  refine FirstH.go (i := 4) (v := .agg #[.int .u8 tn, .int .u16 tl]) rfl rfl _ rfl _ rfl (by kernel_rfl) (fun _ _ _ h => h) inv (fun X hS => by obtain ⟨l0, l1, l2, l3, l4, l5, l6, l7⟩ := hS; unfold bareO; go_simp) HS (fun inv => ?_)
  try simp only [Act.put, List.setIfInBounds_toArray, List.set_cons_zero, List.set_cons_succ]
  refine FirstH.go (i := 6) (v := .pointer (some ⟨W.heap.size, 4, none⟩)) rfl rfl _ rfl _ rfl (by kernel_rfl) (fun _ _ _ h => h) inv (fun X _ => by unfold bareO; go_simp) HS (fun inv => ?_)
  try simp only [Act.put, List.setIfInBounds_toArray, List.set_cons_zero, List.set_cons_succ]
  refine FirstH.go (i := 7) (v := .int .u64 seq) rfl rfl _ rfl _ rfl (by kernel_rfl) (fun _ _ _ h => h) inv (fun X hS => by obtain ⟨l0, l1, l2, l3, l4, l5, l6, l7⟩ := hS; unfold bareO; go_simp) HS (fun inv => ?_)
  try simp only [Act.put, List.setIfInBounds_toArray, List.set_cons_zero, List.set_cons_succ]
  refine FirstH.go (i := 8) (v := .pointer (some ⟨W.heap.size, 5, none⟩)) rfl rfl _ rfl _ rfl (by kernel_rfl) (fun _ _ _ h => h) inv (fun X _ => by unfold bareO; go_simp) HS (fun inv => ?_)
  try simp only [Act.put, List.setIfInBounds_toArray, List.set_cons_zero, List.set_cons_succ]
  refine FirstH.go (i := 9) (v := .int .u64 ack) rfl rfl _ rfl _ rfl (by kernel_rfl) (fun _ _ _ h => h) inv (fun X hS => by obtain ⟨l0, l1, l2, l3, l4, l5, l6, l7⟩ := hS; unfold bareO; go_simp) HS (fun inv => ?_)
  try simp only [Act.put, List.setIfInBounds_toArray, List.set_cons_zero, List.set_cons_succ]
  refine FirstH.go (i := 10) (v := .pointer (some ⟨W.heap.size, 6, none⟩)) rfl rfl _ rfl _ rfl (by kernel_rfl) (fun _ _ _ h => h) inv (fun X _ => by unfold bareO; go_simp) HS (fun inv => ?_)
  try simp only [Act.put, List.setIfInBounds_toArray, List.set_cons_zero, List.set_cons_succ]
  refine FirstH.go (i := 11) (v := .bool has) rfl rfl _ rfl _ rfl (by kernel_rfl) (fun _ _ _ h => h) inv (fun X hS => by obtain ⟨l0, l1, l2, l3, l4, l5, l6, l7⟩ := hS; unfold bareO; go_simp) HS (fun inv => ?_)
  try simp only [Act.put, List.setIfInBounds_toArray, List.set_cons_zero, List.set_cons_succ]
  refine FirstH.go (i := 13) (v := .pointer (some ⟨W.heap.size, 7, none⟩)) rfl rfl _ rfl _ rfl (by kernel_rfl) (fun _ _ _ h => h) inv (fun X _ => by unfold bareO; go_simp) HS (fun inv => ?_)
  try simp only [Act.put, List.setIfInBounds_toArray, List.set_cons_zero, List.set_cons_succ]
  refine FirstH.go (i := 14) (v := .slice A n c) rfl rfl _ rfl _ rfl (by kernel_rfl) (fun _ _ _ h => h) inv (fun X hS => by obtain ⟨l0, l1, l2, l3, l4, l5, l6, l7⟩ := hS; unfold bareO; go_simp) HS (fun inv => ?_)
  try simp only [Act.put, List.setIfInBounds_toArray, List.set_cons_zero, List.set_cons_succ]
  clear HS
  refine FirstH.two (i := 2) (j := 12) (by kernel_rfl) (by decide) (by decide) inv (fun inv => ?_) (fun inv => ?_)
  · refine (wpOp_call (i := 2) rfl rfl 5 rfl _ rfl 33 #[.agg #[.int .u8 fn, .int .u16 fl]] (by unfold bareO; go_simp) (KP.out _ _ _) ?_)
    rintro e W4 ⟨rfl, h4⟩
    have b4 : Below W3.heap.size W3 W4 := by rw [← h4]; exact two_up _ _ _ _ _
    have G4 := Lib.hid (G3.out.on b4)
    clear h4 b4
    have HS : W4.cell? ⟨W.heap.size, 0, none⟩ = some (.int .u8 fn) ∧ W4.cell? ⟨W.heap.size, 1, none⟩ = some (.int .u16 fl) ∧ W4.cell? ⟨W.heap.size, 2, none⟩ = some (.int .u8 tn) ∧ W4.cell? ⟨W.heap.size, 3, none⟩ = some (.int .u16 tl) ∧ W4.cell? ⟨W.heap.size, 4, none⟩ = some (.int .u64 seq) ∧ W4.cell? ⟨W.heap.size, 5, none⟩ = some (.int .u64 ack) ∧ W4.cell? ⟨W.heap.size, 6, none⟩ = some (.bool has) ∧ W4.cell? ⟨W.heap.size, 7, none⟩ = some (.slice A n c) := ⟨(cell_of_row _ _ 0 _ _ _ G4.out.arg).trans (by rw [← HCS.out]; rfl), (cell_of_row _ _ 1 _ _ _ G4.out.arg).trans (by rw [← HCS.out]; rfl), (cell_of_row _ _ 2 _ _ _ G4.out.arg).trans (by rw [← HCS.out]; rfl), (cell_of_row _ _ 3 _ _ _ G4.out.arg).trans (by rw [← HCS.out]; rfl), (cell_of_row _ _ 4 _ _ _ G4.out.arg).trans (by rw [← HCS.out]; rfl), (cell_of_row _ _ 5 _ _ _ G4.out.arg).trans (by rw [← HCS.out]; rfl), (cell_of_row _ _ 6 _ _ _ G4.out.arg).trans (by rw [← HCS.out]; rfl), (cell_of_row _ _ 7 _ _ _ G4.out.arg).trans (by rw [← HCS.out]; rfl)⟩
    refine ⟨_, rfl, HS, ?_⟩
    clear HS
    try simp only [Act.put, List.setIfInBounds_toArray, List.set_cons_zero, List.set_cons_succ]
    refine FirstH.two (i := 5) (j := 12) (by kernel_rfl) (by decide) (by decide) inv (fun inv => ?_) (fun inv => ?_)
    · refine (wpOp_call (i := 5) rfl rfl 8 rfl _ rfl 33 #[.agg #[.int .u8 tn, .int .u16 tl]] (by unfold bareO; go_simp) (KP.out _ _ _) ?_)
      rintro e W5 ⟨rfl, h5⟩
      have b5 : Below W4.heap.size W4 W5 := by rw [← h5]; exact two_up _ _ _ _ _
      have G5 := Lib.hid (G4.out.on b5)
      clear h5 b5
      have HS : W5.cell? ⟨W.heap.size, 0, none⟩ = some (.int .u8 fn) ∧ W5.cell? ⟨W.heap.size, 1, none⟩ = some (.int .u16 fl) ∧ W5.cell? ⟨W.heap.size, 2, none⟩ = some (.int .u8 tn) ∧ W5.cell? ⟨W.heap.size, 3, none⟩ = some (.int .u16 tl) ∧ W5.cell? ⟨W.heap.size, 4, none⟩ = some (.int .u64 seq) ∧ W5.cell? ⟨W.heap.size, 5, none⟩ = some (.int .u64 ack) ∧ W5.cell? ⟨W.heap.size, 6, none⟩ = some (.bool has) ∧ W5.cell? ⟨W.heap.size, 7, none⟩ = some (.slice A n c) := ⟨(cell_of_row _ _ 0 _ _ _ G5.out.arg).trans (by rw [← HCS.out]; rfl), (cell_of_row _ _ 1 _ _ _ G5.out.arg).trans (by rw [← HCS.out]; rfl), (cell_of_row _ _ 2 _ _ _ G5.out.arg).trans (by rw [← HCS.out]; rfl), (cell_of_row _ _ 3 _ _ _ G5.out.arg).trans (by rw [← HCS.out]; rfl), (cell_of_row _ _ 4 _ _ _ G5.out.arg).trans (by rw [← HCS.out]; rfl), (cell_of_row _ _ 5 _ _ _ G5.out.arg).trans (by rw [← HCS.out]; rfl), (cell_of_row _ _ 6 _ _ _ G5.out.arg).trans (by rw [← HCS.out]; rfl), (cell_of_row _ _ 7 _ _ _ G5.out.arg).trans (by rw [← HCS.out]; rfl)⟩
      refine ⟨_, rfl, HS, ?_⟩
      clear HS
      try simp only [Act.put, List.setIfInBounds_toArray, List.set_cons_zero, List.set_cons_succ]
      refine FirstH.only (i := 12) (by kernel_rfl) (by decide) inv (fun inv => wpOp_vl (i := 12) (v := .slice (some ⟨W5.heap.size, 0, none⟩) 0 0) (w' := W5.alloc (.cells #[] 5)) rfl rfl 15 rfl _ rfl (by unfold bareO; go_simp) ?_)
      obtain ⟨W6, hW6⟩ : ∃ x, W5.alloc (.cells #[] 5) = x := ⟨_, rfl⟩
      have O6 : Hid (W6.ownsRow W5.heap.size 5 1 (.slice (some ⟨W5.heap.size, 0, none⟩) 0 0) 0 []) := Lib.hid (by rw [← hW6]; exact ⟨rfl, .inr ⟨W5.heap.size, 0, #[], rfl, Nat.le_refl _, heap_alloc_new _ _, Nat.le_refl _, by unfold maxLen; omega, rfl, rfl⟩⟩)
      have G6 : Hid (Going W cs W6) := Lib.hid (by rw [← hW6]; exact G5.out.on ((Below.refl _ _).alloc (Nat.le_refl _) _))
      have T6 := Lib.hid (G5.out.lt)
      rw [hW6]
      clear hW6
      have HS : W6.cell? ⟨W.heap.size, 0, none⟩ = some (.int .u8 fn) ∧ W6.cell? ⟨W.heap.size, 1, none⟩ = some (.int .u16 fl) ∧ W6.cell? ⟨W.heap.size, 2, none⟩ = some (.int .u8 tn) ∧ W6.cell? ⟨W.heap.size, 3, none⟩ = some (.int .u16 tl) ∧ W6.cell? ⟨W.heap.size, 4, none⟩ = some (.int .u64 seq) ∧ W6.cell? ⟨W.heap.size, 5, none⟩ = some (.int .u64 ack) ∧ W6.cell? ⟨W.heap.size, 6, none⟩ = some (.bool has) ∧ W6.cell? ⟨W.heap.size, 7, none⟩ = some (.slice A n c) := ⟨(cell_of_row _ _ 0 _ _ _ G6.out.arg).trans (by rw [← HCS.out]; rfl), (cell_of_row _ _ 1 _ _ _ G6.out.arg).trans (by rw [← HCS.out]; rfl), (cell_of_row _ _ 2 _ _ _ G6.out.arg).trans (by rw [← HCS.out]; rfl), (cell_of_row _ _ 3 _ _ _ G6.out.arg).trans (by rw [← HCS.out]; rfl), (cell_of_row _ _ 4 _ _ _ G6.out.arg).trans (by rw [← HCS.out]; rfl), (cell_of_row _ _ 5 _ _ _ G6.out.arg).trans (by rw [← HCS.out]; rfl), (cell_of_row _ _ 6 _ _ _ G6.out.arg).trans (by rw [← HCS.out]; rfl), (cell_of_row _ _ 7 _ _ _ G6.out.arg).trans (by rw [← HCS.out]; rfl)⟩
      refine ⟨HS, ?_⟩
      clear HS
      try simp only [Act.put, List.setIfInBounds_toArray, List.set_cons_zero, List.set_cons_succ]
      refine FirstH.only (i := 15) (by kernel_rfl) (by decide) inv (fun inv => wpOp_app (i := 15) rfl rfl 18 rfl (.tmp 15) (.tmp 17) rfl W5.heap.size _ 0 [] rfl O6.out ad body n c W.heap.size (by rw [show (.tmp 17 : Operand) = .tmp 17 from rfl]; exact (congrArg (fun a => Value.slice a n c) HA.out.symm)) HN.out (HR.out.below G6.out.below (Nat.le_refl _) (Nat.le_refl _)) (by omega) (Nat.le_of_lt (O6.out.lt _ rfl).2) ?_)
      intro v9 W9 O9 g9
      have G9 := Lib.hid (G6.out.grown (k := W5.heap.size) g9 T6.out)
      rw [Nat.zero_add, List.nil_append] at O9
      obtain ⟨A9, c9, rfl, -, at9, le9, mx9⟩ := bytes_of_own O9
      have N9 : ∀ g9 o9, A9 = some ⟨g9, o9, none⟩ → g9 ≠ W.heap.size + 1 := fun g9 o9 h => by subst h; have h1 := (O9.lt g9 rfl).1; have h2 := T6.out; omega
      have HS : W9.cell? ⟨W.heap.size, 0, none⟩ = some (.int .u8 fn) ∧ W9.cell? ⟨W.heap.size, 1, none⟩ = some (.int .u16 fl) ∧ W9.cell? ⟨W.heap.size, 2, none⟩ = some (.int .u8 tn) ∧ W9.cell? ⟨W.heap.size, 3, none⟩ = some (.int .u16 tl) ∧ W9.cell? ⟨W.heap.size, 4, none⟩ = some (.int .u64 seq) ∧ W9.cell? ⟨W.heap.size, 5, none⟩ = some (.int .u64 ack) ∧ W9.cell? ⟨W.heap.size, 6, none⟩ = some (.bool has) ∧ W9.cell? ⟨W.heap.size, 7, none⟩ = some (.slice A n c) := ⟨(cell_of_row _ _ 0 _ _ _ G9.out.arg).trans (by rw [← HCS.out]; rfl), (cell_of_row _ _ 1 _ _ _ G9.out.arg).trans (by rw [← HCS.out]; rfl), (cell_of_row _ _ 2 _ _ _ G9.out.arg).trans (by rw [← HCS.out]; rfl), (cell_of_row _ _ 3 _ _ _ G9.out.arg).trans (by rw [← HCS.out]; rfl), (cell_of_row _ _ 4 _ _ _ G9.out.arg).trans (by rw [← HCS.out]; rfl), (cell_of_row _ _ 5 _ _ _ G9.out.arg).trans (by rw [← HCS.out]; rfl), (cell_of_row _ _ 6 _ _ _ G9.out.arg).trans (by rw [← HCS.out]; rfl), (cell_of_row _ _ 7 _ _ _ G9.out.arg).trans (by rw [← HCS.out]; rfl)⟩
      refine ⟨HS, ?_⟩
      clear HS
      try simp only [Act.put, List.setIfInBounds_toArray, List.set_cons_zero, List.set_cons_succ]
      refine ⟨by kernel_rfl, ?_⟩
      simp only [List.drop_succ_cons, List.drop_zero]
      rw [← HN.out]
      refine wpList_bd rfl 76 _ rfl #[.int .u8 fn, .int .u16 fl, .int .u8 tn, .int .u16 tl, .int .u64 seq, .int .u64 ack, .bool has, .slice A9 n c9] (by kernel_rfl) ?_
      refine wpList_store_row rfl 76 (.tmp 2) (.tmp 19) rfl (W.heap.size + 1) #[.int .u8 fn, .int .u16 fl, .int .u8 tn, .int .u16 tl, .int .u64 seq, .int .u64 ack, .bool has, .slice A9 n c9] (by rfl) (by rfl) 76 #[.int .u8 0, .int .u16 0, .int .u8 0, .int .u16 0, .int .u64 0, .int .u64 0, .bool false, .slice none 0 0] G9.out.res (by kernel_rfl) rfl (by simp [Value.oneCell']) ?_
      have ER := Lib.hid (setRow_heap W9 (W.heap.size + 1) _ #[.int .u8 fn, .int .u16 fl, .int .u8 tn, .int .u16 tl, .int .u64 seq, .int .u64 ack, .bool has, .slice A9 n c9] _ _ G9.out.res)
      go_wp2
      exact bodyPost_ret (v := .agg #[.int .u8 fn, .int .u16 fl, .int .u8 tn, .int .u16 tl, .int .u64 seq, .int .u64 ack, .bool has, .slice A9 n c9]) (results_cell_row (p := 2) (ty := 76) rfl _ _ (W.heap.size + 1) 76 #[.int .u8 fn, .int .u16 fl, .int .u8 tn, .int .u16 tl, .int .u64 seq, .int .u64 ack, .bool has, .slice A9 n c9] (0, 0) _ (by rfl) ER.out Tryz.underlying76 rfl (by kernel_rfl)) rfl ⟨A9, c9, rfl, (at9.setRow N9 _).up (by simp), by rw [HN.out]; exact le9, mx9, below_setRow G9.out.below (Nat.le_succ _) _⟩
    · refine (wpOp_vl (i := 12) (v := .slice (some ⟨W4.heap.size, 0, none⟩) 0 0) (w' := W4.alloc (.cells #[] 5)) rfl rfl 15 rfl _ rfl (by unfold bareO; go_simp) ?_)
      obtain ⟨W5, hW5⟩ : ∃ x, W4.alloc (.cells #[] 5) = x := ⟨_, rfl⟩
      have O5 : Hid (W5.ownsRow W4.heap.size 5 1 (.slice (some ⟨W4.heap.size, 0, none⟩) 0 0) 0 []) := Lib.hid (by rw [← hW5]; exact ⟨rfl, .inr ⟨W4.heap.size, 0, #[], rfl, Nat.le_refl _, heap_alloc_new _ _, Nat.le_refl _, by unfold maxLen; omega, rfl, rfl⟩⟩)
      have G5 : Hid (Going W cs W5) := Lib.hid (by rw [← hW5]; exact G4.out.on ((Below.refl _ _).alloc (Nat.le_refl _) _))
      have T5 := Lib.hid (G4.out.lt)
      rw [hW5]
      clear hW5
      have HS : W5.cell? ⟨W.heap.size, 0, none⟩ = some (.int .u8 fn) ∧ W5.cell? ⟨W.heap.size, 1, none⟩ = some (.int .u16 fl) ∧ W5.cell? ⟨W.heap.size, 2, none⟩ = some (.int .u8 tn) ∧ W5.cell? ⟨W.heap.size, 3, none⟩ = some (.int .u16 tl) ∧ W5.cell? ⟨W.heap.size, 4, none⟩ = some (.int .u64 seq) ∧ W5.cell? ⟨W.heap.size, 5, none⟩ = some (.int .u64 ack) ∧ W5.cell? ⟨W.heap.size, 6, none⟩ = some (.bool has) ∧ W5.cell? ⟨W.heap.size, 7, none⟩ = some (.slice A n c) := ⟨(cell_of_row _ _ 0 _ _ _ G5.out.arg).trans (by rw [← HCS.out]; rfl), (cell_of_row _ _ 1 _ _ _ G5.out.arg).trans (by rw [← HCS.out]; rfl), (cell_of_row _ _ 2 _ _ _ G5.out.arg).trans (by rw [← HCS.out]; rfl), (cell_of_row _ _ 3 _ _ _ G5.out.arg).trans (by rw [← HCS.out]; rfl), (cell_of_row _ _ 4 _ _ _ G5.out.arg).trans (by rw [← HCS.out]; rfl), (cell_of_row _ _ 5 _ _ _ G5.out.arg).trans (by rw [← HCS.out]; rfl), (cell_of_row _ _ 6 _ _ _ G5.out.arg).trans (by rw [← HCS.out]; rfl), (cell_of_row _ _ 7 _ _ _ G5.out.arg).trans (by rw [← HCS.out]; rfl)⟩
      refine ⟨HS, ?_⟩
      clear HS
      try simp only [Act.put, List.setIfInBounds_toArray, List.set_cons_zero, List.set_cons_succ]
      refine FirstH.only (i := 5) (by kernel_rfl) (by decide) inv (fun inv => wpOp_call (i := 5) rfl rfl 8 rfl _ rfl 33 #[.agg #[.int .u8 tn, .int .u16 tl]] (by unfold bareO; go_simp) (KP.out _ _ _) ?_)
      rintro e W6 ⟨rfl, h6⟩
      have b6 : Below W5.heap.size W5 W6 := by rw [← h6]; exact two_up _ _ _ _ _
      have G6 := Lib.hid (G5.out.on b6)
      have O6 := Lib.hid (own_kept' O5.out b6)
      clear h6 b6
      have HS : W6.cell? ⟨W.heap.size, 0, none⟩ = some (.int .u8 fn) ∧ W6.cell? ⟨W.heap.size, 1, none⟩ = some (.int .u16 fl) ∧ W6.cell? ⟨W.heap.size, 2, none⟩ = some (.int .u8 tn) ∧ W6.cell? ⟨W.heap.size, 3, none⟩ = some (.int .u16 tl) ∧ W6.cell? ⟨W.heap.size, 4, none⟩ = some (.int .u64 seq) ∧ W6.cell? ⟨W.heap.size, 5, none⟩ = some (.int .u64 ack) ∧ W6.cell? ⟨W.heap.size, 6, none⟩ = some (.bool has) ∧ W6.cell? ⟨W.heap.size, 7, none⟩ = some (.slice A n c) := ⟨(cell_of_row _ _ 0 _ _ _ G6.out.arg).trans (by rw [← HCS.out]; rfl), (cell_of_row _ _ 1 _ _ _ G6.out.arg).trans (by rw [← HCS.out]; rfl), (cell_of_row _ _ 2 _ _ _ G6.out.arg).trans (by rw [← HCS.out]; rfl), (cell_of_row _ _ 3 _ _ _ G6.out.arg).trans (by rw [← HCS.out]; rfl), (cell_of_row _ _ 4 _ _ _ G6.out.arg).trans (by rw [← HCS.out]; rfl), (cell_of_row _ _ 5 _ _ _ G6.out.arg).trans (by rw [← HCS.out]; rfl), (cell_of_row _ _ 6 _ _ _ G6.out.arg).trans (by rw [← HCS.out]; rfl), (cell_of_row _ _ 7 _ _ _ G6.out.arg).trans (by rw [← HCS.out]; rfl)⟩
      refine ⟨_, rfl, HS, ?_⟩
      clear HS
      try simp only [Act.put, List.setIfInBounds_toArray, List.set_cons_zero, List.set_cons_succ]
      refine FirstH.only (i := 15) (by kernel_rfl) (by decide) inv (fun inv => wpOp_app (i := 15) rfl rfl 18 rfl (.tmp 15) (.tmp 17) rfl W4.heap.size _ 0 [] rfl O6.out ad body n c W.heap.size (by rw [show (.tmp 17 : Operand) = .tmp 17 from rfl]; exact (congrArg (fun a => Value.slice a n c) HA.out.symm)) HN.out (HR.out.below G6.out.below (Nat.le_refl _) (Nat.le_refl _)) (by omega) (Nat.le_of_lt (O6.out.lt _ rfl).2) ?_)
      intro v9 W9 O9 g9
      have G9 := Lib.hid (G6.out.grown (k := W4.heap.size) g9 T5.out)
      rw [Nat.zero_add, List.nil_append] at O9
      obtain ⟨A9, c9, rfl, -, at9, le9, mx9⟩ := bytes_of_own O9
      have N9 : ∀ g9 o9, A9 = some ⟨g9, o9, none⟩ → g9 ≠ W.heap.size + 1 := fun g9 o9 h => by subst h; have h1 := (O9.lt g9 rfl).1; have h2 := T5.out; omega
      have HS : W9.cell? ⟨W.heap.size, 0, none⟩ = some (.int .u8 fn) ∧ W9.cell? ⟨W.heap.size, 1, none⟩ = some (.int .u16 fl) ∧ W9.cell? ⟨W.heap.size, 2, none⟩ = some (.int .u8 tn) ∧ W9.cell? ⟨W.heap.size, 3, none⟩ = some (.int .u16 tl) ∧ W9.cell? ⟨W.heap.size, 4, none⟩ = some (.int .u64 seq) ∧ W9.cell? ⟨W.heap.size, 5, none⟩ = some (.int .u64 ack) ∧ W9.cell? ⟨W.heap.size, 6, none⟩ = some (.bool has) ∧ W9.cell? ⟨W.heap.size, 7, none⟩ = some (.slice A n c) := ⟨(cell_of_row _ _ 0 _ _ _ G9.out.arg).trans (by rw [← HCS.out]; rfl), (cell_of_row _ _ 1 _ _ _ G9.out.arg).trans (by rw [← HCS.out]; rfl), (cell_of_row _ _ 2 _ _ _ G9.out.arg).trans (by rw [← HCS.out]; rfl), (cell_of_row _ _ 3 _ _ _ G9.out.arg).trans (by rw [← HCS.out]; rfl), (cell_of_row _ _ 4 _ _ _ G9.out.arg).trans (by rw [← HCS.out]; rfl), (cell_of_row _ _ 5 _ _ _ G9.out.arg).trans (by rw [← HCS.out]; rfl), (cell_of_row _ _ 6 _ _ _ G9.out.arg).trans (by rw [← HCS.out]; rfl), (cell_of_row _ _ 7 _ _ _ G9.out.arg).trans (by rw [← HCS.out]; rfl)⟩
      refine ⟨HS, ?_⟩
      clear HS
      try simp only [Act.put, List.setIfInBounds_toArray, List.set_cons_zero, List.set_cons_succ]
      refine ⟨by kernel_rfl, ?_⟩
      simp only [List.drop_succ_cons, List.drop_zero]
      rw [← HN.out]
      refine wpList_bd rfl 76 _ rfl #[.int .u8 fn, .int .u16 fl, .int .u8 tn, .int .u16 tl, .int .u64 seq, .int .u64 ack, .bool has, .slice A9 n c9] (by kernel_rfl) ?_
      refine wpList_store_row rfl 76 (.tmp 2) (.tmp 19) rfl (W.heap.size + 1) #[.int .u8 fn, .int .u16 fl, .int .u8 tn, .int .u16 tl, .int .u64 seq, .int .u64 ack, .bool has, .slice A9 n c9] (by rfl) (by rfl) 76 #[.int .u8 0, .int .u16 0, .int .u8 0, .int .u16 0, .int .u64 0, .int .u64 0, .bool false, .slice none 0 0] G9.out.res (by kernel_rfl) rfl (by simp [Value.oneCell']) ?_
      have ER := Lib.hid (setRow_heap W9 (W.heap.size + 1) _ #[.int .u8 fn, .int .u16 fl, .int .u8 tn, .int .u16 tl, .int .u64 seq, .int .u64 ack, .bool has, .slice A9 n c9] _ _ G9.out.res)
      go_wp2
      exact bodyPost_ret (v := .agg #[.int .u8 fn, .int .u16 fl, .int .u8 tn, .int .u16 tl, .int .u64 seq, .int .u64 ack, .bool has, .slice A9 n c9]) (results_cell_row (p := 2) (ty := 76) rfl _ _ (W.heap.size + 1) 76 #[.int .u8 fn, .int .u16 fl, .int .u8 tn, .int .u16 tl, .int .u64 seq, .int .u64 ack, .bool has, .slice A9 n c9] (0, 0) _ (by rfl) ER.out Tryz.underlying76 rfl (by kernel_rfl)) rfl ⟨A9, c9, rfl, (at9.setRow N9 _).up (by simp), by rw [HN.out]; exact le9, mx9, below_setRow G9.out.below (Nat.le_succ _) _⟩
  · refine (wpOp_vl (i := 12) (v := .slice (some ⟨W3.heap.size, 0, none⟩) 0 0) (w' := W3.alloc (.cells #[] 5)) rfl rfl 15 rfl _ rfl (by unfold bareO; go_simp) ?_)
    obtain ⟨W4, hW4⟩ : ∃ x, W3.alloc (.cells #[] 5) = x := ⟨_, rfl⟩
    have O4 : Hid (W4.ownsRow W3.heap.size 5 1 (.slice (some ⟨W3.heap.size, 0, none⟩) 0 0) 0 []) := Lib.hid (by rw [← hW4]; exact ⟨rfl, .inr ⟨W3.heap.size, 0, #[], rfl, Nat.le_refl _, heap_alloc_new _ _, Nat.le_refl _, by unfold maxLen; omega, rfl, rfl⟩⟩)
    have G4 : Hid (Going W cs W4) := Lib.hid (by rw [← hW4]; exact G3.out.on ((Below.refl _ _).alloc (Nat.le_refl _) _))
    have T4 := Lib.hid (G3.out.lt)
    rw [hW4]
    clear hW4
    have HS : W4.cell? ⟨W.heap.size, 0, none⟩ = some (.int .u8 fn) ∧ W4.cell? ⟨W.heap.size, 1, none⟩ = some (.int .u16 fl) ∧ W4.cell? ⟨W.heap.size, 2, none⟩ = some (.int .u8 tn) ∧ W4.cell? ⟨W.heap.size, 3, none⟩ = some (.int .u16 tl) ∧ W4.cell? ⟨W.heap.size, 4, none⟩ = some (.int .u64 seq) ∧ W4.cell? ⟨W.heap.size, 5, none⟩ = some (.int .u64 ack) ∧ W4.cell? ⟨W.heap.size, 6, none⟩ = some (.bool has) ∧ W4.cell? ⟨W.heap.size, 7, none⟩ = some (.slice A n c) := ⟨(cell_of_row _ _ 0 _ _ _ G4.out.arg).trans (by rw [← HCS.out]; rfl), (cell_of_row _ _ 1 _ _ _ G4.out.arg).trans (by rw [← HCS.out]; rfl), (cell_of_row _ _ 2 _ _ _ G4.out.arg).trans (by rw [← HCS.out]; rfl), (cell_of_row _ _ 3 _ _ _ G4.out.arg).trans (by rw [← HCS.out]; rfl), (cell_of_row _ _ 4 _ _ _ G4.out.arg).trans (by rw [← HCS.out]; rfl), (cell_of_row _ _ 5 _ _ _ G4.out.arg).trans (by rw [← HCS.out]; rfl), (cell_of_row _ _ 6 _ _ _ G4.out.arg).trans (by rw [← HCS.out]; rfl), (cell_of_row _ _ 7 _ _ _ G4.out.arg).trans (by rw [← HCS.out]; rfl)⟩
    refine ⟨HS, ?_⟩
    clear HS
    try simp only [Act.put, List.setIfInBounds_toArray, List.set_cons_zero, List.set_cons_succ]
    refine FirstH.only (i := 2) (by kernel_rfl) (by decide) inv (fun inv => wpOp_call (i := 2) rfl rfl 5 rfl _ rfl 33 #[.agg #[.int .u8 fn, .int .u16 fl]] (by unfold bareO; go_simp) (KP.out _ _ _) ?_)
    rintro e W5 ⟨rfl, h5⟩
    have b5 : Below W4.heap.size W4 W5 := by rw [← h5]; exact two_up _ _ _ _ _
    have G5 := Lib.hid (G4.out.on b5)
    have O5 := Lib.hid (own_kept' O4.out b5)
    clear h5 b5
    have HS : W5.cell? ⟨W.heap.size, 0, none⟩ = some (.int .u8 fn) ∧ W5.cell? ⟨W.heap.size, 1, none⟩ = some (.int .u16 fl) ∧ W5.cell? ⟨W.heap.size, 2, none⟩ = some (.int .u8 tn) ∧ W5.cell? ⟨W.heap.size, 3, none⟩ = some (.int .u16 tl) ∧ W5.cell? ⟨W.heap.size, 4, none⟩ = some (.int .u64 seq) ∧ W5.cell? ⟨W.heap.size, 5, none⟩ = some (.int .u64 ack) ∧ W5.cell? ⟨W.heap.size, 6, none⟩ = some (.bool has) ∧ W5.cell? ⟨W.heap.size, 7, none⟩ = some (.slice A n c) := ⟨(cell_of_row _ _ 0 _ _ _ G5.out.arg).trans (by rw [← HCS.out]; rfl), (cell_of_row _ _ 1 _ _ _ G5.out.arg).trans (by rw [← HCS.out]; rfl), (cell_of_row _ _ 2 _ _ _ G5.out.arg).trans (by rw [← HCS.out]; rfl), (cell_of_row _ _ 3 _ _ _ G5.out.arg).trans (by rw [← HCS.out]; rfl), (cell_of_row _ _ 4 _ _ _ G5.out.arg).trans (by rw [← HCS.out]; rfl), (cell_of_row _ _ 5 _ _ _ G5.out.arg).trans (by rw [← HCS.out]; rfl), (cell_of_row _ _ 6 _ _ _ G5.out.arg).trans (by rw [← HCS.out]; rfl), (cell_of_row _ _ 7 _ _ _ G5.out.arg).trans (by rw [← HCS.out]; rfl)⟩
    refine ⟨_, rfl, HS, ?_⟩
    clear HS
    try simp only [Act.put, List.setIfInBounds_toArray, List.set_cons_zero, List.set_cons_succ]
    refine FirstH.only (i := 5) (by kernel_rfl) (by decide) inv (fun inv => wpOp_call (i := 5) rfl rfl 8 rfl _ rfl 33 #[.agg #[.int .u8 tn, .int .u16 tl]] (by unfold bareO; go_simp) (KP.out _ _ _) ?_)
    rintro e W6 ⟨rfl, h6⟩
    have b6 : Below W5.heap.size W5 W6 := by rw [← h6]; exact two_up _ _ _ _ _
    have G6 := Lib.hid (G5.out.on b6)
    have O6 := Lib.hid (own_kept' O5.out b6)
    clear h6 b6
    have HS : W6.cell? ⟨W.heap.size, 0, none⟩ = some (.int .u8 fn) ∧ W6.cell? ⟨W.heap.size, 1, none⟩ = some (.int .u16 fl) ∧ W6.cell? ⟨W.heap.size, 2, none⟩ = some (.int .u8 tn) ∧ W6.cell? ⟨W.heap.size, 3, none⟩ = some (.int .u16 tl) ∧ W6.cell? ⟨W.heap.size, 4, none⟩ = some (.int .u64 seq) ∧ W6.cell? ⟨W.heap.size, 5, none⟩ = some (.int .u64 ack) ∧ W6.cell? ⟨W.heap.size, 6, none⟩ = some (.bool has) ∧ W6.cell? ⟨W.heap.size, 7, none⟩ = some (.slice A n c) := ⟨(cell_of_row _ _ 0 _ _ _ G6.out.arg).trans (by rw [← HCS.out]; rfl), (cell_of_row _ _ 1 _ _ _ G6.out.arg).trans (by rw [← HCS.out]; rfl), (cell_of_row _ _ 2 _ _ _ G6.out.arg).trans (by rw [← HCS.out]; rfl), (cell_of_row _ _ 3 _ _ _ G6.out.arg).trans (by rw [← HCS.out]; rfl), (cell_of_row _ _ 4 _ _ _ G6.out.arg).trans (by rw [← HCS.out]; rfl), (cell_of_row _ _ 5 _ _ _ G6.out.arg).trans (by rw [← HCS.out]; rfl), (cell_of_row _ _ 6 _ _ _ G6.out.arg).trans (by rw [← HCS.out]; rfl), (cell_of_row _ _ 7 _ _ _ G6.out.arg).trans (by rw [← HCS.out]; rfl)⟩
    refine ⟨_, rfl, HS, ?_⟩
    clear HS
    try simp only [Act.put, List.setIfInBounds_toArray, List.set_cons_zero, List.set_cons_succ]
    refine FirstH.only (i := 15) (by kernel_rfl) (by decide) inv (fun inv => wpOp_app (i := 15) rfl rfl 18 rfl (.tmp 15) (.tmp 17) rfl W3.heap.size _ 0 [] rfl O6.out ad body n c W.heap.size (by rw [show (.tmp 17 : Operand) = .tmp 17 from rfl]; exact (congrArg (fun a => Value.slice a n c) HA.out.symm)) HN.out (HR.out.below G6.out.below (Nat.le_refl _) (Nat.le_refl _)) (by omega) (Nat.le_of_lt (O6.out.lt _ rfl).2) ?_)
    intro v9 W9 O9 g9
    have G9 := Lib.hid (G6.out.grown (k := W3.heap.size) g9 T4.out)
    rw [Nat.zero_add, List.nil_append] at O9
    obtain ⟨A9, c9, rfl, -, at9, le9, mx9⟩ := bytes_of_own O9
    have N9 : ∀ g9 o9, A9 = some ⟨g9, o9, none⟩ → g9 ≠ W.heap.size + 1 := fun g9 o9 h => by subst h; have h1 := (O9.lt g9 rfl).1; have h2 := T4.out; omega
    have HS : W9.cell? ⟨W.heap.size, 0, none⟩ = some (.int .u8 fn) ∧ W9.cell? ⟨W.heap.size, 1, none⟩ = some (.int .u16 fl) ∧ W9.cell? ⟨W.heap.size, 2, none⟩ = some (.int .u8 tn) ∧ W9.cell? ⟨W.heap.size, 3, none⟩ = some (.int .u16 tl) ∧ W9.cell? ⟨W.heap.size, 4, none⟩ = some (.int .u64 seq) ∧ W9.cell? ⟨W.heap.size, 5, none⟩ = some (.int .u64 ack) ∧ W9.cell? ⟨W.heap.size, 6, none⟩ = some (.bool has) ∧ W9.cell? ⟨W.heap.size, 7, none⟩ = some (.slice A n c) := ⟨(cell_of_row _ _ 0 _ _ _ G9.out.arg).trans (by rw [← HCS.out]; rfl), (cell_of_row _ _ 1 _ _ _ G9.out.arg).trans (by rw [← HCS.out]; rfl), (cell_of_row _ _ 2 _ _ _ G9.out.arg).trans (by rw [← HCS.out]; rfl), (cell_of_row _ _ 3 _ _ _ G9.out.arg).trans (by rw [← HCS.out]; rfl), (cell_of_row _ _ 4 _ _ _ G9.out.arg).trans (by rw [← HCS.out]; rfl), (cell_of_row _ _ 5 _ _ _ G9.out.arg).trans (by rw [← HCS.out]; rfl), (cell_of_row _ _ 6 _ _ _ G9.out.arg).trans (by rw [← HCS.out]; rfl), (cell_of_row _ _ 7 _ _ _ G9.out.arg).trans (by rw [← HCS.out]; rfl)⟩
    refine ⟨HS, ?_⟩
    clear HS
    try simp only [Act.put, List.setIfInBounds_toArray, List.set_cons_zero, List.set_cons_succ]
    refine ⟨by kernel_rfl, ?_⟩
    simp only [List.drop_succ_cons, List.drop_zero]
    rw [← HN.out]
    refine wpList_bd rfl 76 _ rfl #[.int .u8 fn, .int .u16 fl, .int .u8 tn, .int .u16 tl, .int .u64 seq, .int .u64 ack, .bool has, .slice A9 n c9] (by kernel_rfl) ?_
    refine wpList_store_row rfl 76 (.tmp 2) (.tmp 19) rfl (W.heap.size + 1) #[.int .u8 fn, .int .u16 fl, .int .u8 tn, .int .u16 tl, .int .u64 seq, .int .u64 ack, .bool has, .slice A9 n c9] (by rfl) (by rfl) 76 #[.int .u8 0, .int .u16 0, .int .u8 0, .int .u16 0, .int .u64 0, .int .u64 0, .bool false, .slice none 0 0] G9.out.res (by kernel_rfl) rfl (by simp [Value.oneCell']) ?_
    have ER := Lib.hid (setRow_heap W9 (W.heap.size + 1) _ #[.int .u8 fn, .int .u16 fl, .int .u8 tn, .int .u16 tl, .int .u64 seq, .int .u64 ack, .bool has, .slice A9 n c9] _ _ G9.out.res)
    go_wp2
    exact bodyPost_ret (v := .agg #[.int .u8 fn, .int .u16 fl, .int .u8 tn, .int .u16 tl, .int .u64 seq, .int .u64 ack, .bool has, .slice A9 n c9]) (results_cell_row (p := 2) (ty := 76) rfl _ _ (W.heap.size + 1) 76 #[.int .u8 fn, .int .u16 fl, .int .u8 tn, .int .u16 tl, .int .u64 seq, .int .u64 ack, .bool has, .slice A9 n c9] (0, 0) _ (by rfl) ER.out Tryz.underlying76 rfl (by kernel_rfl)) rfl ⟨A9, c9, rfl, (at9.setRow N9 _).up (by simp), by rw [HN.out]; exact le9, mx9, below_setRow G9.out.below (Nat.le_succ _) _⟩

end Go.Proofs.YtkmbgehknpefiaaGreatDoor
