/-
  The law's Own and Ref: a parcel of the document in the program's form, and back, by exact answers. Condition: the bytes lie in memory.
-/
import Derived.Test.YteaafpgkifmdeaaBba
import Derived.Test.YteaafpgkifmdeaaBow
namespace Go.Proofs.Yteaafpgkifmdeaa
set_option linter.unusedSimpArgs false
set_option linter.unusedVariables false
open Go.RowKit Go.Sort

theorem two_up (w : World) (c1 c2 : Array Value) (t1 t2 : TypeId) : Below w.heap.size w ((w.alloc (.cells c1 t1)).alloc (.cells c2 t2)) := ((Below.refl _ _).alloc (Nat.le_refl _) _).alloc (by simp) _
theorem own_kept' {w w' : World} {base s n : Nat} {e : TypeId} {v : Value} {xs : List Value} (h : w.ownsRow base e s v n xs) (hb : Below w.heap.size w w') : w'.ownsRow base e s v n xs :=
  h.kept (row := none) ⟨hb.os, hb.tape, hb.output, hb.size, fun k hk _ => hb.block k hk⟩ (by cases v.ownBlock <;> simp)
theorem apart_of' {W : World} {k j : Nat} {c d : Array Value} {t u : TypeId} {f g : Nat × Nat} (h : W.heap[k]? = some (.cells c t f)) (h' : W.heap[j]? = some (.cells d u g)) (hne : t ≠ u) : k ≠ j := fun e => by
  subst e
  rw [h] at h'
  injection h' with h'
  injection h' with h1 h2 h3
  exact hne h2
theorem nil_of_own {W : World} {base n : Nat} {v : Value} {L : List UInt8} (h : W.ownsRow base 5 1 v n (Lib.byteCells L)) : (v.ownBlock = none → L.length = 0) ∧ ∀ m c, v = .slice none m c → c = 0 := by
  have hl := h.1
  rw [Lib.byteCells_length] at hl
  rcases h.2 with ⟨rfl, rfl⟩ | ⟨g, cap, cur, rfl, _⟩
  · exact ⟨fun _ => by omega, fun m c e => by injection e with e1 e2 e3; exact e3.symm⟩
  · exact ⟨fun e => (by cases e), fun m c e => (by cases e)⟩
theorem own_end {W W9 : World} {fn fl tn tl n c9 bs : Nat} {bad : Bool} {body : List UInt8} {A9 : Option Addr} {t : TypeId} {zz : Array Value} {e : Ending} {cs : Array Value} (hn : body.length = n) (hl : 0 + body.length ≤ 140737488355328) (ho : OwnB W9 bs A9 body) (hle : body.length ≤ c9) (hmx : c9 ≤ maxLen)
    (he : e = .returned (.agg #[.int .u8 fn, .int .u16 fl, .int .u8 tn, .int .u16 tl, .slice A9 n c9, .bool bad])) (hb : Below W.heap.size W W9) (hz : W9.heap[W.heap.size + 1]? = some (.cells zz t (0, 0))) (ht : (5 : TypeId) ≠ t) (hbs : W.heap.size ≤ bs) (hl2 : body.length ≤ 140737488351232) (hA : A9 = none → body.length = 0 ∧ c9 = 0) :
    ∃ y : Lp, e = .returned (.agg y.cs) ∧ y.p = ⟨fn, fl, tn, tl, body, bad⟩ ∧ y.Ok (W9.setRow (W.heap.size + 1) cs) W.heap.size ∧ Below W.heap.size W (W9.setRow (W.heap.size + 1) cs) :=
  ⟨⟨⟨fn, fl, tn, tl, body, bad⟩, A9, c9⟩, by rw [he]; unfold Lp.cs; simp only [hn], rfl, ⟨(ho.keep fun g cur _ hg => setRow_at hg (apart_of' hg hz ht) _).lower hbs, hle, hmx, hA, hl2⟩, below_row hb (Nat.le_succ _) _⟩

/-- what goes along: the parcel that is converted, and where the answer is laid. -/
structure GoingownL (W : World) (cs : Array Value) (X : World) : Prop where
  below : Below W.heap.size W X
  arg : X.heap[W.heap.size]? = some (.cells cs 36 (0, 0))
  res : X.heap[W.heap.size + 1]? = some (.cells #[.int .u8 0, .int .u16 0, .int .u8 0, .int .u16 0, .slice none 0 0, .bool false] 45 (0, 0))
  lt : W.heap.size + 1 < X.heap.size
theorem GoingownL.on {W : World} {cs : Array Value} {X Y : World} (h : GoingownL W cs X) (hb : Below X.heap.size X Y) : GoingownL W cs Y :=
  ⟨h.below.trans (hb.mono h.below.size), (hb.block _ (Nat.lt_of_succ_lt h.lt)).trans h.arg, (hb.block _ h.lt).trans h.res, Nat.lt_of_lt_of_le h.lt hb.size⟩
theorem GoingownL.grown {W : World} {cs : Array Value} {X Y : World} {k : Nat} (h : GoingownL W cs X) (hg : X.grownBy Y (some k)) (hk : W.heap.size + 1 < k) : GoingownL W cs Y :=
  ⟨h.below.grown hg h.below.size (fun j hj => by cases hj; omega), (hg.block _ (Nat.lt_of_succ_lt h.lt) (by simp; omega)).trans h.arg, (hg.block _ h.lt (by simp; omega)).trans h.res, Nat.lt_of_lt_of_le h.lt hg.size⟩

set_option maxRecDepth 100000 in
set_option maxHeartbeats 4000000 in
theorem ownL (x : Lp) (W : World) (hr : BytesAt W W.heap.size x.A x.p.B) (hl : x.p.B.length ≤ 140737488351232) (hnn : x.A = none → x.p.B.length = 0 ∧ x.c = 0) :
    Calls Try.prog 18 #[.agg x.cs] W fun e W' => ∃ y : Lp, e = .returned (.agg y.cs) ∧ y.p = x.p ∧ y.Ok W' W.heap.size ∧ Below W.heap.size W W' := by
  obtain ⟨⟨fn, fl, tn, tl, body, bad⟩, A, c⟩ := x
  simp only at hr hl hnn
  obtain ⟨n, hn⟩ : ∃ n, body.length = n := ⟨_, rfl⟩
  rw [hn] at hnn
  have HR := Lib.hid hr
  have HNN := Lib.hid hnn
  have HL : Hid (0 + body.length ≤ 140737488355328) := Lib.hid (by omega)
  have HL2 := Lib.hid hl
  have HN := Lib.hid hn
  have ecs : (Lp.mk ⟨fn, fl, tn, tl, body, bad⟩ A c).cs = #[.int .u8 fn, .int .u16 fl, .int .u8 tn, .int .u16 tl, .slice A n c, .bool bad] := by unfold Lp.cs; simp only [hn]
  rw [ecs]
  obtain ⟨cs, hcs⟩ : ∃ cs : Array Value, #[.int .u8 fn, .int .u16 fl, .int .u8 tn, .int .u16 tl, .slice A n c, .bool bad] = cs := ⟨_, rfl⟩
  have KP := Lib.hid (fun a b w => toProc a b w)
  obtain ⟨W1, hW1⟩ : ∃ W1, W.alloc (.cells #[.int .u8 fn, .int .u16 fl, .int .u8 tn, .int .u16 tl, .slice A n c, .bool bad] 36) = W1 := ⟨_, rfl⟩
  obtain ⟨W2, hW2⟩ : ∃ W2, W1.alloc (.cells #[.int .u8 0, .int .u16 0, .int .u8 0, .int .u16 0, .slice none 0 0, .bool false] 45) = W2 := ⟨_, rfl⟩
  have s1 : W1.heap.size = W.heap.size + 1 := by rw [← hW1]; simp
  have s2 : W2.heap.size = W.heap.size + 2 := by rw [← hW2]; simp [s1]
  have rA1 : W1.heap[W.heap.size]? = some (.cells cs 36 (0, 0)) := by rw [← hW1, ← hcs]; exact heap_alloc_new _ _
  have G2 : GoingownL W cs W2 := ⟨by rw [← hW2, ← hW1]; exact two_up _ _ _ _ _, by rw [← hW2, Below.heap_alloc _ _ _ (by omega)]; exact rA1, by rw [← hW2, ← s1]; exact heap_alloc_new _ _, by omega⟩
  obtain ⟨W3, hW3⟩ : ∃ W3, W2.drew = W3 := ⟨_, rfl⟩
  have G3 : Hid (GoingownL W cs W3) := Lib.hid (by rw [← hW3]; exact G2.on (Below.refl _ _).drew)
  have HW1 := Lib.hid hW1
  have HW2 := Lib.hid hW2
  have HW3 := Lib.hid hW3
  have S1 := Lib.hid s1
  have S2 := Lib.hid s2
  have HCS := Lib.hid hcs
  clear ecs hn hr hl hnn hW1 hW2 hW3 s1 s2 rA1 G2 hcs
  go_enter Try.func18, Try.ntmps18
  go_wp2
  refine region_heldT (S := fun X => X.cell? ⟨W.heap.size, 0, none⟩ = some (.int .u8 fn) ∧ X.cell? ⟨W.heap.size, 1, none⟩ = some (.int .u16 fl) ∧ X.cell? ⟨W.heap.size, 2, none⟩ = some (.int .u8 tn) ∧ X.cell? ⟨W.heap.size, 3, none⟩ = some (.int .u16 tl) ∧ X.cell? ⟨W.heap.size, 4, none⟩ = some (.slice A n c) ∧ X.cell? ⟨W.heap.size, 5, none⟩ = some (.bool bad)) 12 (by kernel_rfl) (by decide) (fun inv => ?_)
  change FirstH _ _ _ _ _ _ _ _ _ _ ((W.alloc (.cells #[.int .u8 fn, .int .u16 fl, .int .u8 tn, .int .u16 tl, .slice A n c, .bool bad] 36)).alloc (.cells #[.int .u8 0, .int .u16 0, .int .u8 0, .int .u16 0, .slice none 0 0, .bool false] 45)).drew
  rw [HW1.out, HW2.out, HW3.out]
  have HS : W3.cell? ⟨W.heap.size, 0, none⟩ = some (.int .u8 fn) ∧ W3.cell? ⟨W.heap.size, 1, none⟩ = some (.int .u16 fl) ∧ W3.cell? ⟨W.heap.size, 2, none⟩ = some (.int .u8 tn) ∧ W3.cell? ⟨W.heap.size, 3, none⟩ = some (.int .u16 tl) ∧ W3.cell? ⟨W.heap.size, 4, none⟩ = some (.slice A n c) ∧ W3.cell? ⟨W.heap.size, 5, none⟩ = some (.bool bad) := ⟨(cell_of_row _ _ 0 _ _ _ G3.out.arg).trans (by rw [← HCS.out]; rfl), (cell_of_row _ _ 1 _ _ _ G3.out.arg).trans (by rw [← HCS.out]; rfl), (cell_of_row _ _ 2 _ _ _ G3.out.arg).trans (by rw [← HCS.out]; rfl), (cell_of_row _ _ 3 _ _ _ G3.out.arg).trans (by rw [← HCS.out]; rfl), (cell_of_row _ _ 4 _ _ _ G3.out.arg).trans (by rw [← HCS.out]; rfl), (cell_of_row _ _ 5 _ _ _ G3.out.arg).trans (by rw [← HCS.out]; rfl)⟩
  refine FirstH.go (i := 0) (v := .pointer (some ⟨W.heap.size, 0, none⟩)) rfl rfl _ rfl _ rfl (by kernel_rfl) (fun _ _ _ h => h) inv (fun X _ => by unfold bareO; go_simp) HS (fun inv => ?_)
  try simp only [Act.put, List.setIfInBounds_toArray, List.set_cons_zero, List.set_cons_succ]
  refine FirstH.go (i := 1) (v := .agg #[.int .u8 fn, .int .u16 fl]) rfl rfl _ rfl _ rfl (by kernel_rfl) (fun _ _ _ h => h) inv (fun X hS => by obtain ⟨l0, l1, l2, l3, l4, l5⟩ := hS; unfold bareO; go_simp) HS (fun inv => ?_)
  try simp only [Act.put, List.setIfInBounds_toArray, List.set_cons_zero, List.set_cons_succ]
  refine FirstH.go (i := 3) (v := .pointer (some ⟨W.heap.size, 2, none⟩)) rfl rfl _ rfl _ rfl (by kernel_rfl) (fun _ _ _ h => h) inv (fun X _ => by unfold bareO; go_simp) HS (fun inv => ?_)
  try simp only [Act.put, List.setIfInBounds_toArray, List.set_cons_zero, List.set_cons_succ]
  refine FirstH.go (i := 4) (v := .agg #[.int .u8 tn, .int .u16 tl]) rfl rfl _ rfl _ rfl (by kernel_rfl) (fun _ _ _ h => h) inv (fun X hS => by obtain ⟨l0, l1, l2, l3, l4, l5⟩ := hS; unfold bareO; go_simp) HS (fun inv => ?_)
  try simp only [Act.put, List.setIfInBounds_toArray, List.set_cons_zero, List.set_cons_succ]
  refine FirstH.go (i := 7) (v := .pointer (some ⟨W.heap.size, 4, none⟩)) rfl rfl _ rfl _ rfl (by kernel_rfl) (fun _ _ _ h => h) inv (fun X _ => by unfold bareO; go_simp) HS (fun inv => ?_)
  try simp only [Act.put, List.setIfInBounds_toArray, List.set_cons_zero, List.set_cons_succ]
  refine FirstH.go (i := 8) (v := .slice A n c) rfl rfl _ rfl _ rfl (by kernel_rfl) (fun _ _ _ h => h) inv (fun X hS => by obtain ⟨l0, l1, l2, l3, l4, l5⟩ := hS; unfold bareO; go_simp) HS (fun inv => ?_)
  try simp only [Act.put, List.setIfInBounds_toArray, List.set_cons_zero, List.set_cons_succ]
  refine FirstH.go (i := 10) (v := .pointer (some ⟨W.heap.size, 5, none⟩)) rfl rfl _ rfl _ rfl (by kernel_rfl) (fun _ _ _ h => h) inv (fun X _ => by unfold bareO; go_simp) HS (fun inv => ?_)
  try simp only [Act.put, List.setIfInBounds_toArray, List.set_cons_zero, List.set_cons_succ]
  refine FirstH.go (i := 11) (v := .bool bad) rfl rfl _ rfl _ rfl (by kernel_rfl) (fun _ _ _ h => h) inv (fun X hS => by obtain ⟨l0, l1, l2, l3, l4, l5⟩ := hS; unfold bareO; go_simp) HS (fun inv => ?_)
  try simp only [Act.put, List.setIfInBounds_toArray, List.set_cons_zero, List.set_cons_succ]
  clear HS
  refine FirstH.two (i := 2) (j := 6) (by kernel_rfl) (by decide) (by decide) inv (fun inv => ?_) (fun inv => ?_)
  · refine (wpOp_call (i := 2) rfl rfl 5 rfl _ rfl 35 #[.agg #[.int .u8 fn, .int .u16 fl]] (by unfold bareO; go_simp) (KP.out _ _ _) ?_)
    rintro e W4 ⟨rfl, h4⟩
    have b4 : Below W3.heap.size W3 W4 := by rw [← h4]; exact two_up _ _ _ _ _
    have G4 := Lib.hid (G3.out.on b4)
    clear h4 b4
    have HS : W4.cell? ⟨W.heap.size, 0, none⟩ = some (.int .u8 fn) ∧ W4.cell? ⟨W.heap.size, 1, none⟩ = some (.int .u16 fl) ∧ W4.cell? ⟨W.heap.size, 2, none⟩ = some (.int .u8 tn) ∧ W4.cell? ⟨W.heap.size, 3, none⟩ = some (.int .u16 tl) ∧ W4.cell? ⟨W.heap.size, 4, none⟩ = some (.slice A n c) ∧ W4.cell? ⟨W.heap.size, 5, none⟩ = some (.bool bad) := ⟨(cell_of_row _ _ 0 _ _ _ G4.out.arg).trans (by rw [← HCS.out]; rfl), (cell_of_row _ _ 1 _ _ _ G4.out.arg).trans (by rw [← HCS.out]; rfl), (cell_of_row _ _ 2 _ _ _ G4.out.arg).trans (by rw [← HCS.out]; rfl), (cell_of_row _ _ 3 _ _ _ G4.out.arg).trans (by rw [← HCS.out]; rfl), (cell_of_row _ _ 4 _ _ _ G4.out.arg).trans (by rw [← HCS.out]; rfl), (cell_of_row _ _ 5 _ _ _ G4.out.arg).trans (by rw [← HCS.out]; rfl)⟩
    refine ⟨_, rfl, HS, ?_⟩
    clear HS
    try simp only [Act.put, List.setIfInBounds_toArray, List.set_cons_zero, List.set_cons_succ]
    refine FirstH.two (i := 5) (j := 6) (by kernel_rfl) (by decide) (by decide) inv (fun inv => ?_) (fun inv => ?_)
    · refine (wpOp_call (i := 5) rfl rfl 8 rfl _ rfl 35 #[.agg #[.int .u8 tn, .int .u16 tl]] (by unfold bareO; go_simp) (KP.out _ _ _) ?_)
      rintro e W5 ⟨rfl, h5⟩
      have b5 : Below W4.heap.size W4 W5 := by rw [← h5]; exact two_up _ _ _ _ _
      have G5 := Lib.hid (G4.out.on b5)
      clear h5 b5
      have HS : W5.cell? ⟨W.heap.size, 0, none⟩ = some (.int .u8 fn) ∧ W5.cell? ⟨W.heap.size, 1, none⟩ = some (.int .u16 fl) ∧ W5.cell? ⟨W.heap.size, 2, none⟩ = some (.int .u8 tn) ∧ W5.cell? ⟨W.heap.size, 3, none⟩ = some (.int .u16 tl) ∧ W5.cell? ⟨W.heap.size, 4, none⟩ = some (.slice A n c) ∧ W5.cell? ⟨W.heap.size, 5, none⟩ = some (.bool bad) := ⟨(cell_of_row _ _ 0 _ _ _ G5.out.arg).trans (by rw [← HCS.out]; rfl), (cell_of_row _ _ 1 _ _ _ G5.out.arg).trans (by rw [← HCS.out]; rfl), (cell_of_row _ _ 2 _ _ _ G5.out.arg).trans (by rw [← HCS.out]; rfl), (cell_of_row _ _ 3 _ _ _ G5.out.arg).trans (by rw [← HCS.out]; rfl), (cell_of_row _ _ 4 _ _ _ G5.out.arg).trans (by rw [← HCS.out]; rfl), (cell_of_row _ _ 5 _ _ _ G5.out.arg).trans (by rw [← HCS.out]; rfl)⟩
      refine ⟨_, rfl, HS, ?_⟩
      clear HS
      try simp only [Act.put, List.setIfInBounds_toArray, List.set_cons_zero, List.set_cons_succ]
      refine FirstH.only (i := 6) (by kernel_rfl) (by decide) inv (fun inv => wpOp_vl (i := 6) (v := .slice (some ⟨W5.heap.size, 0, none⟩) 0 0) (w' := W5.alloc (.cells #[] 5)) rfl rfl 9 rfl _ rfl (by unfold bareO; go_simp) ?_)
      obtain ⟨W6, hW6⟩ : ∃ x, W5.alloc (.cells #[] 5) = x := ⟨_, rfl⟩
      have O6 : Hid (W6.ownsRow W5.heap.size 5 1 (.slice (some ⟨W5.heap.size, 0, none⟩) 0 0) 0 []) := Lib.hid (by rw [← hW6]; exact ⟨rfl, .inr ⟨W5.heap.size, 0, #[], rfl, Nat.le_refl _, heap_alloc_new _ _, Nat.le_refl _, by unfold maxLen; omega, rfl, rfl⟩⟩)
      have G6 : Hid (GoingownL W cs W6) := Lib.hid (by rw [← hW6]; exact G5.out.on ((Below.refl _ _).alloc (Nat.le_refl _) _))
      have T6 := Lib.hid (G5.out.lt)
      rw [hW6]
      clear hW6
      have HS : W6.cell? ⟨W.heap.size, 0, none⟩ = some (.int .u8 fn) ∧ W6.cell? ⟨W.heap.size, 1, none⟩ = some (.int .u16 fl) ∧ W6.cell? ⟨W.heap.size, 2, none⟩ = some (.int .u8 tn) ∧ W6.cell? ⟨W.heap.size, 3, none⟩ = some (.int .u16 tl) ∧ W6.cell? ⟨W.heap.size, 4, none⟩ = some (.slice A n c) ∧ W6.cell? ⟨W.heap.size, 5, none⟩ = some (.bool bad) := ⟨(cell_of_row _ _ 0 _ _ _ G6.out.arg).trans (by rw [← HCS.out]; rfl), (cell_of_row _ _ 1 _ _ _ G6.out.arg).trans (by rw [← HCS.out]; rfl), (cell_of_row _ _ 2 _ _ _ G6.out.arg).trans (by rw [← HCS.out]; rfl), (cell_of_row _ _ 3 _ _ _ G6.out.arg).trans (by rw [← HCS.out]; rfl), (cell_of_row _ _ 4 _ _ _ G6.out.arg).trans (by rw [← HCS.out]; rfl), (cell_of_row _ _ 5 _ _ _ G6.out.arg).trans (by rw [← HCS.out]; rfl)⟩
      refine ⟨HS, ?_⟩
      clear HS
      try simp only [Act.put, List.setIfInBounds_toArray, List.set_cons_zero, List.set_cons_succ]
      refine FirstH.only (i := 9) (by kernel_rfl) (by decide) inv (fun inv => wpOp_appB (i := 9) rfl rfl 12 rfl (.tmp 9) (.tmp 11) rfl W5.heap.size _ 0 [] rfl O6.out A body n c W.heap.size rfl HN.out.symm HNN.out (HR.out.below G6.out.below (Nat.le_refl _) (Nat.le_refl _)) HL.out (Nat.le_of_lt (O6.out.lt _ rfl).2) ?_)
      intro v9 W9 O9 g9
      have G9 := Lib.hid (G6.out.grown (k := W5.heap.size) g9 T6.out)
      rw [Nat.zero_add, List.nil_append] at O9
      have NL9 := nil_of_own O9
      obtain ⟨A9, c9, rfl, hn9, at9, le9, mx9⟩ := bytes_of_own O9
      rw [HN.out]
      have HS : W9.cell? ⟨W.heap.size, 0, none⟩ = some (.int .u8 fn) ∧ W9.cell? ⟨W.heap.size, 1, none⟩ = some (.int .u16 fl) ∧ W9.cell? ⟨W.heap.size, 2, none⟩ = some (.int .u8 tn) ∧ W9.cell? ⟨W.heap.size, 3, none⟩ = some (.int .u16 tl) ∧ W9.cell? ⟨W.heap.size, 4, none⟩ = some (.slice A n c) ∧ W9.cell? ⟨W.heap.size, 5, none⟩ = some (.bool bad) := ⟨(cell_of_row _ _ 0 _ _ _ G9.out.arg).trans (by rw [← HCS.out]; rfl), (cell_of_row _ _ 1 _ _ _ G9.out.arg).trans (by rw [← HCS.out]; rfl), (cell_of_row _ _ 2 _ _ _ G9.out.arg).trans (by rw [← HCS.out]; rfl), (cell_of_row _ _ 3 _ _ _ G9.out.arg).trans (by rw [← HCS.out]; rfl), (cell_of_row _ _ 4 _ _ _ G9.out.arg).trans (by rw [← HCS.out]; rfl), (cell_of_row _ _ 5 _ _ _ G9.out.arg).trans (by rw [← HCS.out]; rfl)⟩
      refine ⟨HS, ?_⟩
      clear HS
      try simp only [Act.put, List.setIfInBounds_toArray, List.set_cons_zero, List.set_cons_succ]
      refine ⟨by kernel_rfl, ?_⟩
      simp only [List.drop_succ_cons, List.drop_zero]
      refine wpList_bd rfl 45 _ rfl #[.int .u8 fn, .int .u16 fl, .int .u8 tn, .int .u16 tl, .slice A9 n c9, .bool bad] (by kernel_rfl) ?_
      refine wpList_store_row rfl 45 (.tmp 2) (.tmp 15) rfl (W.heap.size + 1) #[.int .u8 fn, .int .u16 fl, .int .u8 tn, .int .u16 tl, .slice A9 n c9, .bool bad] (by rfl) (by rfl) 45 #[.int .u8 0, .int .u16 0, .int .u8 0, .int .u16 0, .slice none 0 0, .bool false] G9.out.res (by kernel_rfl) rfl (by simp [Value.oneCell']) ?_
      have ER := Lib.hid (setRow_heap W9 (W.heap.size + 1) _ #[.int .u8 fn, .int .u16 fl, .int .u8 tn, .int .u16 tl, .slice A9 n c9, .bool bad] _ _ G9.out.res)
      go_wp2
      refine bodyPost_ret (v := .agg #[.int .u8 fn, .int .u16 fl, .int .u8 tn, .int .u16 tl, .slice A9 n c9, .bool bad]) (results_cell_row (p := 2) (ty := 45) rfl _ _ (W.heap.size + 1) 45 #[.int .u8 fn, .int .u16 fl, .int .u8 tn, .int .u16 tl, .slice A9 n c9, .bool bad] (0, 0) _ (by rfl) ER.out Try.underlying45 rfl (by kernel_rfl)) rfl ?_
      refine own_end HN.out HL.out at9 le9 mx9 rfl (G9.out.below) G9.out.res (by decide) (by have h2 := T6.out; omega) HL2.out (fun hA => by subst hA; exact ⟨NL9.1 rfl, NL9.2 _ _ rfl⟩)
    · refine (wpOp_vl (i := 6) (v := .slice (some ⟨W4.heap.size, 0, none⟩) 0 0) (w' := W4.alloc (.cells #[] 5)) rfl rfl 9 rfl _ rfl (by unfold bareO; go_simp) ?_)
      obtain ⟨W5, hW5⟩ : ∃ x, W4.alloc (.cells #[] 5) = x := ⟨_, rfl⟩
      have O5 : Hid (W5.ownsRow W4.heap.size 5 1 (.slice (some ⟨W4.heap.size, 0, none⟩) 0 0) 0 []) := Lib.hid (by rw [← hW5]; exact ⟨rfl, .inr ⟨W4.heap.size, 0, #[], rfl, Nat.le_refl _, heap_alloc_new _ _, Nat.le_refl _, by unfold maxLen; omega, rfl, rfl⟩⟩)
      have G5 : Hid (GoingownL W cs W5) := Lib.hid (by rw [← hW5]; exact G4.out.on ((Below.refl _ _).alloc (Nat.le_refl _) _))
      have T5 := Lib.hid (G4.out.lt)
      rw [hW5]
      clear hW5
      have HS : W5.cell? ⟨W.heap.size, 0, none⟩ = some (.int .u8 fn) ∧ W5.cell? ⟨W.heap.size, 1, none⟩ = some (.int .u16 fl) ∧ W5.cell? ⟨W.heap.size, 2, none⟩ = some (.int .u8 tn) ∧ W5.cell? ⟨W.heap.size, 3, none⟩ = some (.int .u16 tl) ∧ W5.cell? ⟨W.heap.size, 4, none⟩ = some (.slice A n c) ∧ W5.cell? ⟨W.heap.size, 5, none⟩ = some (.bool bad) := ⟨(cell_of_row _ _ 0 _ _ _ G5.out.arg).trans (by rw [← HCS.out]; rfl), (cell_of_row _ _ 1 _ _ _ G5.out.arg).trans (by rw [← HCS.out]; rfl), (cell_of_row _ _ 2 _ _ _ G5.out.arg).trans (by rw [← HCS.out]; rfl), (cell_of_row _ _ 3 _ _ _ G5.out.arg).trans (by rw [← HCS.out]; rfl), (cell_of_row _ _ 4 _ _ _ G5.out.arg).trans (by rw [← HCS.out]; rfl), (cell_of_row _ _ 5 _ _ _ G5.out.arg).trans (by rw [← HCS.out]; rfl)⟩
      refine ⟨HS, ?_⟩
      clear HS
      try simp only [Act.put, List.setIfInBounds_toArray, List.set_cons_zero, List.set_cons_succ]
      refine FirstH.only (i := 5) (by kernel_rfl) (by decide) inv (fun inv => wpOp_call (i := 5) rfl rfl 8 rfl _ rfl 35 #[.agg #[.int .u8 tn, .int .u16 tl]] (by unfold bareO; go_simp) (KP.out _ _ _) ?_)
      rintro e W6 ⟨rfl, h6⟩
      have b6 : Below W5.heap.size W5 W6 := by rw [← h6]; exact two_up _ _ _ _ _
      have G6 := Lib.hid (G5.out.on b6)
      have O6 := Lib.hid (own_kept' O5.out b6)
      clear h6 b6
      have HS : W6.cell? ⟨W.heap.size, 0, none⟩ = some (.int .u8 fn) ∧ W6.cell? ⟨W.heap.size, 1, none⟩ = some (.int .u16 fl) ∧ W6.cell? ⟨W.heap.size, 2, none⟩ = some (.int .u8 tn) ∧ W6.cell? ⟨W.heap.size, 3, none⟩ = some (.int .u16 tl) ∧ W6.cell? ⟨W.heap.size, 4, none⟩ = some (.slice A n c) ∧ W6.cell? ⟨W.heap.size, 5, none⟩ = some (.bool bad) := ⟨(cell_of_row _ _ 0 _ _ _ G6.out.arg).trans (by rw [← HCS.out]; rfl), (cell_of_row _ _ 1 _ _ _ G6.out.arg).trans (by rw [← HCS.out]; rfl), (cell_of_row _ _ 2 _ _ _ G6.out.arg).trans (by rw [← HCS.out]; rfl), (cell_of_row _ _ 3 _ _ _ G6.out.arg).trans (by rw [← HCS.out]; rfl), (cell_of_row _ _ 4 _ _ _ G6.out.arg).trans (by rw [← HCS.out]; rfl), (cell_of_row _ _ 5 _ _ _ G6.out.arg).trans (by rw [← HCS.out]; rfl)⟩
      refine ⟨_, rfl, HS, ?_⟩
      clear HS
      try simp only [Act.put, List.setIfInBounds_toArray, List.set_cons_zero, List.set_cons_succ]
      refine FirstH.only (i := 9) (by kernel_rfl) (by decide) inv (fun inv => wpOp_appB (i := 9) rfl rfl 12 rfl (.tmp 9) (.tmp 11) rfl W4.heap.size _ 0 [] rfl O6.out A body n c W.heap.size rfl HN.out.symm HNN.out (HR.out.below G6.out.below (Nat.le_refl _) (Nat.le_refl _)) HL.out (Nat.le_of_lt (O6.out.lt _ rfl).2) ?_)
      intro v9 W9 O9 g9
      have G9 := Lib.hid (G6.out.grown (k := W4.heap.size) g9 T5.out)
      rw [Nat.zero_add, List.nil_append] at O9
      have NL9 := nil_of_own O9
      obtain ⟨A9, c9, rfl, hn9, at9, le9, mx9⟩ := bytes_of_own O9
      rw [HN.out]
      have HS : W9.cell? ⟨W.heap.size, 0, none⟩ = some (.int .u8 fn) ∧ W9.cell? ⟨W.heap.size, 1, none⟩ = some (.int .u16 fl) ∧ W9.cell? ⟨W.heap.size, 2, none⟩ = some (.int .u8 tn) ∧ W9.cell? ⟨W.heap.size, 3, none⟩ = some (.int .u16 tl) ∧ W9.cell? ⟨W.heap.size, 4, none⟩ = some (.slice A n c) ∧ W9.cell? ⟨W.heap.size, 5, none⟩ = some (.bool bad) := ⟨(cell_of_row _ _ 0 _ _ _ G9.out.arg).trans (by rw [← HCS.out]; rfl), (cell_of_row _ _ 1 _ _ _ G9.out.arg).trans (by rw [← HCS.out]; rfl), (cell_of_row _ _ 2 _ _ _ G9.out.arg).trans (by rw [← HCS.out]; rfl), (cell_of_row _ _ 3 _ _ _ G9.out.arg).trans (by rw [← HCS.out]; rfl), (cell_of_row _ _ 4 _ _ _ G9.out.arg).trans (by rw [← HCS.out]; rfl), (cell_of_row _ _ 5 _ _ _ G9.out.arg).trans (by rw [← HCS.out]; rfl)⟩
      refine ⟨HS, ?_⟩
      clear HS
      try simp only [Act.put, List.setIfInBounds_toArray, List.set_cons_zero, List.set_cons_succ]
      refine ⟨by kernel_rfl, ?_⟩
      simp only [List.drop_succ_cons, List.drop_zero]
      refine wpList_bd rfl 45 _ rfl #[.int .u8 fn, .int .u16 fl, .int .u8 tn, .int .u16 tl, .slice A9 n c9, .bool bad] (by kernel_rfl) ?_
      refine wpList_store_row rfl 45 (.tmp 2) (.tmp 15) rfl (W.heap.size + 1) #[.int .u8 fn, .int .u16 fl, .int .u8 tn, .int .u16 tl, .slice A9 n c9, .bool bad] (by rfl) (by rfl) 45 #[.int .u8 0, .int .u16 0, .int .u8 0, .int .u16 0, .slice none 0 0, .bool false] G9.out.res (by kernel_rfl) rfl (by simp [Value.oneCell']) ?_
      have ER := Lib.hid (setRow_heap W9 (W.heap.size + 1) _ #[.int .u8 fn, .int .u16 fl, .int .u8 tn, .int .u16 tl, .slice A9 n c9, .bool bad] _ _ G9.out.res)
      go_wp2
      refine bodyPost_ret (v := .agg #[.int .u8 fn, .int .u16 fl, .int .u8 tn, .int .u16 tl, .slice A9 n c9, .bool bad]) (results_cell_row (p := 2) (ty := 45) rfl _ _ (W.heap.size + 1) 45 #[.int .u8 fn, .int .u16 fl, .int .u8 tn, .int .u16 tl, .slice A9 n c9, .bool bad] (0, 0) _ (by rfl) ER.out Try.underlying45 rfl (by kernel_rfl)) rfl ?_
      refine own_end HN.out HL.out at9 le9 mx9 rfl (G9.out.below) G9.out.res (by decide) (by have h2 := T5.out; omega) HL2.out (fun hA => by subst hA; exact ⟨NL9.1 rfl, NL9.2 _ _ rfl⟩)
  · refine (wpOp_vl (i := 6) (v := .slice (some ⟨W3.heap.size, 0, none⟩) 0 0) (w' := W3.alloc (.cells #[] 5)) rfl rfl 9 rfl _ rfl (by unfold bareO; go_simp) ?_)
    obtain ⟨W4, hW4⟩ : ∃ x, W3.alloc (.cells #[] 5) = x := ⟨_, rfl⟩
    have O4 : Hid (W4.ownsRow W3.heap.size 5 1 (.slice (some ⟨W3.heap.size, 0, none⟩) 0 0) 0 []) := Lib.hid (by rw [← hW4]; exact ⟨rfl, .inr ⟨W3.heap.size, 0, #[], rfl, Nat.le_refl _, heap_alloc_new _ _, Nat.le_refl _, by unfold maxLen; omega, rfl, rfl⟩⟩)
    have G4 : Hid (GoingownL W cs W4) := Lib.hid (by rw [← hW4]; exact G3.out.on ((Below.refl _ _).alloc (Nat.le_refl _) _))
    have T4 := Lib.hid (G3.out.lt)
    rw [hW4]
    clear hW4
    have HS : W4.cell? ⟨W.heap.size, 0, none⟩ = some (.int .u8 fn) ∧ W4.cell? ⟨W.heap.size, 1, none⟩ = some (.int .u16 fl) ∧ W4.cell? ⟨W.heap.size, 2, none⟩ = some (.int .u8 tn) ∧ W4.cell? ⟨W.heap.size, 3, none⟩ = some (.int .u16 tl) ∧ W4.cell? ⟨W.heap.size, 4, none⟩ = some (.slice A n c) ∧ W4.cell? ⟨W.heap.size, 5, none⟩ = some (.bool bad) := ⟨(cell_of_row _ _ 0 _ _ _ G4.out.arg).trans (by rw [← HCS.out]; rfl), (cell_of_row _ _ 1 _ _ _ G4.out.arg).trans (by rw [← HCS.out]; rfl), (cell_of_row _ _ 2 _ _ _ G4.out.arg).trans (by rw [← HCS.out]; rfl), (cell_of_row _ _ 3 _ _ _ G4.out.arg).trans (by rw [← HCS.out]; rfl), (cell_of_row _ _ 4 _ _ _ G4.out.arg).trans (by rw [← HCS.out]; rfl), (cell_of_row _ _ 5 _ _ _ G4.out.arg).trans (by rw [← HCS.out]; rfl)⟩
    refine ⟨HS, ?_⟩
    clear HS
    try simp only [Act.put, List.setIfInBounds_toArray, List.set_cons_zero, List.set_cons_succ]
    refine FirstH.only (i := 2) (by kernel_rfl) (by decide) inv (fun inv => wpOp_call (i := 2) rfl rfl 5 rfl _ rfl 35 #[.agg #[.int .u8 fn, .int .u16 fl]] (by unfold bareO; go_simp) (KP.out _ _ _) ?_)
    rintro e W5 ⟨rfl, h5⟩
    have b5 : Below W4.heap.size W4 W5 := by rw [← h5]; exact two_up _ _ _ _ _
    have G5 := Lib.hid (G4.out.on b5)
    have O5 := Lib.hid (own_kept' O4.out b5)
    clear h5 b5
    have HS : W5.cell? ⟨W.heap.size, 0, none⟩ = some (.int .u8 fn) ∧ W5.cell? ⟨W.heap.size, 1, none⟩ = some (.int .u16 fl) ∧ W5.cell? ⟨W.heap.size, 2, none⟩ = some (.int .u8 tn) ∧ W5.cell? ⟨W.heap.size, 3, none⟩ = some (.int .u16 tl) ∧ W5.cell? ⟨W.heap.size, 4, none⟩ = some (.slice A n c) ∧ W5.cell? ⟨W.heap.size, 5, none⟩ = some (.bool bad) := ⟨(cell_of_row _ _ 0 _ _ _ G5.out.arg).trans (by rw [← HCS.out]; rfl), (cell_of_row _ _ 1 _ _ _ G5.out.arg).trans (by rw [← HCS.out]; rfl), (cell_of_row _ _ 2 _ _ _ G5.out.arg).trans (by rw [← HCS.out]; rfl), (cell_of_row _ _ 3 _ _ _ G5.out.arg).trans (by rw [← HCS.out]; rfl), (cell_of_row _ _ 4 _ _ _ G5.out.arg).trans (by rw [← HCS.out]; rfl), (cell_of_row _ _ 5 _ _ _ G5.out.arg).trans (by rw [← HCS.out]; rfl)⟩
    refine ⟨_, rfl, HS, ?_⟩
    clear HS
    try simp only [Act.put, List.setIfInBounds_toArray, List.set_cons_zero, List.set_cons_succ]
    refine FirstH.only (i := 5) (by kernel_rfl) (by decide) inv (fun inv => wpOp_call (i := 5) rfl rfl 8 rfl _ rfl 35 #[.agg #[.int .u8 tn, .int .u16 tl]] (by unfold bareO; go_simp) (KP.out _ _ _) ?_)
    rintro e W6 ⟨rfl, h6⟩
    have b6 : Below W5.heap.size W5 W6 := by rw [← h6]; exact two_up _ _ _ _ _
    have G6 := Lib.hid (G5.out.on b6)
    have O6 := Lib.hid (own_kept' O5.out b6)
    clear h6 b6
    have HS : W6.cell? ⟨W.heap.size, 0, none⟩ = some (.int .u8 fn) ∧ W6.cell? ⟨W.heap.size, 1, none⟩ = some (.int .u16 fl) ∧ W6.cell? ⟨W.heap.size, 2, none⟩ = some (.int .u8 tn) ∧ W6.cell? ⟨W.heap.size, 3, none⟩ = some (.int .u16 tl) ∧ W6.cell? ⟨W.heap.size, 4, none⟩ = some (.slice A n c) ∧ W6.cell? ⟨W.heap.size, 5, none⟩ = some (.bool bad) := ⟨(cell_of_row _ _ 0 _ _ _ G6.out.arg).trans (by rw [← HCS.out]; rfl), (cell_of_row _ _ 1 _ _ _ G6.out.arg).trans (by rw [← HCS.out]; rfl), (cell_of_row _ _ 2 _ _ _ G6.out.arg).trans (by rw [← HCS.out]; rfl), (cell_of_row _ _ 3 _ _ _ G6.out.arg).trans (by rw [← HCS.out]; rfl), (cell_of_row _ _ 4 _ _ _ G6.out.arg).trans (by rw [← HCS.out]; rfl), (cell_of_row _ _ 5 _ _ _ G6.out.arg).trans (by rw [← HCS.out]; rfl)⟩
    refine ⟨_, rfl, HS, ?_⟩
    clear HS
    try simp only [Act.put, List.setIfInBounds_toArray, List.set_cons_zero, List.set_cons_succ]
    refine FirstH.only (i := 9) (by kernel_rfl) (by decide) inv (fun inv => wpOp_appB (i := 9) rfl rfl 12 rfl (.tmp 9) (.tmp 11) rfl W3.heap.size _ 0 [] rfl O6.out A body n c W.heap.size rfl HN.out.symm HNN.out (HR.out.below G6.out.below (Nat.le_refl _) (Nat.le_refl _)) HL.out (Nat.le_of_lt (O6.out.lt _ rfl).2) ?_)
    intro v9 W9 O9 g9
    have G9 := Lib.hid (G6.out.grown (k := W3.heap.size) g9 T4.out)
    rw [Nat.zero_add, List.nil_append] at O9
    have NL9 := nil_of_own O9
    obtain ⟨A9, c9, rfl, hn9, at9, le9, mx9⟩ := bytes_of_own O9
    rw [HN.out]
    have HS : W9.cell? ⟨W.heap.size, 0, none⟩ = some (.int .u8 fn) ∧ W9.cell? ⟨W.heap.size, 1, none⟩ = some (.int .u16 fl) ∧ W9.cell? ⟨W.heap.size, 2, none⟩ = some (.int .u8 tn) ∧ W9.cell? ⟨W.heap.size, 3, none⟩ = some (.int .u16 tl) ∧ W9.cell? ⟨W.heap.size, 4, none⟩ = some (.slice A n c) ∧ W9.cell? ⟨W.heap.size, 5, none⟩ = some (.bool bad) := ⟨(cell_of_row _ _ 0 _ _ _ G9.out.arg).trans (by rw [← HCS.out]; rfl), (cell_of_row _ _ 1 _ _ _ G9.out.arg).trans (by rw [← HCS.out]; rfl), (cell_of_row _ _ 2 _ _ _ G9.out.arg).trans (by rw [← HCS.out]; rfl), (cell_of_row _ _ 3 _ _ _ G9.out.arg).trans (by rw [← HCS.out]; rfl), (cell_of_row _ _ 4 _ _ _ G9.out.arg).trans (by rw [← HCS.out]; rfl), (cell_of_row _ _ 5 _ _ _ G9.out.arg).trans (by rw [← HCS.out]; rfl)⟩
    refine ⟨HS, ?_⟩
    clear HS
    try simp only [Act.put, List.setIfInBounds_toArray, List.set_cons_zero, List.set_cons_succ]
    refine ⟨by kernel_rfl, ?_⟩
    simp only [List.drop_succ_cons, List.drop_zero]
    refine wpList_bd rfl 45 _ rfl #[.int .u8 fn, .int .u16 fl, .int .u8 tn, .int .u16 tl, .slice A9 n c9, .bool bad] (by kernel_rfl) ?_
    refine wpList_store_row rfl 45 (.tmp 2) (.tmp 15) rfl (W.heap.size + 1) #[.int .u8 fn, .int .u16 fl, .int .u8 tn, .int .u16 tl, .slice A9 n c9, .bool bad] (by rfl) (by rfl) 45 #[.int .u8 0, .int .u16 0, .int .u8 0, .int .u16 0, .slice none 0 0, .bool false] G9.out.res (by kernel_rfl) rfl (by simp [Value.oneCell']) ?_
    have ER := Lib.hid (setRow_heap W9 (W.heap.size + 1) _ #[.int .u8 fn, .int .u16 fl, .int .u8 tn, .int .u16 tl, .slice A9 n c9, .bool bad] _ _ G9.out.res)
    go_wp2
    refine bodyPost_ret (v := .agg #[.int .u8 fn, .int .u16 fl, .int .u8 tn, .int .u16 tl, .slice A9 n c9, .bool bad]) (results_cell_row (p := 2) (ty := 45) rfl _ _ (W.heap.size + 1) 45 #[.int .u8 fn, .int .u16 fl, .int .u8 tn, .int .u16 tl, .slice A9 n c9, .bool bad] (0, 0) _ (by rfl) ER.out Try.underlying45 rfl (by kernel_rfl)) rfl ?_
    refine own_end HN.out HL.out at9 le9 mx9 rfl (G9.out.below) G9.out.res (by decide) (by have h2 := T4.out; omega) HL2.out (fun hA => by subst hA; exact ⟨NL9.1 rfl, NL9.2 _ _ rfl⟩)

/-- what goes along: the parcel that is converted, and where the answer is laid. -/
structure GoingrefL (W : World) (cs : Array Value) (X : World) : Prop where
  below : Below W.heap.size W X
  arg : X.heap[W.heap.size]? = some (.cells cs 45 (0, 0))
  res : X.heap[W.heap.size + 1]? = some (.cells #[.int .u8 0, .int .u16 0, .int .u8 0, .int .u16 0, .slice none 0 0, .bool false] 36 (0, 0))
  lt : W.heap.size + 1 < X.heap.size
theorem GoingrefL.on {W : World} {cs : Array Value} {X Y : World} (h : GoingrefL W cs X) (hb : Below X.heap.size X Y) : GoingrefL W cs Y :=
  ⟨h.below.trans (hb.mono h.below.size), (hb.block _ (Nat.lt_of_succ_lt h.lt)).trans h.arg, (hb.block _ h.lt).trans h.res, Nat.lt_of_lt_of_le h.lt hb.size⟩
theorem GoingrefL.grown {W : World} {cs : Array Value} {X Y : World} {k : Nat} (h : GoingrefL W cs X) (hg : X.grownBy Y (some k)) (hk : W.heap.size + 1 < k) : GoingrefL W cs Y :=
  ⟨h.below.grown hg h.below.size (fun j hj => by cases hj; omega), (hg.block _ (Nat.lt_of_succ_lt h.lt) (by simp; omega)).trans h.arg, (hg.block _ h.lt (by simp; omega)).trans h.res, Nat.lt_of_lt_of_le h.lt hg.size⟩

set_option maxRecDepth 100000 in
set_option maxHeartbeats 4000000 in
theorem refL (x : Lp) (W : World) (hr : BytesAt W W.heap.size x.A x.p.B) (hl : x.p.B.length ≤ 140737488351232) (hnn : x.A = none → x.p.B.length = 0 ∧ x.c = 0) :
    Calls Try.prog 16 #[.agg x.cs] W fun e W' => ∃ y : Lp, e = .returned (.agg y.cs) ∧ y.p = x.p ∧ y.Ok W' W.heap.size ∧ Below W.heap.size W W' := by
  obtain ⟨⟨fn, fl, tn, tl, body, bad⟩, A, c⟩ := x
  simp only at hr hl hnn
  obtain ⟨n, hn⟩ : ∃ n, body.length = n := ⟨_, rfl⟩
  rw [hn] at hnn
  have HR := Lib.hid hr
  have HNN := Lib.hid hnn
  have HL : Hid (0 + body.length ≤ 140737488355328) := Lib.hid (by omega)
  have HL2 := Lib.hid hl
  have HN := Lib.hid hn
  have ecs : (Lp.mk ⟨fn, fl, tn, tl, body, bad⟩ A c).cs = #[.int .u8 fn, .int .u16 fl, .int .u8 tn, .int .u16 tl, .slice A n c, .bool bad] := by unfold Lp.cs; simp only [hn]
  rw [ecs]
  obtain ⟨cs, hcs⟩ : ∃ cs : Array Value, #[.int .u8 fn, .int .u16 fl, .int .u8 tn, .int .u16 tl, .slice A n c, .bool bad] = cs := ⟨_, rfl⟩
  have KP := Lib.hid (fun a b w => refProc a b w)
  obtain ⟨W1, hW1⟩ : ∃ W1, W.alloc (.cells #[.int .u8 fn, .int .u16 fl, .int .u8 tn, .int .u16 tl, .slice A n c, .bool bad] 45) = W1 := ⟨_, rfl⟩
  obtain ⟨W2, hW2⟩ : ∃ W2, W1.alloc (.cells #[.int .u8 0, .int .u16 0, .int .u8 0, .int .u16 0, .slice none 0 0, .bool false] 36) = W2 := ⟨_, rfl⟩
  have s1 : W1.heap.size = W.heap.size + 1 := by rw [← hW1]; simp
  have s2 : W2.heap.size = W.heap.size + 2 := by rw [← hW2]; simp [s1]
  have rA1 : W1.heap[W.heap.size]? = some (.cells cs 45 (0, 0)) := by rw [← hW1, ← hcs]; exact heap_alloc_new _ _
  have G2 : GoingrefL W cs W2 := ⟨by rw [← hW2, ← hW1]; exact two_up _ _ _ _ _, by rw [← hW2, Below.heap_alloc _ _ _ (by omega)]; exact rA1, by rw [← hW2, ← s1]; exact heap_alloc_new _ _, by omega⟩
  obtain ⟨W3, hW3⟩ : ∃ W3, W2.drew = W3 := ⟨_, rfl⟩
  have G3 : Hid (GoingrefL W cs W3) := Lib.hid (by rw [← hW3]; exact G2.on (Below.refl _ _).drew)
  have HW1 := Lib.hid hW1
  have HW2 := Lib.hid hW2
  have HW3 := Lib.hid hW3
  have S1 := Lib.hid s1
  have S2 := Lib.hid s2
  have HCS := Lib.hid hcs
  clear ecs hn hr hl hnn hW1 hW2 hW3 s1 s2 rA1 G2 hcs
  go_enter Try.func16, Try.ntmps16
  go_wp2
  refine region_heldT (S := fun X => X.cell? ⟨W.heap.size, 0, none⟩ = some (.int .u8 fn) ∧ X.cell? ⟨W.heap.size, 1, none⟩ = some (.int .u16 fl) ∧ X.cell? ⟨W.heap.size, 2, none⟩ = some (.int .u8 tn) ∧ X.cell? ⟨W.heap.size, 3, none⟩ = some (.int .u16 tl) ∧ X.cell? ⟨W.heap.size, 4, none⟩ = some (.slice A n c) ∧ X.cell? ⟨W.heap.size, 5, none⟩ = some (.bool bad)) 12 (by kernel_rfl) (by decide) (fun inv => ?_)
  change FirstH _ _ _ _ _ _ _ _ _ _ ((W.alloc (.cells #[.int .u8 fn, .int .u16 fl, .int .u8 tn, .int .u16 tl, .slice A n c, .bool bad] 45)).alloc (.cells #[.int .u8 0, .int .u16 0, .int .u8 0, .int .u16 0, .slice none 0 0, .bool false] 36)).drew
  rw [HW1.out, HW2.out, HW3.out]
  have HS : W3.cell? ⟨W.heap.size, 0, none⟩ = some (.int .u8 fn) ∧ W3.cell? ⟨W.heap.size, 1, none⟩ = some (.int .u16 fl) ∧ W3.cell? ⟨W.heap.size, 2, none⟩ = some (.int .u8 tn) ∧ W3.cell? ⟨W.heap.size, 3, none⟩ = some (.int .u16 tl) ∧ W3.cell? ⟨W.heap.size, 4, none⟩ = some (.slice A n c) ∧ W3.cell? ⟨W.heap.size, 5, none⟩ = some (.bool bad) := ⟨(cell_of_row _ _ 0 _ _ _ G3.out.arg).trans (by rw [← HCS.out]; rfl), (cell_of_row _ _ 1 _ _ _ G3.out.arg).trans (by rw [← HCS.out]; rfl), (cell_of_row _ _ 2 _ _ _ G3.out.arg).trans (by rw [← HCS.out]; rfl), (cell_of_row _ _ 3 _ _ _ G3.out.arg).trans (by rw [← HCS.out]; rfl), (cell_of_row _ _ 4 _ _ _ G3.out.arg).trans (by rw [← HCS.out]; rfl), (cell_of_row _ _ 5 _ _ _ G3.out.arg).trans (by rw [← HCS.out]; rfl)⟩
  refine FirstH.go (i := 0) (v := .pointer (some ⟨W.heap.size, 0, none⟩)) rfl rfl _ rfl _ rfl (by kernel_rfl) (fun _ _ _ h => h) inv (fun X _ => by unfold bareO; go_simp) HS (fun inv => ?_)
  try simp only [Act.put, List.setIfInBounds_toArray, List.set_cons_zero, List.set_cons_succ]
  refine FirstH.go (i := 1) (v := .agg #[.int .u8 fn, .int .u16 fl]) rfl rfl _ rfl _ rfl (by kernel_rfl) (fun _ _ _ h => h) inv (fun X hS => by obtain ⟨l0, l1, l2, l3, l4, l5⟩ := hS; unfold bareO; go_simp) HS (fun inv => ?_)
  try simp only [Act.put, List.setIfInBounds_toArray, List.set_cons_zero, List.set_cons_succ]
  refine FirstH.go (i := 3) (v := .pointer (some ⟨W.heap.size, 2, none⟩)) rfl rfl _ rfl _ rfl (by kernel_rfl) (fun _ _ _ h => h) inv (fun X _ => by unfold bareO; go_simp) HS (fun inv => ?_)
  try simp only [Act.put, List.setIfInBounds_toArray, List.set_cons_zero, List.set_cons_succ]
  refine FirstH.go (i := 4) (v := .agg #[.int .u8 tn, .int .u16 tl]) rfl rfl _ rfl _ rfl (by kernel_rfl) (fun _ _ _ h => h) inv (fun X hS => by obtain ⟨l0, l1, l2, l3, l4, l5⟩ := hS; unfold bareO; go_simp) HS (fun inv => ?_)
  try simp only [Act.put, List.setIfInBounds_toArray, List.set_cons_zero, List.set_cons_succ]
  refine FirstH.go (i := 7) (v := .pointer (some ⟨W.heap.size, 4, none⟩)) rfl rfl _ rfl _ rfl (by kernel_rfl) (fun _ _ _ h => h) inv (fun X _ => by unfold bareO; go_simp) HS (fun inv => ?_)
  try simp only [Act.put, List.setIfInBounds_toArray, List.set_cons_zero, List.set_cons_succ]
  refine FirstH.go (i := 8) (v := .slice A n c) rfl rfl _ rfl _ rfl (by kernel_rfl) (fun _ _ _ h => h) inv (fun X hS => by obtain ⟨l0, l1, l2, l3, l4, l5⟩ := hS; unfold bareO; go_simp) HS (fun inv => ?_)
  try simp only [Act.put, List.setIfInBounds_toArray, List.set_cons_zero, List.set_cons_succ]
  refine FirstH.go (i := 10) (v := .pointer (some ⟨W.heap.size, 5, none⟩)) rfl rfl _ rfl _ rfl (by kernel_rfl) (fun _ _ _ h => h) inv (fun X _ => by unfold bareO; go_simp) HS (fun inv => ?_)
  try simp only [Act.put, List.setIfInBounds_toArray, List.set_cons_zero, List.set_cons_succ]
  refine FirstH.go (i := 11) (v := .bool bad) rfl rfl _ rfl _ rfl (by kernel_rfl) (fun _ _ _ h => h) inv (fun X hS => by obtain ⟨l0, l1, l2, l3, l4, l5⟩ := hS; unfold bareO; go_simp) HS (fun inv => ?_)
  try simp only [Act.put, List.setIfInBounds_toArray, List.set_cons_zero, List.set_cons_succ]
  clear HS
  refine FirstH.two (i := 2) (j := 6) (by kernel_rfl) (by decide) (by decide) inv (fun inv => ?_) (fun inv => ?_)
  · refine (wpOp_call (i := 2) rfl rfl 5 rfl _ rfl 23 #[.agg #[.int .u8 fn, .int .u16 fl]] (by unfold bareO; go_simp) (KP.out _ _ _) ?_)
    rintro e W4 ⟨rfl, h4⟩
    have b4 : Below W3.heap.size W3 W4 := by rw [← h4]; exact two_up _ _ _ _ _
    have G4 := Lib.hid (G3.out.on b4)
    clear h4 b4
    have HS : W4.cell? ⟨W.heap.size, 0, none⟩ = some (.int .u8 fn) ∧ W4.cell? ⟨W.heap.size, 1, none⟩ = some (.int .u16 fl) ∧ W4.cell? ⟨W.heap.size, 2, none⟩ = some (.int .u8 tn) ∧ W4.cell? ⟨W.heap.size, 3, none⟩ = some (.int .u16 tl) ∧ W4.cell? ⟨W.heap.size, 4, none⟩ = some (.slice A n c) ∧ W4.cell? ⟨W.heap.size, 5, none⟩ = some (.bool bad) := ⟨(cell_of_row _ _ 0 _ _ _ G4.out.arg).trans (by rw [← HCS.out]; rfl), (cell_of_row _ _ 1 _ _ _ G4.out.arg).trans (by rw [← HCS.out]; rfl), (cell_of_row _ _ 2 _ _ _ G4.out.arg).trans (by rw [← HCS.out]; rfl), (cell_of_row _ _ 3 _ _ _ G4.out.arg).trans (by rw [← HCS.out]; rfl), (cell_of_row _ _ 4 _ _ _ G4.out.arg).trans (by rw [← HCS.out]; rfl), (cell_of_row _ _ 5 _ _ _ G4.out.arg).trans (by rw [← HCS.out]; rfl)⟩
    refine ⟨_, rfl, HS, ?_⟩
    clear HS
    try simp only [Act.put, List.setIfInBounds_toArray, List.set_cons_zero, List.set_cons_succ]
    refine FirstH.two (i := 5) (j := 6) (by kernel_rfl) (by decide) (by decide) inv (fun inv => ?_) (fun inv => ?_)
    · refine (wpOp_call (i := 5) rfl rfl 8 rfl _ rfl 23 #[.agg #[.int .u8 tn, .int .u16 tl]] (by unfold bareO; go_simp) (KP.out _ _ _) ?_)
      rintro e W5 ⟨rfl, h5⟩
      have b5 : Below W4.heap.size W4 W5 := by rw [← h5]; exact two_up _ _ _ _ _
      have G5 := Lib.hid (G4.out.on b5)
      clear h5 b5
      have HS : W5.cell? ⟨W.heap.size, 0, none⟩ = some (.int .u8 fn) ∧ W5.cell? ⟨W.heap.size, 1, none⟩ = some (.int .u16 fl) ∧ W5.cell? ⟨W.heap.size, 2, none⟩ = some (.int .u8 tn) ∧ W5.cell? ⟨W.heap.size, 3, none⟩ = some (.int .u16 tl) ∧ W5.cell? ⟨W.heap.size, 4, none⟩ = some (.slice A n c) ∧ W5.cell? ⟨W.heap.size, 5, none⟩ = some (.bool bad) := ⟨(cell_of_row _ _ 0 _ _ _ G5.out.arg).trans (by rw [← HCS.out]; rfl), (cell_of_row _ _ 1 _ _ _ G5.out.arg).trans (by rw [← HCS.out]; rfl), (cell_of_row _ _ 2 _ _ _ G5.out.arg).trans (by rw [← HCS.out]; rfl), (cell_of_row _ _ 3 _ _ _ G5.out.arg).trans (by rw [← HCS.out]; rfl), (cell_of_row _ _ 4 _ _ _ G5.out.arg).trans (by rw [← HCS.out]; rfl), (cell_of_row _ _ 5 _ _ _ G5.out.arg).trans (by rw [← HCS.out]; rfl)⟩
      refine ⟨_, rfl, HS, ?_⟩
      clear HS
      try simp only [Act.put, List.setIfInBounds_toArray, List.set_cons_zero, List.set_cons_succ]
      refine FirstH.only (i := 6) (by kernel_rfl) (by decide) inv (fun inv => wpOp_vl (i := 6) (v := .slice (some ⟨W5.heap.size, 0, none⟩) 0 0) (w' := W5.alloc (.cells #[] 5)) rfl rfl 9 rfl _ rfl (by unfold bareO; go_simp) ?_)
      obtain ⟨W6, hW6⟩ : ∃ x, W5.alloc (.cells #[] 5) = x := ⟨_, rfl⟩
      have O6 : Hid (W6.ownsRow W5.heap.size 5 1 (.slice (some ⟨W5.heap.size, 0, none⟩) 0 0) 0 []) := Lib.hid (by rw [← hW6]; exact ⟨rfl, .inr ⟨W5.heap.size, 0, #[], rfl, Nat.le_refl _, heap_alloc_new _ _, Nat.le_refl _, by unfold maxLen; omega, rfl, rfl⟩⟩)
      have G6 : Hid (GoingrefL W cs W6) := Lib.hid (by rw [← hW6]; exact G5.out.on ((Below.refl _ _).alloc (Nat.le_refl _) _))
      have T6 := Lib.hid (G5.out.lt)
      rw [hW6]
      clear hW6
      have HS : W6.cell? ⟨W.heap.size, 0, none⟩ = some (.int .u8 fn) ∧ W6.cell? ⟨W.heap.size, 1, none⟩ = some (.int .u16 fl) ∧ W6.cell? ⟨W.heap.size, 2, none⟩ = some (.int .u8 tn) ∧ W6.cell? ⟨W.heap.size, 3, none⟩ = some (.int .u16 tl) ∧ W6.cell? ⟨W.heap.size, 4, none⟩ = some (.slice A n c) ∧ W6.cell? ⟨W.heap.size, 5, none⟩ = some (.bool bad) := ⟨(cell_of_row _ _ 0 _ _ _ G6.out.arg).trans (by rw [← HCS.out]; rfl), (cell_of_row _ _ 1 _ _ _ G6.out.arg).trans (by rw [← HCS.out]; rfl), (cell_of_row _ _ 2 _ _ _ G6.out.arg).trans (by rw [← HCS.out]; rfl), (cell_of_row _ _ 3 _ _ _ G6.out.arg).trans (by rw [← HCS.out]; rfl), (cell_of_row _ _ 4 _ _ _ G6.out.arg).trans (by rw [← HCS.out]; rfl), (cell_of_row _ _ 5 _ _ _ G6.out.arg).trans (by rw [← HCS.out]; rfl)⟩
      refine ⟨HS, ?_⟩
      clear HS
      try simp only [Act.put, List.setIfInBounds_toArray, List.set_cons_zero, List.set_cons_succ]
      refine FirstH.only (i := 9) (by kernel_rfl) (by decide) inv (fun inv => wpOp_appB (i := 9) rfl rfl 12 rfl (.tmp 9) (.tmp 11) rfl W5.heap.size _ 0 [] rfl O6.out A body n c W.heap.size rfl HN.out.symm HNN.out (HR.out.below G6.out.below (Nat.le_refl _) (Nat.le_refl _)) HL.out (Nat.le_of_lt (O6.out.lt _ rfl).2) ?_)
      intro v9 W9 O9 g9
      have G9 := Lib.hid (G6.out.grown (k := W5.heap.size) g9 T6.out)
      rw [Nat.zero_add, List.nil_append] at O9
      have NL9 := nil_of_own O9
      obtain ⟨A9, c9, rfl, hn9, at9, le9, mx9⟩ := bytes_of_own O9
      rw [HN.out]
      have HS : W9.cell? ⟨W.heap.size, 0, none⟩ = some (.int .u8 fn) ∧ W9.cell? ⟨W.heap.size, 1, none⟩ = some (.int .u16 fl) ∧ W9.cell? ⟨W.heap.size, 2, none⟩ = some (.int .u8 tn) ∧ W9.cell? ⟨W.heap.size, 3, none⟩ = some (.int .u16 tl) ∧ W9.cell? ⟨W.heap.size, 4, none⟩ = some (.slice A n c) ∧ W9.cell? ⟨W.heap.size, 5, none⟩ = some (.bool bad) := ⟨(cell_of_row _ _ 0 _ _ _ G9.out.arg).trans (by rw [← HCS.out]; rfl), (cell_of_row _ _ 1 _ _ _ G9.out.arg).trans (by rw [← HCS.out]; rfl), (cell_of_row _ _ 2 _ _ _ G9.out.arg).trans (by rw [← HCS.out]; rfl), (cell_of_row _ _ 3 _ _ _ G9.out.arg).trans (by rw [← HCS.out]; rfl), (cell_of_row _ _ 4 _ _ _ G9.out.arg).trans (by rw [← HCS.out]; rfl), (cell_of_row _ _ 5 _ _ _ G9.out.arg).trans (by rw [← HCS.out]; rfl)⟩
      refine ⟨HS, ?_⟩
      clear HS
      try simp only [Act.put, List.setIfInBounds_toArray, List.set_cons_zero, List.set_cons_succ]
      refine ⟨by kernel_rfl, ?_⟩
      simp only [List.drop_succ_cons, List.drop_zero]
      refine wpList_bd rfl 36 _ rfl #[.int .u8 fn, .int .u16 fl, .int .u8 tn, .int .u16 tl, .slice A9 n c9, .bool bad] (by kernel_rfl) ?_
      refine wpList_store_row rfl 36 (.tmp 2) (.tmp 15) rfl (W.heap.size + 1) #[.int .u8 fn, .int .u16 fl, .int .u8 tn, .int .u16 tl, .slice A9 n c9, .bool bad] (by rfl) (by rfl) 36 #[.int .u8 0, .int .u16 0, .int .u8 0, .int .u16 0, .slice none 0 0, .bool false] G9.out.res (by kernel_rfl) rfl (by simp [Value.oneCell']) ?_
      have ER := Lib.hid (setRow_heap W9 (W.heap.size + 1) _ #[.int .u8 fn, .int .u16 fl, .int .u8 tn, .int .u16 tl, .slice A9 n c9, .bool bad] _ _ G9.out.res)
      go_wp2
      refine bodyPost_ret (v := .agg #[.int .u8 fn, .int .u16 fl, .int .u8 tn, .int .u16 tl, .slice A9 n c9, .bool bad]) (results_cell_row (p := 2) (ty := 36) rfl _ _ (W.heap.size + 1) 36 #[.int .u8 fn, .int .u16 fl, .int .u8 tn, .int .u16 tl, .slice A9 n c9, .bool bad] (0, 0) _ (by rfl) ER.out Try.underlying36 rfl (by kernel_rfl)) rfl ?_
      refine own_end HN.out HL.out at9 le9 mx9 rfl (G9.out.below) G9.out.res (by decide) (by have h2 := T6.out; omega) HL2.out (fun hA => by subst hA; exact ⟨NL9.1 rfl, NL9.2 _ _ rfl⟩)
    · refine (wpOp_vl (i := 6) (v := .slice (some ⟨W4.heap.size, 0, none⟩) 0 0) (w' := W4.alloc (.cells #[] 5)) rfl rfl 9 rfl _ rfl (by unfold bareO; go_simp) ?_)
      obtain ⟨W5, hW5⟩ : ∃ x, W4.alloc (.cells #[] 5) = x := ⟨_, rfl⟩
      have O5 : Hid (W5.ownsRow W4.heap.size 5 1 (.slice (some ⟨W4.heap.size, 0, none⟩) 0 0) 0 []) := Lib.hid (by rw [← hW5]; exact ⟨rfl, .inr ⟨W4.heap.size, 0, #[], rfl, Nat.le_refl _, heap_alloc_new _ _, Nat.le_refl _, by unfold maxLen; omega, rfl, rfl⟩⟩)
      have G5 : Hid (GoingrefL W cs W5) := Lib.hid (by rw [← hW5]; exact G4.out.on ((Below.refl _ _).alloc (Nat.le_refl _) _))
      have T5 := Lib.hid (G4.out.lt)
      rw [hW5]
      clear hW5
      have HS : W5.cell? ⟨W.heap.size, 0, none⟩ = some (.int .u8 fn) ∧ W5.cell? ⟨W.heap.size, 1, none⟩ = some (.int .u16 fl) ∧ W5.cell? ⟨W.heap.size, 2, none⟩ = some (.int .u8 tn) ∧ W5.cell? ⟨W.heap.size, 3, none⟩ = some (.int .u16 tl) ∧ W5.cell? ⟨W.heap.size, 4, none⟩ = some (.slice A n c) ∧ W5.cell? ⟨W.heap.size, 5, none⟩ = some (.bool bad) := ⟨(cell_of_row _ _ 0 _ _ _ G5.out.arg).trans (by rw [← HCS.out]; rfl), (cell_of_row _ _ 1 _ _ _ G5.out.arg).trans (by rw [← HCS.out]; rfl), (cell_of_row _ _ 2 _ _ _ G5.out.arg).trans (by rw [← HCS.out]; rfl), (cell_of_row _ _ 3 _ _ _ G5.out.arg).trans (by rw [← HCS.out]; rfl), (cell_of_row _ _ 4 _ _ _ G5.out.arg).trans (by rw [← HCS.out]; rfl), (cell_of_row _ _ 5 _ _ _ G5.out.arg).trans (by rw [← HCS.out]; rfl)⟩
      refine ⟨HS, ?_⟩
      clear HS
      try simp only [Act.put, List.setIfInBounds_toArray, List.set_cons_zero, List.set_cons_succ]
      refine FirstH.only (i := 5) (by kernel_rfl) (by decide) inv (fun inv => wpOp_call (i := 5) rfl rfl 8 rfl _ rfl 23 #[.agg #[.int .u8 tn, .int .u16 tl]] (by unfold bareO; go_simp) (KP.out _ _ _) ?_)
      rintro e W6 ⟨rfl, h6⟩
      have b6 : Below W5.heap.size W5 W6 := by rw [← h6]; exact two_up _ _ _ _ _
      have G6 := Lib.hid (G5.out.on b6)
      have O6 := Lib.hid (own_kept' O5.out b6)
      clear h6 b6
      have HS : W6.cell? ⟨W.heap.size, 0, none⟩ = some (.int .u8 fn) ∧ W6.cell? ⟨W.heap.size, 1, none⟩ = some (.int .u16 fl) ∧ W6.cell? ⟨W.heap.size, 2, none⟩ = some (.int .u8 tn) ∧ W6.cell? ⟨W.heap.size, 3, none⟩ = some (.int .u16 tl) ∧ W6.cell? ⟨W.heap.size, 4, none⟩ = some (.slice A n c) ∧ W6.cell? ⟨W.heap.size, 5, none⟩ = some (.bool bad) := ⟨(cell_of_row _ _ 0 _ _ _ G6.out.arg).trans (by rw [← HCS.out]; rfl), (cell_of_row _ _ 1 _ _ _ G6.out.arg).trans (by rw [← HCS.out]; rfl), (cell_of_row _ _ 2 _ _ _ G6.out.arg).trans (by rw [← HCS.out]; rfl), (cell_of_row _ _ 3 _ _ _ G6.out.arg).trans (by rw [← HCS.out]; rfl), (cell_of_row _ _ 4 _ _ _ G6.out.arg).trans (by rw [← HCS.out]; rfl), (cell_of_row _ _ 5 _ _ _ G6.out.arg).trans (by rw [← HCS.out]; rfl)⟩
      refine ⟨_, rfl, HS, ?_⟩
      clear HS
      try simp only [Act.put, List.setIfInBounds_toArray, List.set_cons_zero, List.set_cons_succ]
      refine FirstH.only (i := 9) (by kernel_rfl) (by decide) inv (fun inv => wpOp_appB (i := 9) rfl rfl 12 rfl (.tmp 9) (.tmp 11) rfl W4.heap.size _ 0 [] rfl O6.out A body n c W.heap.size rfl HN.out.symm HNN.out (HR.out.below G6.out.below (Nat.le_refl _) (Nat.le_refl _)) HL.out (Nat.le_of_lt (O6.out.lt _ rfl).2) ?_)
      intro v9 W9 O9 g9
      have G9 := Lib.hid (G6.out.grown (k := W4.heap.size) g9 T5.out)
      rw [Nat.zero_add, List.nil_append] at O9
      have NL9 := nil_of_own O9
      obtain ⟨A9, c9, rfl, hn9, at9, le9, mx9⟩ := bytes_of_own O9
      rw [HN.out]
      have HS : W9.cell? ⟨W.heap.size, 0, none⟩ = some (.int .u8 fn) ∧ W9.cell? ⟨W.heap.size, 1, none⟩ = some (.int .u16 fl) ∧ W9.cell? ⟨W.heap.size, 2, none⟩ = some (.int .u8 tn) ∧ W9.cell? ⟨W.heap.size, 3, none⟩ = some (.int .u16 tl) ∧ W9.cell? ⟨W.heap.size, 4, none⟩ = some (.slice A n c) ∧ W9.cell? ⟨W.heap.size, 5, none⟩ = some (.bool bad) := ⟨(cell_of_row _ _ 0 _ _ _ G9.out.arg).trans (by rw [← HCS.out]; rfl), (cell_of_row _ _ 1 _ _ _ G9.out.arg).trans (by rw [← HCS.out]; rfl), (cell_of_row _ _ 2 _ _ _ G9.out.arg).trans (by rw [← HCS.out]; rfl), (cell_of_row _ _ 3 _ _ _ G9.out.arg).trans (by rw [← HCS.out]; rfl), (cell_of_row _ _ 4 _ _ _ G9.out.arg).trans (by rw [← HCS.out]; rfl), (cell_of_row _ _ 5 _ _ _ G9.out.arg).trans (by rw [← HCS.out]; rfl)⟩
      refine ⟨HS, ?_⟩
      clear HS
      try simp only [Act.put, List.setIfInBounds_toArray, List.set_cons_zero, List.set_cons_succ]
      refine ⟨by kernel_rfl, ?_⟩
      simp only [List.drop_succ_cons, List.drop_zero]
      refine wpList_bd rfl 36 _ rfl #[.int .u8 fn, .int .u16 fl, .int .u8 tn, .int .u16 tl, .slice A9 n c9, .bool bad] (by kernel_rfl) ?_
      refine wpList_store_row rfl 36 (.tmp 2) (.tmp 15) rfl (W.heap.size + 1) #[.int .u8 fn, .int .u16 fl, .int .u8 tn, .int .u16 tl, .slice A9 n c9, .bool bad] (by rfl) (by rfl) 36 #[.int .u8 0, .int .u16 0, .int .u8 0, .int .u16 0, .slice none 0 0, .bool false] G9.out.res (by kernel_rfl) rfl (by simp [Value.oneCell']) ?_
      have ER := Lib.hid (setRow_heap W9 (W.heap.size + 1) _ #[.int .u8 fn, .int .u16 fl, .int .u8 tn, .int .u16 tl, .slice A9 n c9, .bool bad] _ _ G9.out.res)
      go_wp2
      refine bodyPost_ret (v := .agg #[.int .u8 fn, .int .u16 fl, .int .u8 tn, .int .u16 tl, .slice A9 n c9, .bool bad]) (results_cell_row (p := 2) (ty := 36) rfl _ _ (W.heap.size + 1) 36 #[.int .u8 fn, .int .u16 fl, .int .u8 tn, .int .u16 tl, .slice A9 n c9, .bool bad] (0, 0) _ (by rfl) ER.out Try.underlying36 rfl (by kernel_rfl)) rfl ?_
      refine own_end HN.out HL.out at9 le9 mx9 rfl (G9.out.below) G9.out.res (by decide) (by have h2 := T5.out; omega) HL2.out (fun hA => by subst hA; exact ⟨NL9.1 rfl, NL9.2 _ _ rfl⟩)
  · refine (wpOp_vl (i := 6) (v := .slice (some ⟨W3.heap.size, 0, none⟩) 0 0) (w' := W3.alloc (.cells #[] 5)) rfl rfl 9 rfl _ rfl (by unfold bareO; go_simp) ?_)
    obtain ⟨W4, hW4⟩ : ∃ x, W3.alloc (.cells #[] 5) = x := ⟨_, rfl⟩
    have O4 : Hid (W4.ownsRow W3.heap.size 5 1 (.slice (some ⟨W3.heap.size, 0, none⟩) 0 0) 0 []) := Lib.hid (by rw [← hW4]; exact ⟨rfl, .inr ⟨W3.heap.size, 0, #[], rfl, Nat.le_refl _, heap_alloc_new _ _, Nat.le_refl _, by unfold maxLen; omega, rfl, rfl⟩⟩)
    have G4 : Hid (GoingrefL W cs W4) := Lib.hid (by rw [← hW4]; exact G3.out.on ((Below.refl _ _).alloc (Nat.le_refl _) _))
    have T4 := Lib.hid (G3.out.lt)
    rw [hW4]
    clear hW4
    have HS : W4.cell? ⟨W.heap.size, 0, none⟩ = some (.int .u8 fn) ∧ W4.cell? ⟨W.heap.size, 1, none⟩ = some (.int .u16 fl) ∧ W4.cell? ⟨W.heap.size, 2, none⟩ = some (.int .u8 tn) ∧ W4.cell? ⟨W.heap.size, 3, none⟩ = some (.int .u16 tl) ∧ W4.cell? ⟨W.heap.size, 4, none⟩ = some (.slice A n c) ∧ W4.cell? ⟨W.heap.size, 5, none⟩ = some (.bool bad) := ⟨(cell_of_row _ _ 0 _ _ _ G4.out.arg).trans (by rw [← HCS.out]; rfl), (cell_of_row _ _ 1 _ _ _ G4.out.arg).trans (by rw [← HCS.out]; rfl), (cell_of_row _ _ 2 _ _ _ G4.out.arg).trans (by rw [← HCS.out]; rfl), (cell_of_row _ _ 3 _ _ _ G4.out.arg).trans (by rw [← HCS.out]; rfl), (cell_of_row _ _ 4 _ _ _ G4.out.arg).trans (by rw [← HCS.out]; rfl), (cell_of_row _ _ 5 _ _ _ G4.out.arg).trans (by rw [← HCS.out]; rfl)⟩
    refine ⟨HS, ?_⟩
    clear HS
    try simp only [Act.put, List.setIfInBounds_toArray, List.set_cons_zero, List.set_cons_succ]
    refine FirstH.only (i := 2) (by kernel_rfl) (by decide) inv (fun inv => wpOp_call (i := 2) rfl rfl 5 rfl _ rfl 23 #[.agg #[.int .u8 fn, .int .u16 fl]] (by unfold bareO; go_simp) (KP.out _ _ _) ?_)
    rintro e W5 ⟨rfl, h5⟩
    have b5 : Below W4.heap.size W4 W5 := by rw [← h5]; exact two_up _ _ _ _ _
    have G5 := Lib.hid (G4.out.on b5)
    have O5 := Lib.hid (own_kept' O4.out b5)
    clear h5 b5
    have HS : W5.cell? ⟨W.heap.size, 0, none⟩ = some (.int .u8 fn) ∧ W5.cell? ⟨W.heap.size, 1, none⟩ = some (.int .u16 fl) ∧ W5.cell? ⟨W.heap.size, 2, none⟩ = some (.int .u8 tn) ∧ W5.cell? ⟨W.heap.size, 3, none⟩ = some (.int .u16 tl) ∧ W5.cell? ⟨W.heap.size, 4, none⟩ = some (.slice A n c) ∧ W5.cell? ⟨W.heap.size, 5, none⟩ = some (.bool bad) := ⟨(cell_of_row _ _ 0 _ _ _ G5.out.arg).trans (by rw [← HCS.out]; rfl), (cell_of_row _ _ 1 _ _ _ G5.out.arg).trans (by rw [← HCS.out]; rfl), (cell_of_row _ _ 2 _ _ _ G5.out.arg).trans (by rw [← HCS.out]; rfl), (cell_of_row _ _ 3 _ _ _ G5.out.arg).trans (by rw [← HCS.out]; rfl), (cell_of_row _ _ 4 _ _ _ G5.out.arg).trans (by rw [← HCS.out]; rfl), (cell_of_row _ _ 5 _ _ _ G5.out.arg).trans (by rw [← HCS.out]; rfl)⟩
    refine ⟨_, rfl, HS, ?_⟩
    clear HS
    try simp only [Act.put, List.setIfInBounds_toArray, List.set_cons_zero, List.set_cons_succ]
    refine FirstH.only (i := 5) (by kernel_rfl) (by decide) inv (fun inv => wpOp_call (i := 5) rfl rfl 8 rfl _ rfl 23 #[.agg #[.int .u8 tn, .int .u16 tl]] (by unfold bareO; go_simp) (KP.out _ _ _) ?_)
    rintro e W6 ⟨rfl, h6⟩
    have b6 : Below W5.heap.size W5 W6 := by rw [← h6]; exact two_up _ _ _ _ _
    have G6 := Lib.hid (G5.out.on b6)
    have O6 := Lib.hid (own_kept' O5.out b6)
    clear h6 b6
    have HS : W6.cell? ⟨W.heap.size, 0, none⟩ = some (.int .u8 fn) ∧ W6.cell? ⟨W.heap.size, 1, none⟩ = some (.int .u16 fl) ∧ W6.cell? ⟨W.heap.size, 2, none⟩ = some (.int .u8 tn) ∧ W6.cell? ⟨W.heap.size, 3, none⟩ = some (.int .u16 tl) ∧ W6.cell? ⟨W.heap.size, 4, none⟩ = some (.slice A n c) ∧ W6.cell? ⟨W.heap.size, 5, none⟩ = some (.bool bad) := ⟨(cell_of_row _ _ 0 _ _ _ G6.out.arg).trans (by rw [← HCS.out]; rfl), (cell_of_row _ _ 1 _ _ _ G6.out.arg).trans (by rw [← HCS.out]; rfl), (cell_of_row _ _ 2 _ _ _ G6.out.arg).trans (by rw [← HCS.out]; rfl), (cell_of_row _ _ 3 _ _ _ G6.out.arg).trans (by rw [← HCS.out]; rfl), (cell_of_row _ _ 4 _ _ _ G6.out.arg).trans (by rw [← HCS.out]; rfl), (cell_of_row _ _ 5 _ _ _ G6.out.arg).trans (by rw [← HCS.out]; rfl)⟩
    refine ⟨_, rfl, HS, ?_⟩
    clear HS
    try simp only [Act.put, List.setIfInBounds_toArray, List.set_cons_zero, List.set_cons_succ]
    refine FirstH.only (i := 9) (by kernel_rfl) (by decide) inv (fun inv => wpOp_appB (i := 9) rfl rfl 12 rfl (.tmp 9) (.tmp 11) rfl W3.heap.size _ 0 [] rfl O6.out A body n c W.heap.size rfl HN.out.symm HNN.out (HR.out.below G6.out.below (Nat.le_refl _) (Nat.le_refl _)) HL.out (Nat.le_of_lt (O6.out.lt _ rfl).2) ?_)
    intro v9 W9 O9 g9
    have G9 := Lib.hid (G6.out.grown (k := W3.heap.size) g9 T4.out)
    rw [Nat.zero_add, List.nil_append] at O9
    have NL9 := nil_of_own O9
    obtain ⟨A9, c9, rfl, hn9, at9, le9, mx9⟩ := bytes_of_own O9
    rw [HN.out]
    have HS : W9.cell? ⟨W.heap.size, 0, none⟩ = some (.int .u8 fn) ∧ W9.cell? ⟨W.heap.size, 1, none⟩ = some (.int .u16 fl) ∧ W9.cell? ⟨W.heap.size, 2, none⟩ = some (.int .u8 tn) ∧ W9.cell? ⟨W.heap.size, 3, none⟩ = some (.int .u16 tl) ∧ W9.cell? ⟨W.heap.size, 4, none⟩ = some (.slice A n c) ∧ W9.cell? ⟨W.heap.size, 5, none⟩ = some (.bool bad) := ⟨(cell_of_row _ _ 0 _ _ _ G9.out.arg).trans (by rw [← HCS.out]; rfl), (cell_of_row _ _ 1 _ _ _ G9.out.arg).trans (by rw [← HCS.out]; rfl), (cell_of_row _ _ 2 _ _ _ G9.out.arg).trans (by rw [← HCS.out]; rfl), (cell_of_row _ _ 3 _ _ _ G9.out.arg).trans (by rw [← HCS.out]; rfl), (cell_of_row _ _ 4 _ _ _ G9.out.arg).trans (by rw [← HCS.out]; rfl), (cell_of_row _ _ 5 _ _ _ G9.out.arg).trans (by rw [← HCS.out]; rfl)⟩
    refine ⟨HS, ?_⟩
    clear HS
    try simp only [Act.put, List.setIfInBounds_toArray, List.set_cons_zero, List.set_cons_succ]
    refine ⟨by kernel_rfl, ?_⟩
    simp only [List.drop_succ_cons, List.drop_zero]
    refine wpList_bd rfl 36 _ rfl #[.int .u8 fn, .int .u16 fl, .int .u8 tn, .int .u16 tl, .slice A9 n c9, .bool bad] (by kernel_rfl) ?_
    refine wpList_store_row rfl 36 (.tmp 2) (.tmp 15) rfl (W.heap.size + 1) #[.int .u8 fn, .int .u16 fl, .int .u8 tn, .int .u16 tl, .slice A9 n c9, .bool bad] (by rfl) (by rfl) 36 #[.int .u8 0, .int .u16 0, .int .u8 0, .int .u16 0, .slice none 0 0, .bool false] G9.out.res (by kernel_rfl) rfl (by simp [Value.oneCell']) ?_
    have ER := Lib.hid (setRow_heap W9 (W.heap.size + 1) _ #[.int .u8 fn, .int .u16 fl, .int .u8 tn, .int .u16 tl, .slice A9 n c9, .bool bad] _ _ G9.out.res)
    go_wp2
    refine bodyPost_ret (v := .agg #[.int .u8 fn, .int .u16 fl, .int .u8 tn, .int .u16 tl, .slice A9 n c9, .bool bad]) (results_cell_row (p := 2) (ty := 36) rfl _ _ (W.heap.size + 1) 36 #[.int .u8 fn, .int .u16 fl, .int .u8 tn, .int .u16 tl, .slice A9 n c9, .bool bad] (0, 0) _ (by rfl) ER.out Try.underlying36 rfl (by kernel_rfl)) rfl ?_
    refine own_end HN.out HL.out at9 le9 mx9 rfl (G9.out.below) G9.out.res (by decide) (by have h2 := T4.out; omega) HL2.out (fun hA => by subst hA; exact ⟨NL9.1 rfl, NL9.2 _ _ rfl⟩)


end Go.Proofs.Yteaafpgkifmdeaa
