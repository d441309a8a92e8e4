/-
  The document's Frame: by an exact answer. Condition: the body lies in memory, it is at most 2000 bytes.
-/
import Derived.Test.YtkmbgehknpefiaaGreatDoorWds
import Derived.Test.YtkmbgehknpefiaaGreatDoorWfr
import Derived.Test.YtkmbgehknpefiaaGreatDoorOpp
import Derived.Test.YtkmbgehknpefiaaGreatDoorOdp
namespace Go.Proofs.YtkmbgehknpefiaaGreatDoor
set_option linter.unusedSimpArgs false
set_option linter.unusedVariables false
open Go.RowKit Go.Sort

/-- what goes along: the packet that is framed. -/
structure Arg1 (W : World) (cs : Array Value) (X : World) : Prop where
  below : Below W.heap.size W X
  arg : X.heap[W.heap.size]? = some (.cells cs 73 (0, 0))
  lt : W.heap.size < X.heap.size
theorem Arg1.on {W : World} {cs : Array Value} {X Y : World} (h : Arg1 W cs X) (hb : Below X.heap.size X Y) : Arg1 W cs Y :=
  ⟨h.below.trans (hb.mono h.below.size), (hb.block _ h.lt).trans h.arg, Nat.lt_of_lt_of_le h.lt hb.size⟩
theorem Arg1.grown {W : World} {cs : Array Value} {X Y : World} {k : Nat} (h : Arg1 W cs X) (hg : X.grownBy Y (some k)) (hk : W.heap.size < k) : Arg1 W cs Y :=
  ⟨h.below.grown hg h.below.size (fun j hj => by cases hj; omega), (hg.block _ h.lt (by simp; omega)).trans h.arg, Nat.lt_of_lt_of_le h.lt hg.size⟩
/-- a row of bytes of one's own, behind the packet that is framed. -/
structure Mine (W X : World) (v : Value) (L : List UInt8) : Prop where
  pos : 0 < L.length
  row : ∃ g c, v = .slice (some ⟨g, 0, none⟩) L.length c ∧ W.heap.size < g ∧ X.ownsRow (W.heap.size + 1) 5 1 v L.length (Lib.byteCells L)
theorem Mine.of {W X : World} {base : Nat} {v : Value} {L : List UInt8} (h : X.ownsRow base 5 1 v L.length (Lib.byteCells L)) (hb : W.heap.size < base) (hL : 0 < L.length) : Mine W X v L := by
  obtain ⟨g, c, rfl⟩ := ownsRow_pos h hL
  have := (h.lt g rfl).1
  exact ⟨hL, g, c, rfl, by omega, own_up h (by omega)⟩
theorem Mine.on {W X Y : World} {v : Value} {L : List UInt8} (h : Mine W X v L) (hb : Below X.heap.size X Y) : Mine W Y v L := by
  obtain ⟨g, c, e, hg, ho⟩ := h.row
  exact ⟨h.pos, g, c, e, hg, own_kept' ho hb⟩
theorem Mine.bytes {W X : World} {v : Value} {L : List UInt8} (h : Mine W X v L) : ∃ g c, v = .slice (some ⟨g, 0, none⟩) L.length c ∧ BytesAt X X.heap.size (some ⟨g, 0, none⟩) L := by
  obtain ⟨g, c, rfl, hg, ho⟩ := h.row
  obtain ⟨_, _, e, -, hat, -⟩ := bytes_of_own ho
  cases e
  exact ⟨g, c, rfl, hat⟩
theorem mine_app {W w' : World} {v' : Value} {L X : List UInt8} (hL : 0 < L.length) (h1 : w'.ownsRow (W.heap.size + 1) 5 1 v' (L.length + X.length) (Lib.byteCells L ++ Lib.byteCells X)) : Mine W w' v' (L ++ X) := by
  rw [← List.length_append, ← Lib.byteCells_append] at h1
  exact Mine.of h1 (Nat.lt_succ_self _) (by rw [List.length_append]; omega)
/-- bytes appended to one's own row, the only operation that may come up. -/
theorem wpOp_ma {w W : World} {cs : Array Value} {ops : Array Oper} {o : Oper} {i : Nat} {a : Act} {K : Act → World → Prop} {Q : Exit → Act → World → Prop} (hi : ops[i]? = some o) (hgd : o.guard = none) (d : Tmp) (hd : o.dst = some d) (s xo : Operand)
    (ho : o.op = .call { callee := .builtin .append, args := #[s, xo], argTypes := #[41, 41] })
    (v : Value) (L : List UInt8) (hs : a.eval s = v) (hown : Mine W w v L) (hG : Arg1 W cs w)
    (ad : Addr) (X : List UInt8) (m c B : Nat) (hx : a.eval xo = .slice (some ad) m c) (hmm : m = X.length) (hr : BytesAt w B (some ad) X) (hlen : L.length + X.length ≤ 140737488355328)
    (h : ∀ v' w', Mine W w' v' (L ++ X) → Arg1 W cs w' → K (a.put (some d) v') w') : wpOp Tryz.prog ops Q i K a w := by
  have hp := hown.pos
  obtain ⟨g, c0, rfl, hg, hro⟩ := hown.row
  exact wpOp_app hi hgd d hd s xo ho (W.heap.size + 1) _ L.length _ hs hro ad X m c B hx hmm hr hlen (Nat.succ_le_of_lt hG.lt) fun v' w' h1 h2 => h v' w' (mine_app hp h1) (hG.grown h2 hg)
/-- .. in a row of operations. -/
theorem wpList_ma {w W : World} {cs : Array Value} {ops : Array Oper} {rest : List Oper} {o : Oper} {a : Act} {Q : Exit → Act → World → Prop} (hgd : o.guard = none) (d : Tmp) (hd : o.dst = some d) (s xo : Operand)
    (ho : o.op = .call { callee := .builtin .append, args := #[s, xo], argTypes := #[41, 41] })
    (v : Value) (L : List UInt8) (hs : a.eval s = v) (hown : Mine W w v L) (hG : Arg1 W cs w)
    (ad : Addr) (X : List UInt8) (m c B : Nat) (hx : a.eval xo = .slice (some ad) m c) (hmm : m = X.length) (hr : BytesAt w B (some ad) X) (hlen : L.length + X.length ≤ 140737488355328)
    (h : ∀ v' w', Mine W w' v' (L ++ X) → Arg1 W cs w' → wpList Tryz.prog ops Q rest (a.put (some d) v') w') : wpList Tryz.prog ops Q (o :: rest) a w := by
  have hp := hown.pos
  obtain ⟨g, c0, rfl, hg, hro⟩ := hown.row
  exact wpList_app hgd d hd s xo ho (W.heap.size + 1) _ L.length _ hs hro ad X m c B hx hmm hr hlen (Nat.succ_le_of_lt hG.lt) fun v' w' h1 h2 => h v' w' (mine_app hp h1) (hG.grown h2 hg)
theorem one_new (w : World) (b : UInt8) : BytesAt (w.alloc (.cells #[.int .u8 (b.toNat : Nat)] 5)) (w.heap.size + 1) (some ⟨w.heap.size, 0, none⟩) [b] := fun _ =>
  ⟨w.heap.size, 0, rfl, Nat.lt_succ_self _, fun j x hx => by
    cases j with
    | zero =>
      cases hx
      rw [Nat.zero_add, cell_of_row _ _ 0 _ _ _ (heap_alloc_new w _)]
      rfl
    | succ j => simp at hx⟩
theorem frame_short (p : Pk) (hp : p.fits) (hl : p.body.length ≤ 2000) : p.frame = if p.rightB then (summed p.plain, 0) else ([], 1) := by
  have l1 := putP_len p.fn p.fl hp.fl
  have l2 := putP_len p.tn p.tl hp.tl
  have l3 := putU_length p.seq (by have := hp.seq; omega)
  have l4 := putU_length p.ack (by have := hp.ack; omega)
  have l5 := putU_length p.body.length (by omega)
  have hpl : p.plain.length ≤ 4000 := by
    unfold Pk.plain putT
    cases p.has with
    | true => simp only [if_true, List.length_append, List.length_cons]; omega
    | false => simp; omega
  rw [frame_is]
  split
  · rw [if_neg (by rw [summed_length]; omega)]
  · rfl

set_option maxRecDepth 100000 in
set_option maxHeartbeats 4000000 in
theorem dFrame0 (fn fl tn tl seq ack : Nat) (has : Bool) (body : List UInt8) (A : Option Addr) (c : Nat) (W : World) (hA : A = none → body.length = 0) (hr : BytesAt W W.heap.size A body) (hl : body.length ≤ 2000) (hR : Pk.rightB ⟨fn, fl, tn, tl, seq, ack, has, body⟩ = false) :
    Calls Tryz.prog 19 #[.agg #[.int .u8 fn, .int .u16 fl, .int .u8 tn, .int .u16 tl, .int .u64 seq, .int .u64 ack, .bool has, .slice A body.length c]] W fun e W' => e = .returned (.tuple #[.slice none 0 0, .int .i64 1]) ∧ Below W.heap.size W W' := by
  obtain ⟨cs, hcs⟩ : ∃ cs : Array Value, #[.int .u8 fn, .int .u16 fl, .int .u8 tn, .int .u16 tl, .int .u64 seq, .int .u64 ack, .bool has, .slice A body.length c] = cs := ⟨_, rfl⟩
  obtain ⟨W1, hW1⟩ : ∃ W1, W.alloc (.cells cs 73) = W1 := ⟨_, rfl⟩
  have G1 : Hid (Arg1 W cs W1) := Lib.hid ⟨by rw [← hW1]; exact (Below.refl _ _).alloc (Nat.le_refl _) _, by rw [← hW1]; exact heap_alloc_new _ _, by rw [← hW1]; simp⟩
  have HW1 := Lib.hid hW1
  have HCS := Lib.hid hcs
  have K1 := Lib.hid (fun w => dRight fn fl w)
  have K2 := Lib.hid (fun w => dRight tn tl w)
  unfold Pk.rightB at hR
  simp only at hR
  clear hA hr hl hW1 hcs
  generalize rp fn fl = b1 at *
  generalize rp tn tl = b2 at *
  cases b1 with
  | false =>
    go_enter Tryz.func19, Tryz.ntmps19
    go_wp2_with fail
    rw [HCS.out, HW1.out]
    refine (K1.out _).mono ?_
    rintro e W2 ⟨rfl, b2⟩
    have G2 := Lib.hid (G1.out.on b2)
    clear b2
    go_wp2
    go_ret2
    exact ⟨rfl, G2.out.below⟩
  | true =>
    go_enter Tryz.func19, Tryz.ntmps19
    go_wp2_with fail
    rw [HCS.out, HW1.out]
    refine (K1.out _).mono ?_
    rintro e W2 ⟨rfl, b2⟩
    have G2 := Lib.hid (G1.out.on b2)
    clear b2
    have c2 : W2.cell? ⟨W.heap.size, 2, none⟩ = some (.int .u8 tn) := (cell_of_row _ _ 2 _ _ _ G2.out.arg).trans (by rw [← HCS.out]; rfl)
    have c3 : W2.cell? ⟨W.heap.size, 3, none⟩ = some (.int .u16 tl) := (cell_of_row _ _ 3 _ _ _ G2.out.arg).trans (by rw [← HCS.out]; rfl)
    cases b2 with
    | false =>
      go_wp2_with fail
      refine (K2.out _).mono ?_
      rintro e W3 ⟨rfl, b3⟩
      have G3 := Lib.hid (G2.out.on b3)
      clear b3
      go_wp2
      go_ret2
      exact ⟨rfl, G3.out.below⟩
    | true =>
      cases has with
      | true => simp at hR
      | false =>
        cases body with
        | nil => simp at hR
        | cons x body =>
          have hne : (0 : Int) < (body.length : Int) + 1 := by omega
          go_wp2_with fail
          refine (K2.out _).mono ?_
          rintro e W3 ⟨rfl, b3⟩
          have G3 := Lib.hid (G2.out.on b3)
          clear b3
          have c6 : W3.cell? ⟨W.heap.size, 6, none⟩ = some (.bool false) := (cell_of_row _ _ 6 _ _ _ G3.out.arg).trans (by rw [← HCS.out]; rfl)
          have c7 : W3.cell? ⟨W.heap.size, 7, none⟩ = some (.slice A (body.length + 1) c) := (cell_of_row _ _ 7 _ _ _ G3.out.arg).trans (by rw [← HCS.out]; rfl)
          go_wp2
          go_ret2
          exact ⟨rfl, G3.out.below⟩


set_option maxRecDepth 100000 in
set_option maxHeartbeats 4000000 in
theorem dFrame1F (fn fl tn tl seq ack : Nat) (A : Option Addr) (c : Nat) (W : World) (hR1 : rp fn fl = true) (hR2 : rp tn tl = true)
    (p1 : fn < 256) (p2 : fl < 65536) (p3 : tn < 256) (p4 : tl < 65536) (p5 : seq < 18446744073709551616) (p6 : ack < 18446744073709551616) :
    Calls Tryz.prog 19 #[.agg #[.int .u8 fn, .int .u16 fl, .int .u8 tn, .int .u16 tl, .int .u64 seq, .int .u64 ack, .bool false, .slice A 0 c]] W fun e W' => ∃ v, e = .returned (.tuple #[v, .int .i64 0]) ∧ W'.ownsRow (W.heap.size + 1) 5 1 v (summed (Pk.plain ⟨fn, fl, tn, tl, seq, ack, false, []⟩)).length (Lib.byteCells (summed (Pk.plain ⟨fn, fl, tn, tl, seq, ack, false, []⟩))) ∧ Below W.heap.size W W' := by
  obtain ⟨cs, hcs⟩ : ∃ cs : Array Value, #[.int .u8 fn, .int .u16 fl, .int .u8 tn, .int .u16 tl, .int .u64 seq, .int .u64 ack, .bool false, .slice A 0 c] = cs := ⟨_, rfl⟩
  obtain ⟨W1, hW1⟩ : ∃ W1, W.alloc (.cells cs 73) = W1 := ⟨_, rfl⟩
  have G1 : Hid (Arg1 W cs W1) := Lib.hid ⟨by rw [← hW1]; exact (Below.refl _ _).alloc (Nat.le_refl _) _, by rw [← hW1]; exact heap_alloc_new _ _, by rw [← hW1]; simp⟩
  have HW1 := Lib.hid hW1
  have HCS := Lib.hid hcs
  have K1 := Lib.hid (fun w => dRight fn fl w)
  have K2 := Lib.hid (fun w => dRight tn tl w)
  have KP := Lib.hid (fun w => dPutProc fn fl w p1 p2)
  have KQ := Lib.hid (fun w => dPutProc tn tl w p3 p4)
  have KS := Lib.hid (fun w => dPut seq w p5)
  have KA := Lib.hid (fun w => dPut ack w p6)


  obtain ⟨LA, hLA⟩ : ∃ L, putP fn fl = L := ⟨_, rfl⟩
  obtain ⟨LB, hLB⟩ : ∃ L, putP tn tl = L := ⟨_, rfl⟩
  obtain ⟨LC, hLC⟩ : ∃ L, putU seq = L := ⟨_, rfl⟩
  obtain ⟨LD, hLD⟩ : ∃ L, putU ack = L := ⟨_, rfl⟩
  obtain ⟨LT, hLT⟩ : ∃ L, putT [] = L := ⟨_, rfl⟩
  have q1 := putP_len fn fl (by omega)
  have q2 := putP_len tn tl (by omega)
  have q3 := putU_length seq p5
  have q4 := putU_length ack p6
  have q5 := putU_length ([] : List UInt8).length (by simp)
  have q6 : (putT []).length = (putU ([] : List UInt8).length).length + ([] : List UInt8).length := by unfold putT; simp
  have r1 : 0 < (putP fn fl).length := by unfold putP; simp
  have r2 : 0 < (putP tn tl).length := by unfold putP; simp
  have r3 := putU_pos seq
  have r4 := putU_pos ack
  have r5 := putU_pos ([] : List UInt8).length
  obtain ⟨PL, hPL⟩ : ∃ PL, Pk.plain ⟨fn, fl, tn, tl, seq, ack, false, []⟩ = PL := ⟨_, rfl⟩
  have hPL2 : PL = ((((LA ++ LB) ++ LC) ++ LD) ++ [flagB false]) := by
    rw [← hPL, ← hLA, ← hLB, ← hLC, ← hLD]
    unfold Pk.plain
    simp
  rw [hPL]
  obtain ⟨SM, hSM⟩ : ∃ SM, summed PL = SM := ⟨_, rfl⟩
  have hSL : SM.length = PL.length + 4 := by rw [← hSM, summed_length]
  rw [hSM]
  have HPL := Lib.hid hPL2
  have HSM := Lib.hid hSM
  have HSL := Lib.hid hSL
  rw [hLA] at KP q1 r1
  rw [hLB] at KQ q2 r2
  rw [hLC] at KS q3 r3
  rw [hLD] at KA q4 r4
  rw [hLT] at q6
  have HLEN : Hid (LA.length ≤ 11 ∧ LB.length ≤ 11 ∧ LC.length ≤ 10 ∧ LD.length ≤ 10 ∧ LT.length ≤ 2010 ∧ 0 < LA.length ∧ 0 < LB.length ∧ 0 < LC.length ∧ 0 < LD.length ∧ 0 < LT.length) := Lib.hid ⟨by omega, by omega, by omega, by omega, by simp at q5 q6; omega, r1, r2, r3, r4, by omega⟩
  rw [hR1] at K1
  rw [hR2] at K2
  clear hW1 hcs hPL hPL2 hSM hSL hLA hLB hLC hLD hLT q1 q2 q3 q4 q5 q6 r1 r2 r3 r4 r5 hR1 hR2 p1 p2 p3 p4 p5 p6
  go_enter Tryz.func19, Tryz.ntmps19
  go_wp2_with fail
  rw [HCS.out, HW1.out]
  refine (K1.out _).mono ?_
  rintro e W2 ⟨rfl, b2⟩
  have G2 := Lib.hid (G1.out.on b2)
  clear b2
  have c2 : W2.cell? ⟨W.heap.size, 2, none⟩ = some (.int .u8 tn) := (cell_of_row _ _ 2 _ _ _ G2.out.arg).trans (by rw [← HCS.out]; rfl)
  have c3 : W2.cell? ⟨W.heap.size, 3, none⟩ = some (.int .u16 tl) := (cell_of_row _ _ 3 _ _ _ G2.out.arg).trans (by rw [← HCS.out]; rfl)
  go_wp2_with fail
  refine (K2.out _).mono ?_
  rintro e W3 ⟨rfl, b3⟩
  have G3 := Lib.hid (G2.out.on b3)
  clear b3 c2 c3
  have c6 : W3.cell? ⟨W.heap.size, 6, none⟩ = some (.bool false) := (cell_of_row _ _ 6 _ _ _ G3.out.arg).trans (by rw [← HCS.out]; rfl)
  have c7 : W3.cell? ⟨W.heap.size, 7, none⟩ = some (.slice A 0 c) := (cell_of_row _ _ 7 _ _ _ G3.out.arg).trans (by rw [← HCS.out]; rfl)
  go_wp2_with fail
  clear c6 c7
  refine region_heldT (S := fun X => X.cell? ⟨W.heap.size, 0, none⟩ = some (.int .u8 fn) ∧ X.cell? ⟨W.heap.size, 1, none⟩ = some (.int .u16 fl) ∧ X.cell? ⟨W.heap.size, 2, none⟩ = some (.int .u8 tn) ∧ X.cell? ⟨W.heap.size, 3, none⟩ = some (.int .u16 tl)) 7 (by kernel_rfl) (by decide) (fun inv => ?_)
  obtain ⟨W4, hW4⟩ : ∃ W4, W3.drew = W4 := ⟨_, rfl⟩
  have G4 : Hid (Arg1 W cs W4) := Lib.hid (by rw [← hW4]; exact G3.out.on (Below.refl _ _).drew)
  change FirstH _ _ _ _ _ _ _ _ _ _ W3.drew
  rw [hW4]
  clear hW4
  have HS : W4.cell? ⟨W.heap.size, 0, none⟩ = some (.int .u8 fn) ∧ W4.cell? ⟨W.heap.size, 1, none⟩ = some (.int .u16 fl) ∧ W4.cell? ⟨W.heap.size, 2, none⟩ = some (.int .u8 tn) ∧ W4.cell? ⟨W.heap.size, 3, none⟩ = some (.int .u16 tl) := ⟨(cell_of_row _ _ 0 _ _ _ G4.out.arg).trans (by rw [← HCS.out]; rfl), (cell_of_row _ _ 1 _ _ _ G4.out.arg).trans (by rw [← HCS.out]; rfl), (cell_of_row _ _ 2 _ _ _ G4.out.arg).trans (by rw [← HCS.out]; rfl), (cell_of_row _ _ 3 _ _ _ G4.out.arg).trans (by rw [← HCS.out]; rfl)⟩
  refine FirstH.go (i := 0) (v := .pointer (some ⟨W.heap.size, 0, none⟩)) rfl rfl _ rfl _ rfl (by kernel_rfl) (fun _ _ _ h => h) inv (fun X _ => by unfold bareO; go_simp) HS (fun inv => ?_)
  try simp only [Act.put, List.setIfInBounds_toArray, List.set_cons_zero, List.set_cons_succ]
  refine FirstH.go (i := 1) (v := .agg #[.int .u8 fn, .int .u16 fl]) rfl rfl _ rfl _ rfl (by kernel_rfl) (fun _ _ _ h => h) inv (fun X hS => by obtain ⟨l0, l1, l2, l3⟩ := hS; unfold bareO; go_simp) HS (fun inv => ?_)
  try simp only [Act.put, List.setIfInBounds_toArray, List.set_cons_zero, List.set_cons_succ]
  refine FirstH.go (i := 3) (v := .pointer (some ⟨W.heap.size, 2, none⟩)) rfl rfl _ rfl _ rfl (by kernel_rfl) (fun _ _ _ h => h) inv (fun X _ => by unfold bareO; go_simp) HS (fun inv => ?_)
  try simp only [Act.put, List.setIfInBounds_toArray, List.set_cons_zero, List.set_cons_succ]
  refine FirstH.go (i := 4) (v := .agg #[.int .u8 tn, .int .u16 tl]) rfl rfl _ rfl _ rfl (by kernel_rfl) (fun _ _ _ h => h) inv (fun X hS => by obtain ⟨l0, l1, l2, l3⟩ := hS; unfold bareO; go_simp) HS (fun inv => ?_)
  try simp only [Act.put, List.setIfInBounds_toArray, List.set_cons_zero, List.set_cons_succ]
  clear HS
  refine FirstH.only (i := 2) (by kernel_rfl) (by decide) inv (fun inv => wpOp_call (i := 2) rfl rfl 28 rfl _ rfl 65 #[.agg #[.int .u8 fn, .int .u16 fl]] (by unfold bareO; go_simp) (KP.out _) ?_)
  rintro e W5 ⟨v5, rfl, o5, b5⟩
  have G5 := Lib.hid (G4.out.on b5)
  have N5 := Lib.hid (Mine.of o5 G4.out.lt (HLEN.out.2.2.2.2.2.1))
  clear o5 b5
  have HS : W5.cell? ⟨W.heap.size, 0, none⟩ = some (.int .u8 fn) ∧ W5.cell? ⟨W.heap.size, 1, none⟩ = some (.int .u16 fl) ∧ W5.cell? ⟨W.heap.size, 2, none⟩ = some (.int .u8 tn) ∧ W5.cell? ⟨W.heap.size, 3, none⟩ = some (.int .u16 tl) := ⟨(cell_of_row _ _ 0 _ _ _ G5.out.arg).trans (by rw [← HCS.out]; rfl), (cell_of_row _ _ 1 _ _ _ G5.out.arg).trans (by rw [← HCS.out]; rfl), (cell_of_row _ _ 2 _ _ _ G5.out.arg).trans (by rw [← HCS.out]; rfl), (cell_of_row _ _ 3 _ _ _ G5.out.arg).trans (by rw [← HCS.out]; rfl)⟩
  refine ⟨_, rfl, HS, ?_⟩
  try simp only [Act.put, List.setIfInBounds_toArray, List.set_cons_zero, List.set_cons_succ]
  clear HS
  refine FirstH.only (i := 5) (by kernel_rfl) (by decide) inv (fun inv => wpOp_call (i := 5) rfl rfl 31 rfl _ rfl 65 #[.agg #[.int .u8 tn, .int .u16 tl]] (by unfold bareO; go_simp) (KQ.out _) ?_)
  rintro e W6 ⟨v6, rfl, o6, b6⟩
  have G6 := Lib.hid (G5.out.on b6)
  have N6 := Lib.hid (Mine.of o6 G5.out.lt (HLEN.out.2.2.2.2.2.2.1))
  have M6 := Lib.hid (N5.out.on b6)
  clear o6 b6
  obtain ⟨g6, k6, rfl, t6⟩ := N6.out.bytes
  have T6 := Lib.hid t6
  clear t6 N6
  have HS : W6.cell? ⟨W.heap.size, 0, none⟩ = some (.int .u8 fn) ∧ W6.cell? ⟨W.heap.size, 1, none⟩ = some (.int .u16 fl) ∧ W6.cell? ⟨W.heap.size, 2, none⟩ = some (.int .u8 tn) ∧ W6.cell? ⟨W.heap.size, 3, none⟩ = some (.int .u16 tl) := ⟨(cell_of_row _ _ 0 _ _ _ G6.out.arg).trans (by rw [← HCS.out]; rfl), (cell_of_row _ _ 1 _ _ _ G6.out.arg).trans (by rw [← HCS.out]; rfl), (cell_of_row _ _ 2 _ _ _ G6.out.arg).trans (by rw [← HCS.out]; rfl), (cell_of_row _ _ 3 _ _ _ G6.out.arg).trans (by rw [← HCS.out]; rfl)⟩
  refine ⟨_, rfl, HS, ?_⟩
  try simp only [Act.put, List.setIfInBounds_toArray, List.set_cons_zero, List.set_cons_succ]
  clear HS
  refine FirstH.only (i := 6) (by kernel_rfl) (by decide) inv (fun inv => wpOp_ma (i := 6) rfl rfl 32 rfl (.tmp 28) (.tmp 31) rfl v5 (LA) rfl M6.out G6.out ⟨g6, 0, none⟩ (LB) _ k6 _ rfl rfl T6.out (by have := HLEN.out; (try simp only [List.length_append]); omega) ?_)
  intro v7 W7 m7 gg7
  have M7 := Lib.hid m7
  have G7 := Lib.hid gg7
  clear m7 gg7
  have HS : W7.cell? ⟨W.heap.size, 0, none⟩ = some (.int .u8 fn) ∧ W7.cell? ⟨W.heap.size, 1, none⟩ = some (.int .u16 fl) ∧ W7.cell? ⟨W.heap.size, 2, none⟩ = some (.int .u8 tn) ∧ W7.cell? ⟨W.heap.size, 3, none⟩ = some (.int .u16 tl) := ⟨(cell_of_row _ _ 0 _ _ _ G7.out.arg).trans (by rw [← HCS.out]; rfl), (cell_of_row _ _ 1 _ _ _ G7.out.arg).trans (by rw [← HCS.out]; rfl), (cell_of_row _ _ 2 _ _ _ G7.out.arg).trans (by rw [← HCS.out]; rfl), (cell_of_row _ _ 3 _ _ _ G7.out.arg).trans (by rw [← HCS.out]; rfl)⟩
  refine ⟨HS, ?_⟩
  try simp only [Act.put, List.setIfInBounds_toArray, List.set_cons_zero, List.set_cons_succ]
  clear HS
  refine ⟨by kernel_rfl, ?_⟩
  simp only [List.drop_succ_cons, List.drop_zero]
  go_wp2_with fail
  refine region_heldT (S := fun X => X.cell? ⟨W.heap.size, 4, none⟩ = some (.int .u64 seq) ∧ X.cell? ⟨W.heap.size, 5, none⟩ = some (.int .u64 ack)) 9 (by kernel_rfl) (by decide) (fun inv => ?_)
  obtain ⟨W8, hW8⟩ : ∃ W8, W7.drew = W8 := ⟨_, rfl⟩
  have G8 : Hid (Arg1 W cs W8) := Lib.hid (by rw [← hW8]; exact G7.out.on (Below.refl _ _).drew)
  have M8 : Hid (Mine W W8 v7 (LA ++ LB)) := Lib.hid (by rw [← hW8]; exact M7.out.on (Below.refl _ _).drew)
  change FirstH _ _ _ _ _ _ _ _ _ _ W7.drew
  rw [hW8]
  clear hW8
  have HS : W8.cell? ⟨W.heap.size, 4, none⟩ = some (.int .u64 seq) ∧ W8.cell? ⟨W.heap.size, 5, none⟩ = some (.int .u64 ack) := ⟨(cell_of_row _ _ 4 _ _ _ G8.out.arg).trans (by rw [← HCS.out]; rfl), (cell_of_row _ _ 5 _ _ _ G8.out.arg).trans (by rw [← HCS.out]; rfl)⟩
  refine FirstH.go (i := 0) (v := v7) rfl rfl _ rfl _ rfl (by kernel_rfl) (fun _ _ _ h => h) inv (fun X _ => by unfold bareO; go_simp) HS (fun inv => ?_)
  try simp only [Act.put, List.setIfInBounds_toArray, List.set_cons_zero, List.set_cons_succ]
  refine FirstH.go (i := 1) (v := .pointer (some ⟨W.heap.size, 4, none⟩)) rfl rfl _ rfl _ rfl (by kernel_rfl) (fun _ _ _ h => h) inv (fun X _ => by unfold bareO; go_simp) HS (fun inv => ?_)
  try simp only [Act.put, List.setIfInBounds_toArray, List.set_cons_zero, List.set_cons_succ]
  refine FirstH.go (i := 2) (v := .int .u64 seq) rfl rfl _ rfl _ rfl (by kernel_rfl) (fun _ _ _ h => h) inv (fun X hS => by obtain ⟨l0, l1⟩ := hS; unfold bareO; go_simp) HS (fun inv => ?_)
  try simp only [Act.put, List.setIfInBounds_toArray, List.set_cons_zero, List.set_cons_succ]
  refine FirstH.go (i := 5) (v := .pointer (some ⟨W.heap.size, 5, none⟩)) rfl rfl _ rfl _ rfl (by kernel_rfl) (fun _ _ _ h => h) inv (fun X _ => by unfold bareO; go_simp) HS (fun inv => ?_)
  try simp only [Act.put, List.setIfInBounds_toArray, List.set_cons_zero, List.set_cons_succ]
  refine FirstH.go (i := 6) (v := .int .u64 ack) rfl rfl _ rfl _ rfl (by kernel_rfl) (fun _ _ _ h => h) inv (fun X hS => by obtain ⟨l0, l1⟩ := hS; unfold bareO; go_simp) HS (fun inv => ?_)
  try simp only [Act.put, List.setIfInBounds_toArray, List.set_cons_zero, List.set_cons_succ]
  clear HS
  refine FirstH.only (i := 3) (by kernel_rfl) (by decide) inv (fun inv => wpOp_call (i := 3) rfl rfl 36 rfl _ rfl 66 #[.int .u64 seq] (by unfold bareO; go_simp) (KS.out _) ?_)
  rintro e W9 ⟨v9, rfl, o9, b9⟩
  have G9 := Lib.hid (G8.out.on b9)
  have N9 := Lib.hid (Mine.of o9 G8.out.lt (HLEN.out.2.2.2.2.2.2.2.1))
  have M9 := Lib.hid (M8.out.on b9)
  clear o9 b9
  obtain ⟨g9, k9, rfl, t9⟩ := N9.out.bytes
  have T9 := Lib.hid t9
  clear t9 N9
  have HS : W9.cell? ⟨W.heap.size, 4, none⟩ = some (.int .u64 seq) ∧ W9.cell? ⟨W.heap.size, 5, none⟩ = some (.int .u64 ack) := ⟨(cell_of_row _ _ 4 _ _ _ G9.out.arg).trans (by rw [← HCS.out]; rfl), (cell_of_row _ _ 5 _ _ _ G9.out.arg).trans (by rw [← HCS.out]; rfl)⟩
  refine ⟨_, rfl, HS, ?_⟩
  try simp only [Act.put, List.setIfInBounds_toArray, List.set_cons_zero, List.set_cons_succ]
  clear HS
  refine FirstH.only (i := 4) (by kernel_rfl) (by decide) inv (fun inv => wpOp_ma (i := 4) rfl rfl 37 rfl (.tmp 33) (.tmp 36) rfl v7 (LA ++ LB) rfl M9.out G9.out ⟨g9, 0, none⟩ (LC) _ k9 _ rfl rfl T9.out (by have := HLEN.out; (try simp only [List.length_append]); omega) ?_)
  intro v10 W10 m10 gg10
  have M10 := Lib.hid m10
  have G10 := Lib.hid gg10
  clear m10 gg10
  have HS : W10.cell? ⟨W.heap.size, 4, none⟩ = some (.int .u64 seq) ∧ W10.cell? ⟨W.heap.size, 5, none⟩ = some (.int .u64 ack) := ⟨(cell_of_row _ _ 4 _ _ _ G10.out.arg).trans (by rw [← HCS.out]; rfl), (cell_of_row _ _ 5 _ _ _ G10.out.arg).trans (by rw [← HCS.out]; rfl)⟩
  refine ⟨HS, ?_⟩
  try simp only [Act.put, List.setIfInBounds_toArray, List.set_cons_zero, List.set_cons_succ]
  clear HS
  refine FirstH.only (i := 7) (by kernel_rfl) (by decide) inv (fun inv => wpOp_call (i := 7) rfl rfl 40 rfl _ rfl 66 #[.int .u64 ack] (by unfold bareO; go_simp) (KA.out _) ?_)
  rintro e W11 ⟨v11, rfl, o11, b11⟩
  have G11 := Lib.hid (G10.out.on b11)
  have N11 := Lib.hid (Mine.of o11 G10.out.lt (HLEN.out.2.2.2.2.2.2.2.2.1))
  have M11 := Lib.hid (M10.out.on b11)
  clear o11 b11
  obtain ⟨g11, k11, rfl, t11⟩ := N11.out.bytes
  have T11 := Lib.hid t11
  clear t11 N11
  have HS : W11.cell? ⟨W.heap.size, 4, none⟩ = some (.int .u64 seq) ∧ W11.cell? ⟨W.heap.size, 5, none⟩ = some (.int .u64 ack) := ⟨(cell_of_row _ _ 4 _ _ _ G11.out.arg).trans (by rw [← HCS.out]; rfl), (cell_of_row _ _ 5 _ _ _ G11.out.arg).trans (by rw [← HCS.out]; rfl)⟩
  refine ⟨_, rfl, HS, ?_⟩
  try simp only [Act.put, List.setIfInBounds_toArray, List.set_cons_zero, List.set_cons_succ]
  clear HS
  refine FirstH.only (i := 8) (by kernel_rfl) (by decide) inv (fun inv => wpOp_ma (i := 8) rfl rfl 41 rfl (.tmp 37) (.tmp 40) rfl v10 ((LA ++ LB) ++ LC) rfl M11.out G11.out ⟨g11, 0, none⟩ (LD) _ k11 _ rfl rfl T11.out (by have := HLEN.out; (try simp only [List.length_append]); omega) ?_)
  intro v12 W12 m12 gg12
  have M12 := Lib.hid m12
  have G12 := Lib.hid gg12
  clear m12 gg12
  have HS : W12.cell? ⟨W.heap.size, 4, none⟩ = some (.int .u64 seq) ∧ W12.cell? ⟨W.heap.size, 5, none⟩ = some (.int .u64 ack) := ⟨(cell_of_row _ _ 4 _ _ _ G12.out.arg).trans (by rw [← HCS.out]; rfl), (cell_of_row _ _ 5 _ _ _ G12.out.arg).trans (by rw [← HCS.out]; rfl)⟩
  refine ⟨HS, ?_⟩
  try simp only [Act.put, List.setIfInBounds_toArray, List.set_cons_zero, List.set_cons_succ]
  clear HS
  refine ⟨by kernel_rfl, ?_⟩
  simp only [List.drop_succ_cons, List.drop_zero]
  have c6 : W12.cell? ⟨W.heap.size, 6, none⟩ = some (.bool false) := (cell_of_row _ _ 6 _ _ _ G12.out.arg).trans (by rw [← HCS.out]; rfl)
  obtain ⟨L4, hL4⟩ : ∃ L, (((LA ++ LB) ++ LC) ++ LD) = L := ⟨_, rfl⟩
  have HL4 : Hid (L4.length ≤ 42) := Lib.hid (by rw [← hL4]; have := HLEN.out; simp only [List.length_append]; omega)
  have hPL4 := HPL.out
  rw [hL4] at M12 hPL4
  have HPL4 := Lib.hid hPL4
  obtain ⟨L5, hL5⟩ : ∃ L, L4 ++ [flagB false] = L := ⟨_, rfl⟩
  have hPL5 := hPL4
  rw [hL5] at hPL5
  have HPL5 := Lib.hid hPL5
  have HL5 := Lib.hid hL5
  have HL5L : Hid (L5.length ≤ 43) := Lib.hid (by rw [← hL5]; have := HL4.out; simp only [List.length_append, List.length_cons, List.length_nil]; omega)
  clear hL4 hPL4 hL5 hPL5
  obtain ⟨g12, k12, hv12, t12⟩ := M12.out.bytes
  subst hv12
  clear t12
  go_wp2_with (first
    | (go_at_call 67; refine (flagO false _).mono ?_; rintro e W13 ⟨rfl, rfl⟩)
    | (refine wpList_ma rfl 47 rfl (.tmp 42) (.tmp 46) rfl _ L4 rfl (M12.out.on ((Below.refl _ _).alloc (Nat.le_refl _) _)) (G12.out.on ((Below.refl _ _).alloc (Nat.le_refl _) _)) ⟨W13.heap.size, 0, none⟩ [flagB false] 1 1 _ rfl rfl (one_new W13 (flagB false)) (by have := HL4.out; simp only [List.length_cons, List.length_nil]; omega) ?_
       intro v14 W14 m14 gg14
       rw [HL5.out] at m14
       have M14 := Lib.hid m14
       have G14 := Lib.hid gg14
       clear m14 gg14 c6
       have c6 : W14.cell? ⟨W.heap.size, 6, none⟩ = some (.bool false) := (cell_of_row _ _ 6 _ _ _ G14.out.arg).trans (by rw [← HCS.out]; rfl)
       have c7 : W14.cell? ⟨W.heap.size, 7, none⟩ = some (.slice A 0 c) := (cell_of_row _ _ 7 _ _ _ G14.out.arg).trans (by rw [← HCS.out]; rfl)
       rw [← HPL5.out] at M14
       obtain ⟨g14, k14, hv14, t14⟩ := M14.out.bytes
       have T14 := Lib.hid t14
       subst hv14
       clear t14 c7))
  have K9 := dSummed (some ⟨g14, 0, none⟩) PL k14 W14 T14.out (by intro e; have := M14.out.pos; rw [e] at this; simp at this) (by have h1 := HPL.out; have h2 := HLEN.out; rw [h1]; simp only [List.length_append, List.length_cons, List.length_nil]; omega)
  rw [HSM.out] at K9
  have HK9 := Lib.hid K9
  have hlen : SM.length ≤ 524288 := by have h1 := HPL.out; have h2 := HLEN.out; have h3 := HSL.out; rw [h3, h1]; simp only [List.length_append, List.length_cons, List.length_nil]; omega
  have HLN := Lib.hid hlen
  clear K9 hlen
  refine HK9.out.mono ?_
  rintro e W17 ⟨v17, rfl, o17, b17⟩
  have G17 := Lib.hid (G14.out.on b17)
  have O17 := Lib.hid (own_up o17 (Nat.succ_le_of_lt G14.out.lt))
  obtain ⟨A17, c17, rfl, -, -, -, -⟩ := bytes_of_own o17
  have hq : ¬ (524288 : Int) < (SM.length : Int) := by have := HLN.out; omega
  clear o17 b17
  go_wp2_with fail
  go_ret2
  exact ⟨_, rfl, O17.out, G17.out.below⟩

set_option maxRecDepth 100000 in
set_option maxHeartbeats 4000000 in
theorem dFrame1T (fn fl tn tl seq ack : Nat) (body : List UInt8) (A : Option Addr) (c : Nat) (W : World) (hr : BytesAt W W.heap.size A body) (hl : body.length ≤ 2000) (hR1 : rp fn fl = true) (hR2 : rp tn tl = true)
    (p1 : fn < 256) (p2 : fl < 65536) (p3 : tn < 256) (p4 : tl < 65536) (p5 : seq < 18446744073709551616) (p6 : ack < 18446744073709551616) :
    Calls Tryz.prog 19 #[.agg #[.int .u8 fn, .int .u16 fl, .int .u8 tn, .int .u16 tl, .int .u64 seq, .int .u64 ack, .bool true, .slice A body.length c]] W fun e W' => ∃ v, e = .returned (.tuple #[v, .int .i64 0]) ∧ W'.ownsRow (W.heap.size + 1) 5 1 v (summed (Pk.plain ⟨fn, fl, tn, tl, seq, ack, true, body⟩)).length (Lib.byteCells (summed (Pk.plain ⟨fn, fl, tn, tl, seq, ack, true, body⟩))) ∧ Below W.heap.size W W' := by
  obtain ⟨cs, hcs⟩ : ∃ cs : Array Value, #[.int .u8 fn, .int .u16 fl, .int .u8 tn, .int .u16 tl, .int .u64 seq, .int .u64 ack, .bool true, .slice A body.length c] = cs := ⟨_, rfl⟩
  obtain ⟨W1, hW1⟩ : ∃ W1, W.alloc (.cells cs 73) = W1 := ⟨_, rfl⟩
  have G1 : Hid (Arg1 W cs W1) := Lib.hid ⟨by rw [← hW1]; exact (Below.refl _ _).alloc (Nat.le_refl _) _, by rw [← hW1]; exact heap_alloc_new _ _, by rw [← hW1]; simp⟩
  have HW1 := Lib.hid hW1
  have HCS := Lib.hid hcs
  have K1 := Lib.hid (fun w => dRight fn fl w)
  have K2 := Lib.hid (fun w => dRight tn tl w)
  have KP := Lib.hid (fun w => dPutProc fn fl w p1 p2)
  have KQ := Lib.hid (fun w => dPutProc tn tl w p3 p4)
  have KS := Lib.hid (fun w => dPut seq w p5)
  have KA := Lib.hid (fun w => dPut ack w p6)
  have KT := Lib.hid (fun w => dText body w (by omega))
  have HR := Lib.hid hr
  obtain ⟨LA, hLA⟩ : ∃ L, putP fn fl = L := ⟨_, rfl⟩
  obtain ⟨LB, hLB⟩ : ∃ L, putP tn tl = L := ⟨_, rfl⟩
  obtain ⟨LC, hLC⟩ : ∃ L, putU seq = L := ⟨_, rfl⟩
  obtain ⟨LD, hLD⟩ : ∃ L, putU ack = L := ⟨_, rfl⟩
  obtain ⟨LT, hLT⟩ : ∃ L, putT body = L := ⟨_, rfl⟩
  have q1 := putP_len fn fl (by omega)
  have q2 := putP_len tn tl (by omega)
  have q3 := putU_length seq p5
  have q4 := putU_length ack p6
  have q5 := putU_length (body : List UInt8).length (by omega)
  have q6 : (putT body).length = (putU (body : List UInt8).length).length + (body : List UInt8).length := by unfold putT; simp
  have r1 : 0 < (putP fn fl).length := by unfold putP; simp
  have r2 : 0 < (putP tn tl).length := by unfold putP; simp
  have r3 := putU_pos seq
  have r4 := putU_pos ack
  have r5 := putU_pos (body : List UInt8).length
  obtain ⟨PL, hPL⟩ : ∃ PL, Pk.plain ⟨fn, fl, tn, tl, seq, ack, true, body⟩ = PL := ⟨_, rfl⟩
  have hPL2 : PL = (((((LA ++ LB) ++ LC) ++ LD) ++ [flagB true]) ++ LT) := by
    rw [← hPL, ← hLA, ← hLB, ← hLC, ← hLD, ← hLT]
    unfold Pk.plain
    simp
  rw [hPL]
  obtain ⟨SM, hSM⟩ : ∃ SM, summed PL = SM := ⟨_, rfl⟩
  have hSL : SM.length = PL.length + 4 := by rw [← hSM, summed_length]
  rw [hSM]
  have HPL := Lib.hid hPL2
  have HSM := Lib.hid hSM
  have HSL := Lib.hid hSL
  rw [hLA] at KP q1 r1
  rw [hLB] at KQ q2 r2
  rw [hLC] at KS q3 r3
  rw [hLD] at KA q4 r4
  rw [hLT] at KT q6
  have HLEN : Hid (LA.length ≤ 11 ∧ LB.length ≤ 11 ∧ LC.length ≤ 10 ∧ LD.length ≤ 10 ∧ LT.length ≤ 2010 ∧ 0 < LA.length ∧ 0 < LB.length ∧ 0 < LC.length ∧ 0 < LD.length ∧ 0 < LT.length) := Lib.hid ⟨by omega, by omega, by omega, by omega, by omega, r1, r2, r3, r4, by omega⟩
  rw [hR1] at K1
  rw [hR2] at K2
  clear hr hl hW1 hcs hPL hPL2 hSM hSL hLA hLB hLC hLD hLT q1 q2 q3 q4 q5 q6 r1 r2 r3 r4 r5 hR1 hR2 p1 p2 p3 p4 p5 p6
  go_enter Tryz.func19, Tryz.ntmps19
  go_wp2_with fail
  rw [HCS.out, HW1.out]
  refine (K1.out _).mono ?_
  rintro e W2 ⟨rfl, b2⟩
  have G2 := Lib.hid (G1.out.on b2)
  clear b2
  have c2 : W2.cell? ⟨W.heap.size, 2, none⟩ = some (.int .u8 tn) := (cell_of_row _ _ 2 _ _ _ G2.out.arg).trans (by rw [← HCS.out]; rfl)
  have c3 : W2.cell? ⟨W.heap.size, 3, none⟩ = some (.int .u16 tl) := (cell_of_row _ _ 3 _ _ _ G2.out.arg).trans (by rw [← HCS.out]; rfl)
  go_wp2_with fail
  refine (K2.out _).mono ?_
  rintro e W3 ⟨rfl, b3⟩
  have G3 := Lib.hid (G2.out.on b3)
  clear b3 c2 c3
  have c6 : W3.cell? ⟨W.heap.size, 6, none⟩ = some (.bool true) := (cell_of_row _ _ 6 _ _ _ G3.out.arg).trans (by rw [← HCS.out]; rfl)
  have c7 : W3.cell? ⟨W.heap.size, 7, none⟩ = some (.slice A body.length c) := (cell_of_row _ _ 7 _ _ _ G3.out.arg).trans (by rw [← HCS.out]; rfl)
  go_wp2_with fail
  clear c6 c7
  refine region_heldT (S := fun X => X.cell? ⟨W.heap.size, 0, none⟩ = some (.int .u8 fn) ∧ X.cell? ⟨W.heap.size, 1, none⟩ = some (.int .u16 fl) ∧ X.cell? ⟨W.heap.size, 2, none⟩ = some (.int .u8 tn) ∧ X.cell? ⟨W.heap.size, 3, none⟩ = some (.int .u16 tl)) 7 (by kernel_rfl) (by decide) (fun inv => ?_)
  obtain ⟨W4, hW4⟩ : ∃ W4, W3.drew = W4 := ⟨_, rfl⟩
  have G4 : Hid (Arg1 W cs W4) := Lib.hid (by rw [← hW4]; exact G3.out.on (Below.refl _ _).drew)
  change FirstH _ _ _ _ _ _ _ _ _ _ W3.drew
  rw [hW4]
  clear hW4
  have HS : W4.cell? ⟨W.heap.size, 0, none⟩ = some (.int .u8 fn) ∧ W4.cell? ⟨W.heap.size, 1, none⟩ = some (.int .u16 fl) ∧ W4.cell? ⟨W.heap.size, 2, none⟩ = some (.int .u8 tn) ∧ W4.cell? ⟨W.heap.size, 3, none⟩ = some (.int .u16 tl) := ⟨(cell_of_row _ _ 0 _ _ _ G4.out.arg).trans (by rw [← HCS.out]; rfl), (cell_of_row _ _ 1 _ _ _ G4.out.arg).trans (by rw [← HCS.out]; rfl), (cell_of_row _ _ 2 _ _ _ G4.out.arg).trans (by rw [← HCS.out]; rfl), (cell_of_row _ _ 3 _ _ _ G4.out.arg).trans (by rw [← HCS.out]; rfl)⟩
  refine FirstH.go (i := 0) (v := .pointer (some ⟨W.heap.size, 0, none⟩)) rfl rfl _ rfl _ rfl (by kernel_rfl) (fun _ _ _ h => h) inv (fun X _ => by unfold bareO; go_simp) HS (fun inv => ?_)
  try simp only [Act.put, List.setIfInBounds_toArray, List.set_cons_zero, List.set_cons_succ]
  refine FirstH.go (i := 1) (v := .agg #[.int .u8 fn, .int .u16 fl]) rfl rfl _ rfl _ rfl (by kernel_rfl) (fun _ _ _ h => h) inv (fun X hS => by obtain ⟨l0, l1, l2, l3⟩ := hS; unfold bareO; go_simp) HS (fun inv => ?_)
  try simp only [Act.put, List.setIfInBounds_toArray, List.set_cons_zero, List.set_cons_succ]
  refine FirstH.go (i := 3) (v := .pointer (some ⟨W.heap.size, 2, none⟩)) rfl rfl _ rfl _ rfl (by kernel_rfl) (fun _ _ _ h => h) inv (fun X _ => by unfold bareO; go_simp) HS (fun inv => ?_)
  try simp only [Act.put, List.setIfInBounds_toArray, List.set_cons_zero, List.set_cons_succ]
  refine FirstH.go (i := 4) (v := .agg #[.int .u8 tn, .int .u16 tl]) rfl rfl _ rfl _ rfl (by kernel_rfl) (fun _ _ _ h => h) inv (fun X hS => by obtain ⟨l0, l1, l2, l3⟩ := hS; unfold bareO; go_simp) HS (fun inv => ?_)
  try simp only [Act.put, List.setIfInBounds_toArray, List.set_cons_zero, List.set_cons_succ]
  clear HS
  refine FirstH.only (i := 2) (by kernel_rfl) (by decide) inv (fun inv => wpOp_call (i := 2) rfl rfl 28 rfl _ rfl 65 #[.agg #[.int .u8 fn, .int .u16 fl]] (by unfold bareO; go_simp) (KP.out _) ?_)
  rintro e W5 ⟨v5, rfl, o5, b5⟩
  have G5 := Lib.hid (G4.out.on b5)
  have N5 := Lib.hid (Mine.of o5 G4.out.lt (HLEN.out.2.2.2.2.2.1))
  clear o5 b5
  have HS : W5.cell? ⟨W.heap.size, 0, none⟩ = some (.int .u8 fn) ∧ W5.cell? ⟨W.heap.size, 1, none⟩ = some (.int .u16 fl) ∧ W5.cell? ⟨W.heap.size, 2, none⟩ = some (.int .u8 tn) ∧ W5.cell? ⟨W.heap.size, 3, none⟩ = some (.int .u16 tl) := ⟨(cell_of_row _ _ 0 _ _ _ G5.out.arg).trans (by rw [← HCS.out]; rfl), (cell_of_row _ _ 1 _ _ _ G5.out.arg).trans (by rw [← HCS.out]; rfl), (cell_of_row _ _ 2 _ _ _ G5.out.arg).trans (by rw [← HCS.out]; rfl), (cell_of_row _ _ 3 _ _ _ G5.out.arg).trans (by rw [← HCS.out]; rfl)⟩
  refine ⟨_, rfl, HS, ?_⟩
  try simp only [Act.put, List.setIfInBounds_toArray, List.set_cons_zero, List.set_cons_succ]
  clear HS
  refine FirstH.only (i := 5) (by kernel_rfl) (by decide) inv (fun inv => wpOp_call (i := 5) rfl rfl 31 rfl _ rfl 65 #[.agg #[.int .u8 tn, .int .u16 tl]] (by unfold bareO; go_simp) (KQ.out _) ?_)
  rintro e W6 ⟨v6, rfl, o6, b6⟩
  have G6 := Lib.hid (G5.out.on b6)
  have N6 := Lib.hid (Mine.of o6 G5.out.lt (HLEN.out.2.2.2.2.2.2.1))
  have M6 := Lib.hid (N5.out.on b6)
  clear o6 b6
  obtain ⟨g6, k6, rfl, t6⟩ := N6.out.bytes
  have T6 := Lib.hid t6
  clear t6 N6
  have HS : W6.cell? ⟨W.heap.size, 0, none⟩ = some (.int .u8 fn) ∧ W6.cell? ⟨W.heap.size, 1, none⟩ = some (.int .u16 fl) ∧ W6.cell? ⟨W.heap.size, 2, none⟩ = some (.int .u8 tn) ∧ W6.cell? ⟨W.heap.size, 3, none⟩ = some (.int .u16 tl) := ⟨(cell_of_row _ _ 0 _ _ _ G6.out.arg).trans (by rw [← HCS.out]; rfl), (cell_of_row _ _ 1 _ _ _ G6.out.arg).trans (by rw [← HCS.out]; rfl), (cell_of_row _ _ 2 _ _ _ G6.out.arg).trans (by rw [← HCS.out]; rfl), (cell_of_row _ _ 3 _ _ _ G6.out.arg).trans (by rw [← HCS.out]; rfl)⟩
  refine ⟨_, rfl, HS, ?_⟩
  try simp only [Act.put, List.setIfInBounds_toArray, List.set_cons_zero, List.set_cons_succ]
  clear HS
  refine FirstH.only (i := 6) (by kernel_rfl) (by decide) inv (fun inv => wpOp_ma (i := 6) rfl rfl 32 rfl (.tmp 28) (.tmp 31) rfl v5 (LA) rfl M6.out G6.out ⟨g6, 0, none⟩ (LB) _ k6 _ rfl rfl T6.out (by have := HLEN.out; (try simp only [List.length_append]); omega) ?_)
  intro v7 W7 m7 gg7
  have M7 := Lib.hid m7
  have G7 := Lib.hid gg7
  clear m7 gg7
  have HS : W7.cell? ⟨W.heap.size, 0, none⟩ = some (.int .u8 fn) ∧ W7.cell? ⟨W.heap.size, 1, none⟩ = some (.int .u16 fl) ∧ W7.cell? ⟨W.heap.size, 2, none⟩ = some (.int .u8 tn) ∧ W7.cell? ⟨W.heap.size, 3, none⟩ = some (.int .u16 tl) := ⟨(cell_of_row _ _ 0 _ _ _ G7.out.arg).trans (by rw [← HCS.out]; rfl), (cell_of_row _ _ 1 _ _ _ G7.out.arg).trans (by rw [← HCS.out]; rfl), (cell_of_row _ _ 2 _ _ _ G7.out.arg).trans (by rw [← HCS.out]; rfl), (cell_of_row _ _ 3 _ _ _ G7.out.arg).trans (by rw [← HCS.out]; rfl)⟩
  refine ⟨HS, ?_⟩
  try simp only [Act.put, List.setIfInBounds_toArray, List.set_cons_zero, List.set_cons_succ]
  clear HS
  refine ⟨by kernel_rfl, ?_⟩
  simp only [List.drop_succ_cons, List.drop_zero]
  go_wp2_with fail
  refine region_heldT (S := fun X => X.cell? ⟨W.heap.size, 4, none⟩ = some (.int .u64 seq) ∧ X.cell? ⟨W.heap.size, 5, none⟩ = some (.int .u64 ack)) 9 (by kernel_rfl) (by decide) (fun inv => ?_)
  obtain ⟨W8, hW8⟩ : ∃ W8, W7.drew = W8 := ⟨_, rfl⟩
  have G8 : Hid (Arg1 W cs W8) := Lib.hid (by rw [← hW8]; exact G7.out.on (Below.refl _ _).drew)
  have M8 : Hid (Mine W W8 v7 (LA ++ LB)) := Lib.hid (by rw [← hW8]; exact M7.out.on (Below.refl _ _).drew)
  change FirstH _ _ _ _ _ _ _ _ _ _ W7.drew
  rw [hW8]
  clear hW8
  have HS : W8.cell? ⟨W.heap.size, 4, none⟩ = some (.int .u64 seq) ∧ W8.cell? ⟨W.heap.size, 5, none⟩ = some (.int .u64 ack) := ⟨(cell_of_row _ _ 4 _ _ _ G8.out.arg).trans (by rw [← HCS.out]; rfl), (cell_of_row _ _ 5 _ _ _ G8.out.arg).trans (by rw [← HCS.out]; rfl)⟩
  refine FirstH.go (i := 0) (v := v7) rfl rfl _ rfl _ rfl (by kernel_rfl) (fun _ _ _ h => h) inv (fun X _ => by unfold bareO; go_simp) HS (fun inv => ?_)
  try simp only [Act.put, List.setIfInBounds_toArray, List.set_cons_zero, List.set_cons_succ]
  refine FirstH.go (i := 1) (v := .pointer (some ⟨W.heap.size, 4, none⟩)) rfl rfl _ rfl _ rfl (by kernel_rfl) (fun _ _ _ h => h) inv (fun X _ => by unfold bareO; go_simp) HS (fun inv => ?_)
  try simp only [Act.put, List.setIfInBounds_toArray, List.set_cons_zero, List.set_cons_succ]
  refine FirstH.go (i := 2) (v := .int .u64 seq) rfl rfl _ rfl _ rfl (by kernel_rfl) (fun _ _ _ h => h) inv (fun X hS => by obtain ⟨l0, l1⟩ := hS; unfold bareO; go_simp) HS (fun inv => ?_)
  try simp only [Act.put, List.setIfInBounds_toArray, List.set_cons_zero, List.set_cons_succ]
  refine FirstH.go (i := 5) (v := .pointer (some ⟨W.heap.size, 5, none⟩)) rfl rfl _ rfl _ rfl (by kernel_rfl) (fun _ _ _ h => h) inv (fun X _ => by unfold bareO; go_simp) HS (fun inv => ?_)
  try simp only [Act.put, List.setIfInBounds_toArray, List.set_cons_zero, List.set_cons_succ]
  refine FirstH.go (i := 6) (v := .int .u64 ack) rfl rfl _ rfl _ rfl (by kernel_rfl) (fun _ _ _ h => h) inv (fun X hS => by obtain ⟨l0, l1⟩ := hS; unfold bareO; go_simp) HS (fun inv => ?_)
  try simp only [Act.put, List.setIfInBounds_toArray, List.set_cons_zero, List.set_cons_succ]
  clear HS
  refine FirstH.only (i := 3) (by kernel_rfl) (by decide) inv (fun inv => wpOp_call (i := 3) rfl rfl 36 rfl _ rfl 66 #[.int .u64 seq] (by unfold bareO; go_simp) (KS.out _) ?_)
  rintro e W9 ⟨v9, rfl, o9, b9⟩
  have G9 := Lib.hid (G8.out.on b9)
  have N9 := Lib.hid (Mine.of o9 G8.out.lt (HLEN.out.2.2.2.2.2.2.2.1))
  have M9 := Lib.hid (M8.out.on b9)
  clear o9 b9
  obtain ⟨g9, k9, rfl, t9⟩ := N9.out.bytes
  have T9 := Lib.hid t9
  clear t9 N9
  have HS : W9.cell? ⟨W.heap.size, 4, none⟩ = some (.int .u64 seq) ∧ W9.cell? ⟨W.heap.size, 5, none⟩ = some (.int .u64 ack) := ⟨(cell_of_row _ _ 4 _ _ _ G9.out.arg).trans (by rw [← HCS.out]; rfl), (cell_of_row _ _ 5 _ _ _ G9.out.arg).trans (by rw [← HCS.out]; rfl)⟩
  refine ⟨_, rfl, HS, ?_⟩
  try simp only [Act.put, List.setIfInBounds_toArray, List.set_cons_zero, List.set_cons_succ]
  clear HS
  refine FirstH.only (i := 4) (by kernel_rfl) (by decide) inv (fun inv => wpOp_ma (i := 4) rfl rfl 37 rfl (.tmp 33) (.tmp 36) rfl v7 (LA ++ LB) rfl M9.out G9.out ⟨g9, 0, none⟩ (LC) _ k9 _ rfl rfl T9.out (by have := HLEN.out; (try simp only [List.length_append]); omega) ?_)
  intro v10 W10 m10 gg10
  have M10 := Lib.hid m10
  have G10 := Lib.hid gg10
  clear m10 gg10
  have HS : W10.cell? ⟨W.heap.size, 4, none⟩ = some (.int .u64 seq) ∧ W10.cell? ⟨W.heap.size, 5, none⟩ = some (.int .u64 ack) := ⟨(cell_of_row _ _ 4 _ _ _ G10.out.arg).trans (by rw [← HCS.out]; rfl), (cell_of_row _ _ 5 _ _ _ G10.out.arg).trans (by rw [← HCS.out]; rfl)⟩
  refine ⟨HS, ?_⟩
  try simp only [Act.put, List.setIfInBounds_toArray, List.set_cons_zero, List.set_cons_succ]
  clear HS
  refine FirstH.only (i := 7) (by kernel_rfl) (by decide) inv (fun inv => wpOp_call (i := 7) rfl rfl 40 rfl _ rfl 66 #[.int .u64 ack] (by unfold bareO; go_simp) (KA.out _) ?_)
  rintro e W11 ⟨v11, rfl, o11, b11⟩
  have G11 := Lib.hid (G10.out.on b11)
  have N11 := Lib.hid (Mine.of o11 G10.out.lt (HLEN.out.2.2.2.2.2.2.2.2.1))
  have M11 := Lib.hid (M10.out.on b11)
  clear o11 b11
  obtain ⟨g11, k11, rfl, t11⟩ := N11.out.bytes
  have T11 := Lib.hid t11
  clear t11 N11
  have HS : W11.cell? ⟨W.heap.size, 4, none⟩ = some (.int .u64 seq) ∧ W11.cell? ⟨W.heap.size, 5, none⟩ = some (.int .u64 ack) := ⟨(cell_of_row _ _ 4 _ _ _ G11.out.arg).trans (by rw [← HCS.out]; rfl), (cell_of_row _ _ 5 _ _ _ G11.out.arg).trans (by rw [← HCS.out]; rfl)⟩
  refine ⟨_, rfl, HS, ?_⟩
  try simp only [Act.put, List.setIfInBounds_toArray, List.set_cons_zero, List.set_cons_succ]
  clear HS
  refine FirstH.only (i := 8) (by kernel_rfl) (by decide) inv (fun inv => wpOp_ma (i := 8) rfl rfl 41 rfl (.tmp 37) (.tmp 40) rfl v10 ((LA ++ LB) ++ LC) rfl M11.out G11.out ⟨g11, 0, none⟩ (LD) _ k11 _ rfl rfl T11.out (by have := HLEN.out; (try simp only [List.length_append]); omega) ?_)
  intro v12 W12 m12 gg12
  have M12 := Lib.hid m12
  have G12 := Lib.hid gg12
  clear m12 gg12
  have HS : W12.cell? ⟨W.heap.size, 4, none⟩ = some (.int .u64 seq) ∧ W12.cell? ⟨W.heap.size, 5, none⟩ = some (.int .u64 ack) := ⟨(cell_of_row _ _ 4 _ _ _ G12.out.arg).trans (by rw [← HCS.out]; rfl), (cell_of_row _ _ 5 _ _ _ G12.out.arg).trans (by rw [← HCS.out]; rfl)⟩
  refine ⟨HS, ?_⟩
  try simp only [Act.put, List.setIfInBounds_toArray, List.set_cons_zero, List.set_cons_succ]
  clear HS
  refine ⟨by kernel_rfl, ?_⟩
  simp only [List.drop_succ_cons, List.drop_zero]
  have c6 : W12.cell? ⟨W.heap.size, 6, none⟩ = some (.bool true) := (cell_of_row _ _ 6 _ _ _ G12.out.arg).trans (by rw [← HCS.out]; rfl)
  obtain ⟨L4, hL4⟩ : ∃ L, (((LA ++ LB) ++ LC) ++ LD) = L := ⟨_, rfl⟩
  have HL4 : Hid (L4.length ≤ 42) := Lib.hid (by rw [← hL4]; have := HLEN.out; simp only [List.length_append]; omega)
  have hPL4 := HPL.out
  rw [hL4] at M12 hPL4
  have HPL4 := Lib.hid hPL4
  obtain ⟨L5, hL5⟩ : ∃ L, L4 ++ [flagB true] = L := ⟨_, rfl⟩
  have hPL5 := hPL4
  rw [hL5] at hPL5
  have HPL5 := Lib.hid hPL5
  have HL5 := Lib.hid hL5
  have HL5L : Hid (L5.length ≤ 43) := Lib.hid (by rw [← hL5]; have := HL4.out; simp only [List.length_append, List.length_cons, List.length_nil]; omega)
  clear hL4 hPL4 hL5 hPL5
  obtain ⟨g12, k12, hv12, t12⟩ := M12.out.bytes
  subst hv12
  clear t12
  go_wp2_with (first
    | (go_at_call 67; refine (flagO true _).mono ?_; rintro e W13 ⟨rfl, rfl⟩)
    | (refine wpList_ma rfl 47 rfl (.tmp 42) (.tmp 46) rfl _ L4 rfl (M12.out.on ((Below.refl _ _).alloc (Nat.le_refl _) _)) (G12.out.on ((Below.refl _ _).alloc (Nat.le_refl _) _)) ⟨W13.heap.size, 0, none⟩ [flagB true] 1 1 _ rfl rfl (one_new W13 (flagB true)) (by have := HL4.out; simp only [List.length_cons, List.length_nil]; omega) ?_
       intro v14 W14 m14 gg14
       rw [HL5.out] at m14
       have M14 := Lib.hid m14
       have G14 := Lib.hid gg14
       clear m14 gg14 c6
       have c6 : W14.cell? ⟨W.heap.size, 6, none⟩ = some (.bool true) := (cell_of_row _ _ 6 _ _ _ G14.out.arg).trans (by rw [← HCS.out]; rfl)
       have c7 : W14.cell? ⟨W.heap.size, 7, none⟩ = some (.slice A body.length c) := (cell_of_row _ _ 7 _ _ _ G14.out.arg).trans (by rw [← HCS.out]; rfl)
       obtain ⟨g14, k14, hv14, t14⟩ := M14.out.bytes
       subst hv14
       clear t14
       have hcv := conv_bytes (HR.out.below G14.out.below (Nat.le_refl _) (Nat.le_refl _)) c))
  refine (KT.out _).mono ?_
  rintro e W15 ⟨v15, rfl, o15, b15⟩
  have G15 := Lib.hid (G14.out.on b15)
  have N15 := Lib.hid (Mine.of o15 G14.out.lt HLEN.out.2.2.2.2.2.2.2.2.2)
  have M15 := Lib.hid (M14.out.on b15)
  clear o15 b15 c6 c7 hcv
  obtain ⟨g15, k15, rfl, t15⟩ := N15.out.bytes
  have T15 := Lib.hid t15
  clear t15 N15
  go_wp2_with (first
    | (refine wpList_ma rfl 55 rfl (.tmp 50) (.tmp 54) rfl _ L5 rfl M15.out G15.out ⟨g15, 0, none⟩ LT _ k15 _ rfl rfl T15.out (by have := HLEN.out; have := HL5L.out; omega) ?_
       intro v16 W16 m16 gg16
       have M16 := Lib.hid m16
       have G16 := Lib.hid gg16
       clear m16 gg16
       rw [← HPL5.out] at M16
       obtain ⟨g16, k16, hv16, t16⟩ := M16.out.bytes
       have T16 := Lib.hid t16
       subst hv16
       clear t16))
  have K9 := dSummed (some ⟨g16, 0, none⟩) PL k16 W16 T16.out (by intro e; have := M16.out.pos; rw [e] at this; simp at this) (by have h1 := HPL.out; have h2 := HLEN.out; rw [h1]; simp only [List.length_append, List.length_cons, List.length_nil]; omega)
  rw [HSM.out] at K9
  have HK9 := Lib.hid K9
  have hlen : SM.length ≤ 524288 := by have h1 := HPL.out; have h2 := HLEN.out; have h3 := HSL.out; rw [h3, h1]; simp only [List.length_append, List.length_cons, List.length_nil]; omega
  have HLN := Lib.hid hlen
  clear K9 hlen
  refine HK9.out.mono ?_
  rintro e W17 ⟨v17, rfl, o17, b17⟩
  have G17 := Lib.hid (G16.out.on b17)
  have O17 := Lib.hid (own_up o17 (Nat.succ_le_of_lt G16.out.lt))
  obtain ⟨A17, c17, rfl, -, -, -, -⟩ := bytes_of_own o17
  have hq : ¬ (524288 : Int) < (SM.length : Int) := by have := HLN.out; omega
  clear o17 b17
  go_wp2_with fail
  go_ret2
  exact ⟨_, rfl, O17.out, G17.out.below⟩

end Go.Proofs.YtkmbgehknpefiaaGreatDoor
