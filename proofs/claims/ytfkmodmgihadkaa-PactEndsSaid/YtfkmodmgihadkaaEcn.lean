/-
  entry.Clone, by a contract: the same numbers, lists of its own. Condition: the lists take at most 2^47 bytes.
-/
import Derived.Test.YtfkmodmgihadkaaEcl
import Derived.Test.YtfkmodmgihadkaaEown
namespace Go.Proofs.Ytfkmodmgihadkaa
set_option linter.unusedSimpArgs false
set_option linter.unusedVariables false
open Go.RowKit Go.Sort

theorem wpList_st {P : Program} {w w' : World} {ops : Array Oper} {rest : List Oper} {o : Oper} {a : Act} {Q : Exit → Act → World → Prop} (hgd : o.guard = none) (hd : o.dst = none) (p : Op) (ho : o.op = p)
    (hr : (execOp a.eval (bareO p o.type)).run P w = .ok .skip w') (h : wpList P ops Q rest a w') : wpList P ops Q (o :: rest) a w :=
  wpList_plain hgd fun K hK => by
    rw [execOp_bare ho] at hr
    unfold Oper.wp
    rw [hr, Oper.upon_skip, hd]
    exact hK _ _ h
theorem wpList_rn {P : Program} {w w' : World} {ops : Array Oper} {rest : List Oper} {o : Oper} {a : Act} {Q : Exit → Act → World → Prop} {v : Value} (hgd : o.guard = none) (d : Tmp) (hd : o.dst = some d) (p : Op) (ho : o.op = p)
    (hr : (execOp a.eval (bareO p o.type)).run P w = .ok (.value v) w') (h : wpList P ops Q rest (a.put (some d) v) w') : wpList P ops Q (o :: rest) a w :=
  wpList_plain hgd fun K hK => by
    rw [execOp_bare ho] at hr
    unfold Oper.wp
    rw [hr, Oper.upon_value, hd]
    exact hK _ _ h
theorem ent_set2 {W : World} {b : Nat} {x : E18} {P Q : Value} (h : Ent W b x P Q) (P2 Q2 : Value) : Ent ((W.setCell ⟨b, 12, none⟩ P2).setCell ⟨b, 15, none⟩ Q2) b x P2 Q2 := by
  obtain ⟨e0, e1, e2, e3, e4, e5, e6, e7, e8, e9, e10, e11, e12, e13, e14, e15, e16, e17⟩ := h
  have f12 : ((W.setCell ⟨b, 12, none⟩ P2)).cell? ⟨b, 12, none⟩ = some P2 := World.cell?_setCell_same W ⟨b, 12, none⟩ P2 e12
  have f15 : ((W.setCell ⟨b, 12, none⟩ P2)).cell? ⟨b, 15, none⟩ = some Q := by rw [World.cell?_setCell_other _ _ _ _ (by simp)]; exact e15
  constructor
  all_goals first
    | exact World.cell?_setCell_same _ _ _ f15
    | (rw [World.cell?_setCell_other _ _ _ _ (by simp)]; exact f12)
    | (rw [World.cell?_setCell_other _ _ _ _ (by simp), World.cell?_setCell_other _ _ _ _ (by simp)]; assumption)

theorem wpOp_st {P : Program} {w w' : World} {ops : Array Oper} {o : Oper} {i : Nat} {a : Act} {K : Act → World → Prop} {Q : Exit → Act → World → Prop} (hi : ops[i]? = some o) (hgd : o.guard = none) (hd : o.dst = none) (p : Op) (ho : o.op = p)
    (hr : (execOp a.eval (bareO p o.type)).run P w = .ok .skip w') (h : K a w') : wpOp P ops Q i K a w := by
  rw [execOp_bare ho] at hr
  unfold wpOp
  simp only [hi]
  rw [if_pos (by simp [Region.wanted, hgd])]
  refine .inl ?_
  unfold Oper.wp
  rw [hr, Oper.upon_skip, hd]
  exact h
theorem ent_of_row {W : World} {g : Nat} {x : E18} {P Q : Value} {t : TypeId} (hg : W.heap[g]? = some (.cells #[.int .u8 x.k, .int .u8 x.n, .int .u16 x.l, .int .u32 x.s, .int .u8 x.d, .int .u8 x.a0, .int .u8 x.a1, .int .u8 x.b0, .int .u8 x.b1, .int .u8 x.c0, .int .u8 x.c1, .int .u32 x.fl, P, .int .u8 x.rc, .string x.rv, Q, .int .u8 x.vn, .int .u16 x.vl] t (0, 0))) : Ent W g x P Q :=
  ⟨(cell_of_row W g 0 _ _ (0, 0) hg).trans rfl, (cell_of_row W g 1 _ _ (0, 0) hg).trans rfl, (cell_of_row W g 2 _ _ (0, 0) hg).trans rfl, (cell_of_row W g 3 _ _ (0, 0) hg).trans rfl, (cell_of_row W g 4 _ _ (0, 0) hg).trans rfl, (cell_of_row W g 5 _ _ (0, 0) hg).trans rfl, (cell_of_row W g 6 _ _ (0, 0) hg).trans rfl, (cell_of_row W g 7 _ _ (0, 0) hg).trans rfl, (cell_of_row W g 8 _ _ (0, 0) hg).trans rfl, (cell_of_row W g 9 _ _ (0, 0) hg).trans rfl, (cell_of_row W g 10 _ _ (0, 0) hg).trans rfl, (cell_of_row W g 11 _ _ (0, 0) hg).trans rfl, (cell_of_row W g 12 _ _ (0, 0) hg).trans rfl, (cell_of_row W g 13 _ _ (0, 0) hg).trans rfl, (cell_of_row W g 14 _ _ (0, 0) hg).trans rfl, (cell_of_row W g 15 _ _ (0, 0) hg).trans rfl, (cell_of_row W g 16 _ _ (0, 0) hg).trans rfl, (cell_of_row W g 17 _ _ (0, 0) hg).trans rfl⟩
theorem frozen_row {W : World} {g : Nat} {cs : Array Value} {t : TypeId} (h : W.heap[g]? = some (.cells cs t (0, 0))) (i : Nat) : W.frozen? ⟨g, i, none⟩ = false := by
  simp only [World.frozen?, h]
  simp

set_option maxRecDepth 100000 in
set_option maxHeartbeats 1000000 in
theorem cloneE (x : E18) (A B : Option Addr) (X : List P5) (Y : List W3) (c d : Nat) (w : World) (hr : RowsP w w.heap.size A X) (hs : RowsW w w.heap.size B Y) (hX : X.length * 48 ≤ 140737488355328) (hY : Y.length * 40 ≤ 140737488355328) (hc : X.length ≤ c) (hm : c ≤ maxLen) (hd : Y.length ≤ d) (hn : d ≤ maxLen) :
    Calls Try.prog 42 #[.agg #[.int .u8 x.k, .int .u8 x.n, .int .u16 x.l, .int .u32 x.s, .int .u8 x.d, .int .u8 x.a0, .int .u8 x.a1, .int .u8 x.b0, .int .u8 x.b1, .int .u8 x.c0, .int .u8 x.c1, .int .u32 x.fl, .slice A X.length c, .int .u8 x.rc, .string x.rv, .slice B Y.length d, .int .u8 x.vn, .int .u16 x.vl]] w fun e w' => ∃ A' c' B' d', e = .returned (.agg #[.int .u8 x.k, .int .u8 x.n, .int .u16 x.l, .int .u32 x.s, .int .u8 x.d, .int .u8 x.a0, .int .u8 x.a1, .int .u8 x.b0, .int .u8 x.b1, .int .u8 x.c0, .int .u8 x.c1, .int .u32 x.fl, .slice A' X.length c', .int .u8 x.rc, .string x.rv, .slice B' Y.length d', .int .u8 x.vn, .int .u16 x.vl]) ∧ w'.ownsRow w.heap.size 108 5 (.slice A' X.length c') X.length (cellsP X) ∧ w'.ownsRow w.heap.size 103 3 (.slice B' Y.length d') Y.length (cellsW Y) ∧ Below w.heap.size w w' := by
  have K1 := Lib.hid (fun W hw h1 => cloneP A X c W (hr.below (C := w.heap.size) hw (Nat.le_refl _) h1) hX hc hm)
  have K2 := Lib.hid (fun W hw h1 => cloneW B Y d W (hs.below (C := w.heap.size) hw (Nat.le_refl _) h1) hY hd hn)
  have H0 : Hid (Below w.heap.size w ((w.alloc (.cells #[.int .u8 x.k, .int .u8 x.n, .int .u16 x.l, .int .u32 x.s, .int .u8 x.d, .int .u8 x.a0, .int .u8 x.a1, .int .u8 x.b0, .int .u8 x.b1, .int .u8 x.c0, .int .u8 x.c1, .int .u32 x.fl, .slice A X.length c, .int .u8 x.rc, .string x.rv, .slice B Y.length d, .int .u8 x.vn, .int .u16 x.vl] 93)).alloc (.cells #[.int .u8 0, .int .u8 0, .int .u16 0, .int .u32 0, .int .u8 0, .int .u8 0, .int .u8 0, .int .u8 0, .int .u8 0, .int .u8 0, .int .u8 0, .int .u32 0, .slice none 0 0, .int .u8 0, .string ByteArray.empty, .slice none 0 0, .int .u8 0, .int .u16 0] 93)).drew) := Lib.hid (((Below.refl _ _).alloc (Nat.le_refl _) _).alloc (by simp) _).drew
  have R0 : Hid (((w.alloc (.cells #[.int .u8 x.k, .int .u8 x.n, .int .u16 x.l, .int .u32 x.s, .int .u8 x.d, .int .u8 x.a0, .int .u8 x.a1, .int .u8 x.b0, .int .u8 x.b1, .int .u8 x.c0, .int .u8 x.c1, .int .u32 x.fl, .slice A X.length c, .int .u8 x.rc, .string x.rv, .slice B Y.length d, .int .u8 x.vn, .int .u16 x.vl] 93)).alloc (.cells #[.int .u8 0, .int .u8 0, .int .u16 0, .int .u32 0, .int .u8 0, .int .u8 0, .int .u8 0, .int .u8 0, .int .u8 0, .int .u8 0, .int .u8 0, .int .u32 0, .slice none 0 0, .int .u8 0, .string ByteArray.empty, .slice none 0 0, .int .u8 0, .int .u16 0] 93)).drew.heap[w.heap.size]? = some (.cells #[.int .u8 x.k, .int .u8 x.n, .int .u16 x.l, .int .u32 x.s, .int .u8 x.d, .int .u8 x.a0, .int .u8 x.a1, .int .u8 x.b0, .int .u8 x.b1, .int .u8 x.c0, .int .u8 x.c1, .int .u32 x.fl, .slice A X.length c, .int .u8 x.rc, .string x.rv, .slice B Y.length d, .int .u8 x.vn, .int .u16 x.vl] 93 (0, 0))) := Lib.hid (by
    have hg := heap_alloc_new w (.cells #[.int .u8 x.k, .int .u8 x.n, .int .u16 x.l, .int .u32 x.s, .int .u8 x.d, .int .u8 x.a0, .int .u8 x.a1, .int .u8 x.b0, .int .u8 x.b1, .int .u8 x.c0, .int .u8 x.c1, .int .u32 x.fl, .slice A X.length c, .int .u8 x.rc, .string x.rv, .slice B Y.length d, .int .u8 x.vn, .int .u16 x.vl] 93)
    have := ((Below.refl (w.heap.size + 1) (w.alloc (.cells #[.int .u8 x.k, .int .u8 x.n, .int .u16 x.l, .int .u32 x.s, .int .u8 x.d, .int .u8 x.a0, .int .u8 x.a1, .int .u8 x.b0, .int .u8 x.b1, .int .u8 x.c0, .int .u8 x.c1, .int .u32 x.fl, .slice A X.length c, .int .u8 x.rc, .string x.rv, .slice B Y.length d, .int .u8 x.vn, .int .u16 x.vl] 93))).alloc (by simp) (.cells #[.int .u8 0, .int .u8 0, .int .u16 0, .int .u32 0, .int .u8 0, .int .u8 0, .int .u8 0, .int .u8 0, .int .u8 0, .int .u8 0, .int .u8 0, .int .u32 0, .slice none 0 0, .int .u8 0, .string ByteArray.empty, .slice none 0 0, .int .u8 0, .int .u16 0] 93)).block w.heap.size (by omega)
    exact this.trans hg)
  have Z0 : Hid (((w.alloc (.cells #[.int .u8 x.k, .int .u8 x.n, .int .u16 x.l, .int .u32 x.s, .int .u8 x.d, .int .u8 x.a0, .int .u8 x.a1, .int .u8 x.b0, .int .u8 x.b1, .int .u8 x.c0, .int .u8 x.c1, .int .u32 x.fl, .slice A X.length c, .int .u8 x.rc, .string x.rv, .slice B Y.length d, .int .u8 x.vn, .int .u16 x.vl] 93)).alloc (.cells #[.int .u8 0, .int .u8 0, .int .u16 0, .int .u32 0, .int .u8 0, .int .u8 0, .int .u8 0, .int .u8 0, .int .u8 0, .int .u8 0, .int .u8 0, .int .u32 0, .slice none 0 0, .int .u8 0, .string ByteArray.empty, .slice none 0 0, .int .u8 0, .int .u16 0] 93)).drew.heap[w.heap.size + 1]? = some (.cells #[.int .u8 0, .int .u8 0, .int .u16 0, .int .u32 0, .int .u8 0, .int .u8 0, .int .u8 0, .int .u8 0, .int .u8 0, .int .u8 0, .int .u8 0, .int .u32 0, .slice none 0 0, .int .u8 0, .string ByteArray.empty, .slice none 0 0, .int .u8 0, .int .u16 0] 93 (0, 0))) := Lib.hid (by
    have hg := heap_alloc_new (w.alloc (.cells #[.int .u8 x.k, .int .u8 x.n, .int .u16 x.l, .int .u32 x.s, .int .u8 x.d, .int .u8 x.a0, .int .u8 x.a1, .int .u8 x.b0, .int .u8 x.b1, .int .u8 x.c0, .int .u8 x.c1, .int .u32 x.fl, .slice A X.length c, .int .u8 x.rc, .string x.rv, .slice B Y.length d, .int .u8 x.vn, .int .u16 x.vl] 93)) (.cells #[.int .u8 0, .int .u8 0, .int .u16 0, .int .u32 0, .int .u8 0, .int .u8 0, .int .u8 0, .int .u8 0, .int .u8 0, .int .u8 0, .int .u8 0, .int .u32 0, .slice none 0 0, .int .u8 0, .string ByteArray.empty, .slice none 0 0, .int .u8 0, .int .u16 0] 93)
    have e : (w.alloc (.cells #[.int .u8 x.k, .int .u8 x.n, .int .u16 x.l, .int .u32 x.s, .int .u8 x.d, .int .u8 x.a0, .int .u8 x.a1, .int .u8 x.b0, .int .u8 x.b1, .int .u8 x.c0, .int .u8 x.c1, .int .u32 x.fl, .slice A X.length c, .int .u8 x.rc, .string x.rv, .slice B Y.length d, .int .u8 x.vn, .int .u16 x.vl] 93)).heap.size = w.heap.size + 1 := by simp
    rw [e] at hg
    exact hg)
  clear hr hs
  go_enter Try.func42, Try.ntmps42
  go_wp2
  refine region_heldT (S := fun W => W.cell? ⟨w.heap.size, 12, none⟩ = some (.slice A X.length c) ∧ W.cell? ⟨w.heap.size, 15, none⟩ = some (.slice B Y.length d)) 7 (by kernel_rfl) (by decide) (fun inv => ?_)
  change FirstH _ _ _ _ _ _ _ _ _ _ ((w.alloc (.cells #[.int .u8 x.k, .int .u8 x.n, .int .u16 x.l, .int .u32 x.s, .int .u8 x.d, .int .u8 x.a0, .int .u8 x.a1, .int .u8 x.b0, .int .u8 x.b1, .int .u8 x.c0, .int .u8 x.c1, .int .u32 x.fl, .slice A X.length c, .int .u8 x.rc, .string x.rv, .slice B Y.length d, .int .u8 x.vn, .int .u16 x.vl] 93)).alloc (.cells #[.int .u8 0, .int .u8 0, .int .u16 0, .int .u32 0, .int .u8 0, .int .u8 0, .int .u8 0, .int .u8 0, .int .u8 0, .int .u8 0, .int .u8 0, .int .u32 0, .slice none 0 0, .int .u8 0, .string ByteArray.empty, .slice none 0 0, .int .u8 0, .int .u16 0] 93)).drew
  generalize ((w.alloc (.cells #[.int .u8 x.k, .int .u8 x.n, .int .u16 x.l, .int .u32 x.s, .int .u8 x.d, .int .u8 x.a0, .int .u8 x.a1, .int .u8 x.b0, .int .u8 x.b1, .int .u8 x.c0, .int .u8 x.c1, .int .u32 x.fl, .slice A X.length c, .int .u8 x.rc, .string x.rv, .slice B Y.length d, .int .u8 x.vn, .int .u16 x.vl] 93)).alloc (.cells #[.int .u8 0, .int .u8 0, .int .u16 0, .int .u32 0, .int .u8 0, .int .u8 0, .int .u8 0, .int .u8 0, .int .u8 0, .int .u8 0, .int .u8 0, .int .u32 0, .slice none 0 0, .int .u8 0, .string ByteArray.empty, .slice none 0 0, .int .u8 0, .int .u16 0] 93)).drew = W0 at H0 R0 Z0 ⊢
  have Z0lt : w.heap.size + 1 < W0.heap.size := (Array.getElem?_eq_some_iff.1 Z0.out).1
  have HS : W0.cell? ⟨w.heap.size, 12, none⟩ = some (.slice A X.length c) ∧ W0.cell? ⟨w.heap.size, 15, none⟩ = some (.slice B Y.length d) := ⟨(cell_of_row W0 w.heap.size 12 _ _ (0, 0) R0.out).trans rfl, (cell_of_row W0 w.heap.size 15 _ _ (0, 0) R0.out).trans rfl⟩
  refine FirstH.go (i := 0) (v := .pointer (some ⟨w.heap.size, 12, none⟩)) rfl rfl 3 rfl (Op.fieldAddr 93 (.tmp 1) 3) rfl (by kernel_rfl) (fun _ _ _ h => h) inv (fun W _ => by unfold bareO; go_simp) HS (fun inv => ?_)
  try simp only [Act.put, List.setIfInBounds_toArray, List.set_cons_zero, List.set_cons_succ]
  refine FirstH.go (i := 1) (v := .slice A X.length c) rfl rfl 4 rfl (Op.load 88 (.tmp 3)) rfl (by kernel_rfl) (fun _ _ _ h => h) inv (fun W hS => by obtain ⟨l0, l1⟩ := hS; unfold bareO; go_simp) HS (fun inv => ?_)
  try simp only [Act.put, List.setIfInBounds_toArray, List.set_cons_zero, List.set_cons_succ]
  refine FirstH.go (i := 3) (v := .pointer (some ⟨w.heap.size, 15, none⟩)) rfl rfl 6 rfl (Op.fieldAddr 93 (.tmp 1) 5) rfl (by kernel_rfl) (fun _ _ _ h => h) inv (fun W _ => by unfold bareO; go_simp) HS (fun inv => ?_)
  try simp only [Act.put, List.setIfInBounds_toArray, List.set_cons_zero, List.set_cons_succ]
  refine FirstH.go (i := 4) (v := .slice B Y.length d) rfl rfl 7 rfl (Op.load 91 (.tmp 6)) rfl (by kernel_rfl) (fun _ _ _ h => h) inv (fun W hS => by obtain ⟨l0, l1⟩ := hS; unfold bareO; go_simp) HS (fun inv => ?_)
  try simp only [Act.put, List.setIfInBounds_toArray, List.set_cons_zero, List.set_cons_succ]
  clear HS
  refine FirstH.only (i := 2) (by kernel_rfl) (by decide) inv (fun inv => wpOp_call (i := 2) rfl rfl 5 rfl (Op.call { callee := .value (.func 49), args := #[.tmp 4], argTypes := #[88] }) rfl 49 #[.slice A X.length c] (by unfold bareO; go_simp) (K1.out _ H0.out H0.out.size) ?_)
  rintro e w1 ⟨p, rfl, O1, b1⟩
  obtain ⟨A2, c2, rfl, -, -, -⟩ := rowsP_of_own O1
  have OP := Lib.hid O1
  have H1 := Lib.hid (H0.out.trans (b1.mono H0.out.size))
  have R1 := Lib.hid ((b1.block _ (Nat.lt_of_succ_lt Z0lt)).trans R0.out)
  have Z1 := Lib.hid ((b1.block _ Z0lt).trans Z0.out)
  have Z1lt : w.heap.size + 1 < w1.heap.size := Nat.lt_of_lt_of_le Z0lt b1.size
  clear O1 b1
  have HS : w1.cell? ⟨w.heap.size, 12, none⟩ = some (.slice A X.length c) ∧ w1.cell? ⟨w.heap.size, 15, none⟩ = some (.slice B Y.length d) := ⟨(cell_of_row w1 w.heap.size 12 _ _ (0, 0) R1.out).trans rfl, (cell_of_row w1 w.heap.size 15 _ _ (0, 0) R1.out).trans rfl⟩
  refine ⟨_, rfl, HS, ?_⟩
  try simp only [Act.put, List.setIfInBounds_toArray, List.set_cons_zero, List.set_cons_succ]
  refine FirstH.go (i := 6) (v := .pointer (some ⟨w.heap.size, 12, none⟩)) rfl rfl 9 rfl (Op.fieldAddr 93 (.tmp 1) 3) rfl (by kernel_rfl) (fun _ _ _ h => h) inv (fun W _ => by unfold bareO; go_simp) HS (fun inv => ?_)
  try simp only [Act.put, List.setIfInBounds_toArray, List.set_cons_zero, List.set_cons_succ]
  clear HS
  refine FirstH.only (i := 5) (by kernel_rfl) (by decide) inv (fun inv => wpOp_call (i := 5) rfl rfl 8 rfl (Op.call { callee := .value (.func 50), args := #[.tmp 7], argTypes := #[91] }) rfl 50 #[.slice B Y.length d] (by unfold bareO; go_simp) (K2.out _ H1.out H1.out.size) ?_)
  rintro e w2 ⟨q, rfl, O2, b2⟩
  obtain ⟨B2, d2, rfl, -, -, -⟩ := rowsW_of_own O2
  have OQ2 := Lib.hid O2
  have OP2 := Lib.hid (own_kept OP.out b2)
  have H2 := Lib.hid (H1.out.trans (b2.mono H1.out.size))
  have R2 := Lib.hid ((b2.block _ (Nat.lt_of_succ_lt Z1lt)).trans R1.out)
  have Z2 := Lib.hid ((b2.block _ Z1lt).trans Z1.out)
  have Z2lt : w.heap.size + 1 < w2.heap.size := Nat.lt_of_lt_of_le Z1lt b2.size
  clear O2 b2
  refine ⟨_, rfl, ⟨(cell_of_row w2 w.heap.size 12 _ _ (0, 0) R2.out).trans rfl, (cell_of_row w2 w.heap.size 15 _ _ (0, 0) R2.out).trans rfl⟩, ?_⟩
  try simp only [Act.put, List.setIfInBounds_toArray, List.set_cons_zero, List.set_cons_succ]
  refine ⟨by kernel_rfl, ?_⟩
  simp only [List.drop_succ_cons, List.drop_zero]
  have HB2 : Hid (Below w.heap.size w ((w2.setCell ⟨w.heap.size, 12, none⟩ (.slice A2 X.length c2)).setCell ⟨w.heap.size, 15, none⟩ (.slice B2 Y.length d2))) := Lib.hid ((H2.out.setCell (by simp) _).setCell (by simp) _)
  have OP3 := Lib.hid (own_set (own_set OP2.out ⟨w.heap.size, 12, none⟩ (.slice A2 X.length c2) (Nat.lt_of_succ_lt Z0lt)) ⟨w.heap.size, 15, none⟩ (.slice B2 Y.length d2) (Nat.lt_of_succ_lt Z0lt))
  have OQ3 := Lib.hid (own_set (own_set OQ2.out ⟨w.heap.size, 12, none⟩ (.slice A2 X.length c2) (Nat.lt_of_succ_lt Z1lt)) ⟨w.heap.size, 15, none⟩ (.slice B2 Y.length d2) (Nat.lt_of_succ_lt Z1lt))
  have Z3 : Hid (((w2.setCell ⟨w.heap.size, 12, none⟩ (.slice A2 X.length c2)).setCell ⟨w.heap.size, 15, none⟩ (.slice B2 Y.length d2)).heap[w.heap.size + 1]? = some (.cells #[.int .u8 0, .int .u8 0, .int .u16 0, .int .u32 0, .int .u8 0, .int .u8 0, .int .u8 0, .int .u8 0, .int .u8 0, .int .u8 0, .int .u8 0, .int .u32 0, .slice none 0 0, .int .u8 0, .string ByteArray.empty, .slice none 0 0, .int .u8 0, .int .u16 0] 93 (0, 0))) := Lib.hid (by rw [Below.heap_setCell _ _ _ _ (by simp), Below.heap_setCell _ _ _ _ (by simp)]; exact Z2.out)
  have l12 := (ent_of_row R2.out).e12
  have ff := frozen_row R2.out
  refine wpList_st (w' := w2.setCell ⟨w.heap.size, 12, none⟩ (.slice A2 X.length c2)) rfl rfl (Op.store 88 (.tmp 9) (.tmp 5)) rfl (by unfold bareO; go_simp) ?_
  clear l12
  refine wpList_rn (w' := w2.setCell ⟨w.heap.size, 12, none⟩ (.slice A2 X.length c2)) (v := .pointer (some ⟨w.heap.size, 15, none⟩)) rfl 10 rfl (Op.fieldAddr 93 (.tmp 1) 5) rfl (by unfold bareO; go_simp) ?_
  try simp only [Act.put, List.setIfInBounds_toArray, List.set_cons_zero, List.set_cons_succ]
  have l15 : (w2.setCell ⟨w.heap.size, 12, none⟩ (.slice A2 X.length c2)).cell? ⟨w.heap.size, 15, none⟩ = some (.slice B Y.length d) := by rw [World.cell?_setCell_other _ _ _ _ (by simp)]; exact (ent_of_row R2.out).e15
  have gg : (w2.setCell ⟨w.heap.size, 12, none⟩ (.slice A2 X.length c2)).frozen? ⟨w.heap.size, 15, none⟩ = false := by first | simp [ff] | go_simp
  clear ff
  refine wpList_st (w' := (w2.setCell ⟨w.heap.size, 12, none⟩ (.slice A2 X.length c2)).setCell ⟨w.heap.size, 15, none⟩ (.slice B2 Y.length d2)) rfl rfl (Op.store 91 (.tmp 10) (.tmp 8)) rfl (by unfold bareO; go_simp) ?_
  clear l15 gg
  have R3 : Hid (((w2.setCell ⟨w.heap.size, 12, none⟩ (.slice A2 X.length c2)).setCell ⟨w.heap.size, 15, none⟩ (.slice B2 Y.length d2)).heap[w.heap.size]? = some (.cells #[.int .u8 x.k, .int .u8 x.n, .int .u16 x.l, .int .u32 x.s, .int .u8 x.d, .int .u8 x.a0, .int .u8 x.a1, .int .u8 x.b0, .int .u8 x.b1, .int .u8 x.c0, .int .u8 x.c1, .int .u32 x.fl, .slice A2 X.length c2, .int .u8 x.rc, .string x.rv, .slice B2 Y.length d2, .int .u8 x.vn, .int .u16 x.vl] 93 (0, 0))) := Lib.hid (by
    rw [setCell_eq_setRow w2 w.heap.size 12 _ _ (0, 0) (.slice A2 X.length c2) R2.out, setCell_eq_setRow _ w.heap.size 15 _ _ (0, 0) (.slice B2 Y.length d2) (setRow_heap _ _ _ _ _ _ R2.out)]
    exact setRow_heap _ _ _ _ _ _ (setRow_heap _ _ _ _ _ _ R2.out))
  generalize (w2.setCell ⟨w.heap.size, 12, none⟩ (.slice A2 X.length c2)).setCell ⟨w.heap.size, 15, none⟩ (.slice B2 Y.length d2) = w3 at HB2 OP3 OQ3 Z3 R3 ⊢
  go_wp2_with (first
    | (refine wpList_load_row rfl 93 (.tmp 1) rfl w.heap.size (by rfl) 93 #[.int .u8 x.k, .int .u8 x.n, .int .u16 x.l, .int .u32 x.s, .int .u8 x.d, .int .u8 x.a0, .int .u8 x.a1, .int .u8 x.b0, .int .u8 x.b1, .int .u8 x.c0, .int .u8 x.c1, .int .u32 x.fl, .slice A2 X.length c2, .int .u8 x.rc, .string x.rv, .slice B2 Y.length d2, .int .u8 x.vn, .int .u16 x.vl] (0, 0) _ R3.out Try.underlying93 rfl (by kernel_rfl) ?_)
    | (refine wpList_store_row rfl 93 (.tmp 2) (.tmp 11) rfl (w.heap.size + 1) #[.int .u8 x.k, .int .u8 x.n, .int .u16 x.l, .int .u32 x.s, .int .u8 x.d, .int .u8 x.a0, .int .u8 x.a1, .int .u8 x.b0, .int .u8 x.b1, .int .u8 x.c0, .int .u8 x.c1, .int .u32 x.fl, .slice A2 X.length c2, .int .u8 x.rc, .string x.rv, .slice B2 Y.length d2, .int .u8 x.vn, .int .u16 x.vl] (by rfl) (by rfl) 93 #[.int .u8 0, .int .u8 0, .int .u16 0, .int .u32 0, .int .u8 0, .int .u8 0, .int .u8 0, .int .u8 0, .int .u8 0, .int .u8 0, .int .u8 0, .int .u32 0, .slice none 0 0, .int .u8 0, .string ByteArray.empty, .slice none 0 0, .int .u8 0, .int .u16 0] Z3.out (by kernel_rfl) rfl (by simp [Value.oneCell']) ?_
       have HB := Lib.hid (below_setRow HB2.out (g := w.heap.size + 1) (Nat.le_succ _) #[.int .u8 x.k, .int .u8 x.n, .int .u16 x.l, .int .u32 x.s, .int .u8 x.d, .int .u8 x.a0, .int .u8 x.a1, .int .u8 x.b0, .int .u8 x.b1, .int .u8 x.c0, .int .u8 x.c1, .int .u32 x.fl, .slice A2 X.length c2, .int .u8 x.rc, .string x.rv, .slice B2 Y.length d2, .int .u8 x.vn, .int .u16 x.vl])
       have OPr := Lib.hid (own_mono (own_row OP3.out (w.heap.size + 1) #[.int .u8 x.k, .int .u8 x.n, .int .u16 x.l, .int .u32 x.s, .int .u8 x.d, .int .u8 x.a0, .int .u8 x.a1, .int .u8 x.b0, .int .u8 x.b1, .int .u8 x.c0, .int .u8 x.c1, .int .u32 x.fl, .slice A2 X.length c2, .int .u8 x.rc, .string x.rv, .slice B2 Y.length d2, .int .u8 x.vn, .int .u16 x.vl] Z0lt) H0.out.size)
       have OQr := Lib.hid (own_mono (own_row OQ3.out (w.heap.size + 1) #[.int .u8 x.k, .int .u8 x.n, .int .u16 x.l, .int .u32 x.s, .int .u8 x.d, .int .u8 x.a0, .int .u8 x.a1, .int .u8 x.b0, .int .u8 x.b1, .int .u8 x.c0, .int .u8 x.c1, .int .u32 x.fl, .slice A2 X.length c2, .int .u8 x.rc, .string x.rv, .slice B2 Y.length d2, .int .u8 x.vn, .int .u16 x.vl] Z1lt) H1.out.size)
       have ER := Lib.hid (setRow_heap w3 (w.heap.size + 1) _ #[.int .u8 x.k, .int .u8 x.n, .int .u16 x.l, .int .u32 x.s, .int .u8 x.d, .int .u8 x.a0, .int .u8 x.a1, .int .u8 x.b0, .int .u8 x.b1, .int .u8 x.c0, .int .u8 x.c1, .int .u32 x.fl, .slice A2 X.length c2, .int .u8 x.rc, .string x.rv, .slice B2 Y.length d2, .int .u8 x.vn, .int .u16 x.vl] _ _ Z3.out)
       generalize w3.setRow (w.heap.size + 1) _ = wf at HB OPr OQr ER ⊢))
  exact bodyPost_ret (v := .agg #[.int .u8 x.k, .int .u8 x.n, .int .u16 x.l, .int .u32 x.s, .int .u8 x.d, .int .u8 x.a0, .int .u8 x.a1, .int .u8 x.b0, .int .u8 x.b1, .int .u8 x.c0, .int .u8 x.c1, .int .u32 x.fl, .slice A2 X.length c2, .int .u8 x.rc, .string x.rv, .slice B2 Y.length d2, .int .u8 x.vn, .int .u16 x.vl]) (results_cell_row (p := 2) (ty := 93) rfl _ _ (w.heap.size + 1) 93 #[.int .u8 x.k, .int .u8 x.n, .int .u16 x.l, .int .u32 x.s, .int .u8 x.d, .int .u8 x.a0, .int .u8 x.a1, .int .u8 x.b0, .int .u8 x.b1, .int .u8 x.c0, .int .u8 x.c1, .int .u32 x.fl, .slice A2 X.length c2, .int .u8 x.rc, .string x.rv, .slice B2 Y.length d2, .int .u8 x.vn, .int .u16 x.vl] (0, 0) _ (by rfl) ER.out Try.underlying93 rfl (by kernel_rfl)) rfl ⟨A2, c2, B2, d2, rfl, OPr.out, OQr.out, HB.out⟩

end Go.Proofs.Ytfkmodmgihadkaa
