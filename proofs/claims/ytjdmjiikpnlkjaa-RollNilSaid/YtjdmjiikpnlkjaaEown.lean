/-
  The law's Own and Ref of an entry, by contracts: the same numbers, lists of its own. Condition: the lists take at most 2^47 bytes.
-/
import Derived.Test.YtjdmjiikpnlkjaaErp
import Derived.Test.YtjdmjiikpnlkjaaEfh
namespace Go.Proofs.Ytjdmjiikpnlkjaa
set_option linter.unusedSimpArgs false
set_option linter.unusedVariables false
open Go.RowKit Go.Sort

theorem stepE {w W W' : World} {b : Nat} {x : E18} {P Q : Value} (H : Below w.heap.size w W) (E : Ent W b x P Q) (hb : Below W.heap.size W W') :
    Hid (Below w.heap.size w W') ∧ Hid (Ent W' b x P Q) :=
  ⟨Lib.hid (H.trans (hb.mono H.size)), Lib.hid (E.kept hb E.lt)⟩
theorem ent_row (W : World) (g : Nat) (x : E18) (P Q : Value) (old : Array Value) (t : TypeId) (hg : W.heap[g]? = some (.cells old t (0, 0))) : Ent (W.setRow g #[.int .u8 x.k, .int .u8 x.n, .int .u16 x.l, .int .u32 x.s, .int .u8 x.d, .int .u8 x.a0, .int .u8 x.a1, .int .u8 x.b0, .int .u8 x.b1, .int .u8 x.c0, .int .u8 x.c1, .int .u32 x.fl, P, .int .u8 x.rc, .string x.rv, Q, .int .u8 x.vn, .int .u16 x.vl]) g x P Q :=
  ⟨(cell_setRow_same W g 0 old _ t (0, 0) hg).trans rfl, (cell_setRow_same W g 1 old _ t (0, 0) hg).trans rfl, (cell_setRow_same W g 2 old _ t (0, 0) hg).trans rfl, (cell_setRow_same W g 3 old _ t (0, 0) hg).trans rfl, (cell_setRow_same W g 4 old _ t (0, 0) hg).trans rfl, (cell_setRow_same W g 5 old _ t (0, 0) hg).trans rfl, (cell_setRow_same W g 6 old _ t (0, 0) hg).trans rfl, (cell_setRow_same W g 7 old _ t (0, 0) hg).trans rfl, (cell_setRow_same W g 8 old _ t (0, 0) hg).trans rfl, (cell_setRow_same W g 9 old _ t (0, 0) hg).trans rfl, (cell_setRow_same W g 10 old _ t (0, 0) hg).trans rfl, (cell_setRow_same W g 11 old _ t (0, 0) hg).trans rfl, (cell_setRow_same W g 12 old _ t (0, 0) hg).trans rfl, (cell_setRow_same W g 13 old _ t (0, 0) hg).trans rfl, (cell_setRow_same W g 14 old _ t (0, 0) hg).trans rfl, (cell_setRow_same W g 15 old _ t (0, 0) hg).trans rfl, (cell_setRow_same W g 16 old _ t (0, 0) hg).trans rfl, (cell_setRow_same W g 17 old _ t (0, 0) hg).trans rfl⟩

set_option maxRecDepth 100000 in
set_option maxHeartbeats 1000000 in
theorem own5 (x : E18) (A B : Option Addr) (X : List P5) (Y : List W3) (c d : Nat) (w : World) (hr : RowsP w w.heap.size A X) (hs : RowsW w w.heap.size B Y) (hX : X.length * 48 ≤ 140737488355328) (hY : Y.length * 40 ≤ 140737488355328) (hc : X.length ≤ c) (hm : c ≤ maxLen) (hd : Y.length ≤ d) (hn : d ≤ maxLen) :
    Calls Try.prog 44 #[.agg #[.int .u8 x.k, .int .u8 x.n, .int .u16 x.l, .int .u32 x.s, .int .u8 x.d, .int .u8 x.a0, .int .u8 x.a1, .int .u8 x.b0, .int .u8 x.b1, .int .u8 x.c0, .int .u8 x.c1, .int .u32 x.fl, .slice A X.length c, .int .u8 x.rc, .string x.rv, .slice B Y.length d, .int .u8 x.vn, .int .u16 x.vl]] w fun e w' => ∃ A' c' B' d' m, e = .returned (.agg #[.int .u8 x.k, .int .u8 x.n, .int .u16 x.l, .int .u32 x.s, .int .u8 x.d, .int .u8 x.a0, .int .u8 x.a1, .int .u8 x.b0, .int .u8 x.b1, .int .u8 x.c0, .int .u8 x.c1, .int .u32 x.fl, .slice A' X.length c', .int .u8 x.rc, .string x.rv, .slice B' Y.length d', .int .u8 x.vn, .int .u16 x.vl]) ∧ w'.ownsRow w.heap.size 114 5 (.slice A' X.length c') X.length (cellsP X) ∧ w'.ownsRow m 117 3 (.slice B' Y.length d') Y.length (cellsW Y) ∧ (∀ g, (Value.slice A' X.length c').ownBlock = some g → g < m) ∧ w.heap.size ≤ m ∧ Below w.heap.size w w' := by
  have K1 := Lib.hid (fun W hw h1 => parts A X c W (hr.below (C := w.heap.size) hw (Nat.le_refl _) h1) hX hc hm)
  have K2 := Lib.hid (fun W hw h1 => ownW B Y d W (hs.below (C := w.heap.size) hw (Nat.le_refl _) h1) hY hd hn)
  have H0 : Hid (Below w.heap.size w ((w.alloc (.cells #[.int .u8 x.k, .int .u8 x.n, .int .u16 x.l, .int .u32 x.s, .int .u8 x.d, .int .u8 x.a0, .int .u8 x.a1, .int .u8 x.b0, .int .u8 x.b1, .int .u8 x.c0, .int .u8 x.c1, .int .u32 x.fl, .slice A X.length c, .int .u8 x.rc, .string x.rv, .slice B Y.length d, .int .u8 x.vn, .int .u16 x.vl] 103)).alloc (.cells #[.int .u8 0, .int .u8 0, .int .u16 0, .int .u32 0, .int .u8 0, .int .u8 0, .int .u8 0, .int .u8 0, .int .u8 0, .int .u8 0, .int .u8 0, .int .u32 0, .slice none 0 0, .int .u8 0, .string ByteArray.empty, .slice none 0 0, .int .u8 0, .int .u16 0] 63)).drew) := Lib.hid (((Below.refl _ _).alloc (Nat.le_refl _) _).alloc (by simp) _).drew
  have E0 : Hid (Ent ((w.alloc (.cells #[.int .u8 x.k, .int .u8 x.n, .int .u16 x.l, .int .u32 x.s, .int .u8 x.d, .int .u8 x.a0, .int .u8 x.a1, .int .u8 x.b0, .int .u8 x.b1, .int .u8 x.c0, .int .u8 x.c1, .int .u32 x.fl, .slice A X.length c, .int .u8 x.rc, .string x.rv, .slice B Y.length d, .int .u8 x.vn, .int .u16 x.vl] 103)).alloc (.cells #[.int .u8 0, .int .u8 0, .int .u16 0, .int .u32 0, .int .u8 0, .int .u8 0, .int .u8 0, .int .u8 0, .int .u8 0, .int .u8 0, .int .u8 0, .int .u32 0, .slice none 0 0, .int .u8 0, .string ByteArray.empty, .slice none 0 0, .int .u8 0, .int .u16 0] 63)).drew w.heap.size x (.slice A X.length c) (.slice B Y.length d)) := Lib.hid ((ent_new w x (.slice A X.length c) (.slice B Y.length d) 103).kept (((Below.refl _ _).alloc (Nat.le_refl _) _).drew) (by simp))
  have Z0 : Hid (((w.alloc (.cells #[.int .u8 x.k, .int .u8 x.n, .int .u16 x.l, .int .u32 x.s, .int .u8 x.d, .int .u8 x.a0, .int .u8 x.a1, .int .u8 x.b0, .int .u8 x.b1, .int .u8 x.c0, .int .u8 x.c1, .int .u32 x.fl, .slice A X.length c, .int .u8 x.rc, .string x.rv, .slice B Y.length d, .int .u8 x.vn, .int .u16 x.vl] 103)).alloc (.cells #[.int .u8 0, .int .u8 0, .int .u16 0, .int .u32 0, .int .u8 0, .int .u8 0, .int .u8 0, .int .u8 0, .int .u8 0, .int .u8 0, .int .u8 0, .int .u32 0, .slice none 0 0, .int .u8 0, .string ByteArray.empty, .slice none 0 0, .int .u8 0, .int .u16 0] 63)).drew.heap[w.heap.size + 1]? = some (.cells #[.int .u8 0, .int .u8 0, .int .u16 0, .int .u32 0, .int .u8 0, .int .u8 0, .int .u8 0, .int .u8 0, .int .u8 0, .int .u8 0, .int .u8 0, .int .u32 0, .slice none 0 0, .int .u8 0, .string ByteArray.empty, .slice none 0 0, .int .u8 0, .int .u16 0] 63 (0, 0))) := Lib.hid (by
    have hg := heap_alloc_new (w.alloc (.cells #[.int .u8 x.k, .int .u8 x.n, .int .u16 x.l, .int .u32 x.s, .int .u8 x.d, .int .u8 x.a0, .int .u8 x.a1, .int .u8 x.b0, .int .u8 x.b1, .int .u8 x.c0, .int .u8 x.c1, .int .u32 x.fl, .slice A X.length c, .int .u8 x.rc, .string x.rv, .slice B Y.length d, .int .u8 x.vn, .int .u16 x.vl] 103)) (.cells #[.int .u8 0, .int .u8 0, .int .u16 0, .int .u32 0, .int .u8 0, .int .u8 0, .int .u8 0, .int .u8 0, .int .u8 0, .int .u8 0, .int .u8 0, .int .u32 0, .slice none 0 0, .int .u8 0, .string ByteArray.empty, .slice none 0 0, .int .u8 0, .int .u16 0] 63)
    have e : (w.alloc (.cells #[.int .u8 x.k, .int .u8 x.n, .int .u16 x.l, .int .u32 x.s, .int .u8 x.d, .int .u8 x.a0, .int .u8 x.a1, .int .u8 x.b0, .int .u8 x.b1, .int .u8 x.c0, .int .u8 x.c1, .int .u32 x.fl, .slice A X.length c, .int .u8 x.rc, .string x.rv, .slice B Y.length d, .int .u8 x.vn, .int .u16 x.vl] 103)).heap.size = w.heap.size + 1 := by simp
    rw [e] at hg
    exact hg)
  clear hr hs
  go_enter Try.func44, Try.ntmps44
  go_wp2
  refine region_heldT (S := fun W => Ent W w.heap.size x (.slice A X.length c) (.slice B Y.length d)) 19 (by kernel_rfl) (by decide) (fun inv => ?_)
  change FirstH _ _ _ _ _ _ _ _ _ _ ((w.alloc (.cells #[.int .u8 x.k, .int .u8 x.n, .int .u16 x.l, .int .u32 x.s, .int .u8 x.d, .int .u8 x.a0, .int .u8 x.a1, .int .u8 x.b0, .int .u8 x.b1, .int .u8 x.c0, .int .u8 x.c1, .int .u32 x.fl, .slice A X.length c, .int .u8 x.rc, .string x.rv, .slice B Y.length d, .int .u8 x.vn, .int .u16 x.vl] 103)).alloc (.cells #[.int .u8 0, .int .u8 0, .int .u16 0, .int .u32 0, .int .u8 0, .int .u8 0, .int .u8 0, .int .u8 0, .int .u8 0, .int .u8 0, .int .u8 0, .int .u32 0, .slice none 0 0, .int .u8 0, .string ByteArray.empty, .slice none 0 0, .int .u8 0, .int .u16 0] 63)).drew
  generalize ((w.alloc (.cells #[.int .u8 x.k, .int .u8 x.n, .int .u16 x.l, .int .u32 x.s, .int .u8 x.d, .int .u8 x.a0, .int .u8 x.a1, .int .u8 x.b0, .int .u8 x.b1, .int .u8 x.c0, .int .u8 x.c1, .int .u32 x.fl, .slice A X.length c, .int .u8 x.rc, .string x.rv, .slice B Y.length d, .int .u8 x.vn, .int .u16 x.vl] 103)).alloc (.cells #[.int .u8 0, .int .u8 0, .int .u16 0, .int .u32 0, .int .u8 0, .int .u8 0, .int .u8 0, .int .u8 0, .int .u8 0, .int .u8 0, .int .u8 0, .int .u32 0, .slice none 0 0, .int .u8 0, .string ByteArray.empty, .slice none 0 0, .int .u8 0, .int .u16 0] 63)).drew = W0 at H0 E0 Z0 ⊢
  have HS := E0.out
  refine FirstH.go (i := 0) (v := .pointer (some ⟨w.heap.size, 0, none⟩)) rfl rfl 3 rfl (Op.fieldAddr 103 (.tmp 1) 0) rfl (by kernel_rfl) (fun _ _ _ h => h) inv (fun W _ => by unfold bareO; go_simp) HS (fun inv => ?_)
  try simp only [Act.put, List.setIfInBounds_toArray, List.set_cons_zero, List.set_cons_succ]
  refine FirstH.go (i := 1) (v := .int .u8 x.k) rfl rfl 4 rfl (Op.load 5 (.tmp 3)) rfl (by kernel_rfl) (fun _ _ _ h => h) inv (fun W hS => by obtain ⟨e0, e1, e2, e3, e4, e5, e6, e7, e8, e9, e10, e11, e12, e13, e14, e15, e16, e17⟩ := hS; unfold bareO; go_simp) HS (fun inv => ?_)
  try simp only [Act.put, List.setIfInBounds_toArray, List.set_cons_zero, List.set_cons_succ]
  refine FirstH.go (i := 2) (v := .pointer (some ⟨w.heap.size, 1, none⟩)) rfl rfl 5 rfl (Op.fieldAddr 103 (.tmp 1) 1) rfl (by kernel_rfl) (fun _ _ _ h => h) inv (fun W _ => by unfold bareO; go_simp) HS (fun inv => ?_)
  try simp only [Act.put, List.setIfInBounds_toArray, List.set_cons_zero, List.set_cons_succ]
  refine FirstH.go (i := 3) (v := .agg #[.int .u8 x.n, .int .u16 x.l, .int .u32 x.s, .int .u8 x.d, .int .u8 x.a0, .int .u8 x.a1, .int .u8 x.b0, .int .u8 x.b1, .int .u8 x.c0, .int .u8 x.c1]) rfl rfl 6 rfl (Op.load 98 (.tmp 5)) rfl (by kernel_rfl) (fun _ _ _ h => h) inv (fun W hS => by obtain ⟨e0, e1, e2, e3, e4, e5, e6, e7, e8, e9, e10, e11, e12, e13, e14, e15, e16, e17⟩ := hS; unfold bareO; go_simp) HS (fun inv => ?_)
  try simp only [Act.put, List.setIfInBounds_toArray, List.set_cons_zero, List.set_cons_succ]
  refine FirstH.go (i := 5) (v := .pointer (some ⟨w.heap.size, 11, none⟩)) rfl rfl 8 rfl (Op.fieldAddr 103 (.tmp 1) 2) rfl (by kernel_rfl) (fun _ _ _ h => h) inv (fun W _ => by unfold bareO; go_simp) HS (fun inv => ?_)
  try simp only [Act.put, List.setIfInBounds_toArray, List.set_cons_zero, List.set_cons_succ]
  refine FirstH.go (i := 6) (v := .int .u32 x.fl) rfl rfl 9 rfl (Op.load 42 (.tmp 8)) rfl (by kernel_rfl) (fun _ _ _ h => h) inv (fun W hS => by obtain ⟨e0, e1, e2, e3, e4, e5, e6, e7, e8, e9, e10, e11, e12, e13, e14, e15, e16, e17⟩ := hS; unfold bareO; go_simp) HS (fun inv => ?_)
  try simp only [Act.put, List.setIfInBounds_toArray, List.set_cons_zero, List.set_cons_succ]
  refine FirstH.go (i := 7) (v := .pointer (some ⟨w.heap.size, 12, none⟩)) rfl rfl 10 rfl (Op.fieldAddr 103 (.tmp 1) 3) rfl (by kernel_rfl) (fun _ _ _ h => h) inv (fun W _ => by unfold bareO; go_simp) HS (fun inv => ?_)
  try simp only [Act.put, List.setIfInBounds_toArray, List.set_cons_zero, List.set_cons_succ]
  refine FirstH.go (i := 8) (v := .slice A X.length c) rfl rfl 11 rfl (Op.load 99 (.tmp 10)) rfl (by kernel_rfl) (fun _ _ _ h => h) inv (fun W hS => by obtain ⟨e0, e1, e2, e3, e4, e5, e6, e7, e8, e9, e10, e11, e12, e13, e14, e15, e16, e17⟩ := hS; unfold bareO; go_simp) HS (fun inv => ?_)
  try simp only [Act.put, List.setIfInBounds_toArray, List.set_cons_zero, List.set_cons_succ]
  refine FirstH.go (i := 10) (v := .pointer (some ⟨w.heap.size, 13, none⟩)) rfl rfl 13 rfl (Op.fieldAddr 103 (.tmp 1) 4) rfl (by kernel_rfl) (fun _ _ _ h => h) inv (fun W _ => by unfold bareO; go_simp) HS (fun inv => ?_)
  try simp only [Act.put, List.setIfInBounds_toArray, List.set_cons_zero, List.set_cons_succ]
  refine FirstH.go (i := 11) (v := .agg #[.int .u8 x.rc, .string x.rv]) rfl rfl 14 rfl (Op.load 100 (.tmp 13)) rfl (by kernel_rfl) (fun _ _ _ h => h) inv (fun W hS => by obtain ⟨e0, e1, e2, e3, e4, e5, e6, e7, e8, e9, e10, e11, e12, e13, e14, e15, e16, e17⟩ := hS; unfold bareO; go_simp) HS (fun inv => ?_)
  try simp only [Act.put, List.setIfInBounds_toArray, List.set_cons_zero, List.set_cons_succ]
  refine FirstH.go (i := 13) (v := .pointer (some ⟨w.heap.size, 15, none⟩)) rfl rfl 16 rfl (Op.fieldAddr 103 (.tmp 1) 5) rfl (by kernel_rfl) (fun _ _ _ h => h) inv (fun W _ => by unfold bareO; go_simp) HS (fun inv => ?_)
  try simp only [Act.put, List.setIfInBounds_toArray, List.set_cons_zero, List.set_cons_succ]
  refine FirstH.go (i := 14) (v := .slice B Y.length d) rfl rfl 17 rfl (Op.load 101 (.tmp 16)) rfl (by kernel_rfl) (fun _ _ _ h => h) inv (fun W hS => by obtain ⟨e0, e1, e2, e3, e4, e5, e6, e7, e8, e9, e10, e11, e12, e13, e14, e15, e16, e17⟩ := hS; unfold bareO; go_simp) HS (fun inv => ?_)
  try simp only [Act.put, List.setIfInBounds_toArray, List.set_cons_zero, List.set_cons_succ]
  refine FirstH.go (i := 16) (v := .pointer (some ⟨w.heap.size, 16, none⟩)) rfl rfl 19 rfl (Op.fieldAddr 103 (.tmp 1) 6) rfl (by kernel_rfl) (fun _ _ _ h => h) inv (fun W _ => by unfold bareO; go_simp) HS (fun inv => ?_)
  try simp only [Act.put, List.setIfInBounds_toArray, List.set_cons_zero, List.set_cons_succ]
  refine FirstH.go (i := 17) (v := .agg #[.int .u8 x.vn, .int .u16 x.vl]) rfl rfl 20 rfl (Op.load 68 (.tmp 19)) rfl (by kernel_rfl) (fun _ _ _ h => h) inv (fun W hS => by obtain ⟨e0, e1, e2, e3, e4, e5, e6, e7, e8, e9, e10, e11, e12, e13, e14, e15, e16, e17⟩ := hS; unfold bareO; go_simp) HS (fun inv => ?_)
  try simp only [Act.put, List.setIfInBounds_toArray, List.set_cons_zero, List.set_cons_succ]
  clear HS
  have Z0lt : w.heap.size + 1 < W0.heap.size := (Array.getElem?_eq_some_iff.1 Z0.out).1
  refine FirstH.only (i := 4) (by kernel_rfl) (by decide) inv (fun inv => wpOp_call (i := 4) rfl rfl 7 rfl (Op.call { callee := .value (.func 64), args := #[.tmp 6], argTypes := #[98] }) rfl 64 #[.agg #[.int .u8 x.n, .int .u16 x.l, .int .u32 x.s, .int .u8 x.d, .int .u8 x.a0, .int .u8 x.a1, .int .u8 x.b0, .int .u8 x.b1, .int .u8 x.c0, .int .u8 x.c1]] (by unfold bareO; go_simp) (I.toID _ _ _ _ _ _ _ _ _ _ _) ?_)
  rintro e w1 ⟨rfl, b1⟩
  obtain ⟨H1, E1⟩ := stepE H0.out E0.out b1
  have Z1 := Lib.hid ((b1.block _ Z0lt).trans Z0.out)
  have Z1lt : w.heap.size + 1 < w1.heap.size := Nat.lt_of_lt_of_le Z0lt b1.size
  clear b1
  refine ⟨_, rfl, E1.out, ?_⟩
  try simp only [Act.put, List.setIfInBounds_toArray, List.set_cons_zero, List.set_cons_succ]
  refine FirstH.only (i := 9) (by kernel_rfl) (by decide) inv (fun inv => wpOp_call (i := 9) rfl rfl 12 rfl (Op.call { callee := .value (.func 65), args := #[.tmp 11], argTypes := #[99] }) rfl 65 #[.slice A X.length c] (by unfold bareO; go_simp) (K1.out _ H1.out H1.out.size) ?_)
  rintro e w2 ⟨p, rfl, O2, b2⟩
  obtain ⟨A2, c2, rfl, -, -, -⟩ := rowsP_of_own O2
  have OP := Lib.hid O2
  clear O2
  obtain ⟨H2, E2⟩ := stepE H1.out E1.out b2
  have Z2 := Lib.hid ((b2.block _ Z1lt).trans Z1.out)
  have Z2lt : w.heap.size + 1 < w2.heap.size := Nat.lt_of_lt_of_le Z1lt b2.size
  clear b2
  refine ⟨_, rfl, E2.out, ?_⟩
  try simp only [Act.put, List.setIfInBounds_toArray, List.set_cons_zero, List.set_cons_succ]
  refine FirstH.only (i := 12) (by kernel_rfl) (by decide) inv (fun inv => wpOp_call (i := 12) rfl rfl 15 rfl (Op.call { callee := .value (.func 66), args := #[.tmp 14], argTypes := #[100] }) rfl 66 #[.agg #[.int .u8 x.rc, .string x.rv]] (by unfold bareO; go_simp) (toRes _ _ _) ?_)
  rintro e w3 ⟨rfl, b3⟩
  replace b3 : Below w2.heap.size w2 w3 := by (rw [← b3]; exact ((Below.refl _ _).alloc (Nat.le_refl _) _).alloc (by simp) _)
  have OP3 := Lib.hid (own_kept OP.out b3)
  have S3 := Lib.hid b3.size
  obtain ⟨H3, E3⟩ := stepE H2.out E2.out b3
  have Z3 := Lib.hid ((b3.block _ Z2lt).trans Z2.out)
  have Z3lt : w.heap.size + 1 < w3.heap.size := Nat.lt_of_lt_of_le Z2lt b3.size
  clear b3
  refine ⟨_, rfl, E3.out, ?_⟩
  try simp only [Act.put, List.setIfInBounds_toArray, List.set_cons_zero, List.set_cons_succ]
  refine FirstH.only (i := 15) (by kernel_rfl) (by decide) inv (fun inv => wpOp_call (i := 15) rfl rfl 18 rfl (Op.call { callee := .value (.func 67), args := #[.tmp 17], argTypes := #[101] }) rfl 67 #[.slice B Y.length d] (by unfold bareO; go_simp) (K2.out _ H3.out H3.out.size) ?_)
  rintro e w4 ⟨q, rfl, O4, b4⟩
  obtain ⟨B2, d2, rfl, -, -, -⟩ := rowsW_of_own O4
  have OQ := Lib.hid O4
  have OP4 := Lib.hid (own_kept OP3.out b4)
  clear O4
  obtain ⟨H4, E4⟩ := stepE H3.out E3.out b4
  have Z4 := Lib.hid ((b4.block _ Z3lt).trans Z3.out)
  have Z4lt : w.heap.size + 1 < w4.heap.size := Nat.lt_of_lt_of_le Z3lt b4.size
  clear b4
  refine ⟨_, rfl, E4.out, ?_⟩
  try simp only [Act.put, List.setIfInBounds_toArray, List.set_cons_zero, List.set_cons_succ]
  refine FirstH.only (i := 18) (by kernel_rfl) (by decide) inv (fun inv => wpOp_call (i := 18) rfl rfl 21 rfl (Op.call { callee := .value (.func 24), args := #[.tmp 20], argTypes := #[68] }) rfl 24 #[.agg #[.int .u8 x.vn, .int .u16 x.vl]] (by unfold bareO; go_simp) (I.toProc _ _ _) ?_)
  rintro e w5 ⟨rfl, b5⟩
  replace b5 : Below w4.heap.size w4 w5 := by (rw [← b5]; exact ((Below.refl _ _).alloc (Nat.le_refl _) _).alloc (by simp) _)
  have OP5 := Lib.hid (own_kept OP4.out b5)
  have OQ5 := Lib.hid (own_kept OQ.out b5)
  obtain ⟨H5, E5⟩ := stepE H4.out E4.out b5
  have Z5 := Lib.hid ((b5.block _ Z4lt).trans Z4.out)
  have Z5lt : w.heap.size + 1 < w5.heap.size := Nat.lt_of_lt_of_le Z4lt b5.size
  clear b5
  refine ⟨_, rfl, E5.out, ?_⟩
  try simp only [Act.put, List.setIfInBounds_toArray, List.set_cons_zero, List.set_cons_succ]
  refine ⟨by kernel_rfl, ?_⟩
  simp only [List.drop_succ_cons, List.drop_zero]
  refine wpList_build rfl 63 _ rfl (by kernel_rfl) ?_
  refine wpList_store_row rfl 63 (.tmp 2) (.tmp 22) rfl (w.heap.size + 1) #[.int .u8 x.k, .int .u8 x.n, .int .u16 x.l, .int .u32 x.s, .int .u8 x.d, .int .u8 x.a0, .int .u8 x.a1, .int .u8 x.b0, .int .u8 x.b1, .int .u8 x.c0, .int .u8 x.c1, .int .u32 x.fl, .slice A2 X.length c2, .int .u8 x.rc, .string x.rv, .slice B2 Y.length d2, .int .u8 x.vn, .int .u16 x.vl] (by rfl) (by kernel_rfl) 63 #[.int .u8 0, .int .u8 0, .int .u16 0, .int .u32 0, .int .u8 0, .int .u8 0, .int .u8 0, .int .u8 0, .int .u8 0, .int .u8 0, .int .u8 0, .int .u32 0, .slice none 0 0, .int .u8 0, .string ByteArray.empty, .slice none 0 0, .int .u8 0, .int .u16 0] Z5.out (by kernel_rfl) rfl (by simp [Value.oneCell']) ?_
  have HB := Lib.hid (below_setRow H5.out (g := w.heap.size + 1) (Nat.le_succ _) #[.int .u8 x.k, .int .u8 x.n, .int .u16 x.l, .int .u32 x.s, .int .u8 x.d, .int .u8 x.a0, .int .u8 x.a1, .int .u8 x.b0, .int .u8 x.b1, .int .u8 x.c0, .int .u8 x.c1, .int .u32 x.fl, .slice A2 X.length c2, .int .u8 x.rc, .string x.rv, .slice B2 Y.length d2, .int .u8 x.vn, .int .u16 x.vl])
  have OPr := Lib.hid (own_mono (own_row OP5.out (w.heap.size + 1) #[.int .u8 x.k, .int .u8 x.n, .int .u16 x.l, .int .u32 x.s, .int .u8 x.d, .int .u8 x.a0, .int .u8 x.a1, .int .u8 x.b0, .int .u8 x.b1, .int .u8 x.c0, .int .u8 x.c1, .int .u32 x.fl, .slice A2 X.length c2, .int .u8 x.rc, .string x.rv, .slice B2 Y.length d2, .int .u8 x.vn, .int .u16 x.vl] Z1lt) H1.out.size)
  have OQr := Lib.hid (own_row OQ5.out (w.heap.size + 1) #[.int .u8 x.k, .int .u8 x.n, .int .u16 x.l, .int .u32 x.s, .int .u8 x.d, .int .u8 x.a0, .int .u8 x.a1, .int .u8 x.b0, .int .u8 x.b1, .int .u8 x.c0, .int .u8 x.c1, .int .u32 x.fl, .slice A2 X.length c2, .int .u8 x.rc, .string x.rv, .slice B2 Y.length d2, .int .u8 x.vn, .int .u16 x.vl] Z3lt)
  have ER := Lib.hid (setRow_heap w5 (w.heap.size + 1) _ #[.int .u8 x.k, .int .u8 x.n, .int .u16 x.l, .int .u32 x.s, .int .u8 x.d, .int .u8 x.a0, .int .u8 x.a1, .int .u8 x.b0, .int .u8 x.b1, .int .u8 x.c0, .int .u8 x.c1, .int .u32 x.fl, .slice A2 X.length c2, .int .u8 x.rc, .string x.rv, .slice B2 Y.length d2, .int .u8 x.vn, .int .u16 x.vl] _ _ Z5.out)
  generalize w5.setRow (w.heap.size + 1) _ = wf at HB OPr OQr ER ⊢
  go_wp2
  exact bodyPost_ret (v := .agg #[.int .u8 x.k, .int .u8 x.n, .int .u16 x.l, .int .u32 x.s, .int .u8 x.d, .int .u8 x.a0, .int .u8 x.a1, .int .u8 x.b0, .int .u8 x.b1, .int .u8 x.c0, .int .u8 x.c1, .int .u32 x.fl, .slice A2 X.length c2, .int .u8 x.rc, .string x.rv, .slice B2 Y.length d2, .int .u8 x.vn, .int .u16 x.vl]) (results_cell_row (p := 2) (ty := 63) rfl _ _ (w.heap.size + 1) 63 #[.int .u8 x.k, .int .u8 x.n, .int .u16 x.l, .int .u32 x.s, .int .u8 x.d, .int .u8 x.a0, .int .u8 x.a1, .int .u8 x.b0, .int .u8 x.b1, .int .u8 x.c0, .int .u8 x.c1, .int .u32 x.fl, .slice A2 X.length c2, .int .u8 x.rc, .string x.rv, .slice B2 Y.length d2, .int .u8 x.vn, .int .u16 x.vl] (0, 0) _ (by rfl) ER.out Try.underlying63 rfl (by kernel_rfl)) rfl ⟨A2, c2, B2, d2, w3.heap.size, rfl, OPr.out, OQr.out, fun g hg => Nat.lt_of_lt_of_le (own_lt OP.out g hg).2 S3.out, H3.out.size, HB.out⟩

end Go.Proofs.Ytjdmjiikpnlkjaa
