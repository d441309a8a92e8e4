/-
  The walk of the law EntryApart. Conditions: the lists lie in memory, the texts and lists take at most 2^47 bytes each; the table of the powers of ten is as its text lays it.
-/
import Derived.Test.YtnkimbmnnhnanaaDoorEkk
import Derived.Test.YtnkimbmnnhnanaaDoorElt
import Derived.Test.YtnkimbmnnhnanaaDoorElp
import Derived.Deep.WholeRow
namespace Go.Proofs.YtnkimbmnnhnanaaDoor
set_option linter.unusedSimpArgs false
set_option linter.unusedVariables false
open Go.RowKit Go.Sort

set_option maxRecDepth 100000 in
set_option maxHeartbeats 1000000 in
theorem walkApart5 (x : E18) (A B : Option Addr) (X : List P5) (Y : List W3) (c d : Nat) (w : World) (B0 : Nat) (ht : Okw B0 w) (hr : RowsP w w.heap.size A X) (hs : RowsW w w.heap.size B Y) (hX : X.length * 48 ≤ 140737488355328) (hY : Y.length * 40 ≤ 140737488355328) (hc : X.length ≤ c) (hm : c ≤ maxLen) (hd : Y.length ≤ d) (hn : d ≤ maxLen) (sx : ∀ x ∈ X, x.key.size ≤ 140737488355328) (sy : ∀ y ∈ Y, y.val.size ≤ 140737488355328) :
    Calls Tryd.prog 4 #[.agg #[.int .u8 x.k, .int .u8 x.n, .int .u16 x.l, .int .u32 x.s, .int .u8 x.d, .int .u8 x.a0, .int .u8 x.a1, .int .u8 x.b0, .int .u8 x.b1, .int .u8 x.c0, .int .u8 x.c1, .int .u32 x.fl, .slice A X.length c, .int .u8 x.rc, .string x.rv, .slice B Y.length d, .int .u8 x.vn, .int .u16 x.vl]] w fun e w' => e = .returned (.bool true) ∧ Below w.heap.size w w' := by
  have R0 : Hid ((w.alloc (.cells #[.int .u8 x.k, .int .u8 x.n, .int .u16 x.l, .int .u32 x.s, .int .u8 x.d, .int .u8 x.a0, .int .u8 x.a1, .int .u8 x.b0, .int .u8 x.b1, .int .u8 x.c0, .int .u8 x.c1, .int .u32 x.fl, .slice A X.length c, .int .u8 x.rc, .string x.rv, .slice B Y.length d, .int .u8 x.vn, .int .u16 x.vl] 36)).heap[w.heap.size]? = some (.cells #[.int .u8 x.k, .int .u8 x.n, .int .u16 x.l, .int .u32 x.s, .int .u8 x.d, .int .u8 x.a0, .int .u8 x.a1, .int .u8 x.b0, .int .u8 x.b1, .int .u8 x.c0, .int .u8 x.c1, .int .u32 x.fl, .slice A X.length c, .int .u8 x.rc, .string x.rv, .slice B Y.length d, .int .u8 x.vn, .int .u16 x.vl] 36 (0, 0))) := Lib.hid (heap_alloc_new w _)
  have HA : Hid (Below w.heap.size w ((w.alloc (.cells #[.int .u8 x.k, .int .u8 x.n, .int .u16 x.l, .int .u32 x.s, .int .u8 x.d, .int .u8 x.a0, .int .u8 x.a1, .int .u8 x.b0, .int .u8 x.b1, .int .u8 x.c0, .int .u8 x.c1, .int .u32 x.fl, .slice A X.length c, .int .u8 x.rc, .string x.rv, .slice B Y.length d, .int .u8 x.vn, .int .u16 x.vl] 36)).alloc (.cells #[.int .u8 x.k, .int .u8 x.n, .int .u16 x.l, .int .u32 x.s, .int .u8 x.d, .int .u8 x.a0, .int .u8 x.a1, .int .u8 x.b0, .int .u8 x.b1, .int .u8 x.c0, .int .u8 x.c1, .int .u32 x.fl, .slice A X.length c, .int .u8 x.rc, .string x.rv, .slice B Y.length d, .int .u8 x.vn, .int .u16 x.vl] 36))) := Lib.hid (((Below.refl _ _).alloc (Nat.le_refl _) _).alloc (by simp) _)
  have RA : Hid (((w.alloc (.cells #[.int .u8 x.k, .int .u8 x.n, .int .u16 x.l, .int .u32 x.s, .int .u8 x.d, .int .u8 x.a0, .int .u8 x.a1, .int .u8 x.b0, .int .u8 x.b1, .int .u8 x.c0, .int .u8 x.c1, .int .u32 x.fl, .slice A X.length c, .int .u8 x.rc, .string x.rv, .slice B Y.length d, .int .u8 x.vn, .int .u16 x.vl] 36)).alloc (.cells #[.int .u8 x.k, .int .u8 x.n, .int .u16 x.l, .int .u32 x.s, .int .u8 x.d, .int .u8 x.a0, .int .u8 x.a1, .int .u8 x.b0, .int .u8 x.b1, .int .u8 x.c0, .int .u8 x.c1, .int .u32 x.fl, .slice A X.length c, .int .u8 x.rc, .string x.rv, .slice B Y.length d, .int .u8 x.vn, .int .u16 x.vl] 36)).heap[w.heap.size]? = some (.cells #[.int .u8 x.k, .int .u8 x.n, .int .u16 x.l, .int .u32 x.s, .int .u8 x.d, .int .u8 x.a0, .int .u8 x.a1, .int .u8 x.b0, .int .u8 x.b1, .int .u8 x.c0, .int .u8 x.c1, .int .u32 x.fl, .slice A X.length c, .int .u8 x.rc, .string x.rv, .slice B Y.length d, .int .u8 x.vn, .int .u16 x.vl] 36 (0, 0))) := Lib.hid ((((Below.refl (w.heap.size + 1) (w.alloc (.cells #[.int .u8 x.k, .int .u8 x.n, .int .u16 x.l, .int .u32 x.s, .int .u8 x.d, .int .u8 x.a0, .int .u8 x.a1, .int .u8 x.b0, .int .u8 x.b1, .int .u8 x.c0, .int .u8 x.c1, .int .u32 x.fl, .slice A X.length c, .int .u8 x.rc, .string x.rv, .slice B Y.length d, .int .u8 x.vn, .int .u16 x.vl] 36))).alloc (by simp) (.cells #[.int .u8 x.k, .int .u8 x.n, .int .u16 x.l, .int .u32 x.s, .int .u8 x.d, .int .u8 x.a0, .int .u8 x.a1, .int .u8 x.b0, .int .u8 x.b1, .int .u8 x.c0, .int .u8 x.c1, .int .u32 x.fl, .slice A X.length c, .int .u8 x.rc, .string x.rv, .slice B Y.length d, .int .u8 x.vn, .int .u16 x.vl] 36)).block w.heap.size (by omega)).trans R0.out)
  have RB : Hid (((w.alloc (.cells #[.int .u8 x.k, .int .u8 x.n, .int .u16 x.l, .int .u32 x.s, .int .u8 x.d, .int .u8 x.a0, .int .u8 x.a1, .int .u8 x.b0, .int .u8 x.b1, .int .u8 x.c0, .int .u8 x.c1, .int .u32 x.fl, .slice A X.length c, .int .u8 x.rc, .string x.rv, .slice B Y.length d, .int .u8 x.vn, .int .u16 x.vl] 36)).alloc (.cells #[.int .u8 x.k, .int .u8 x.n, .int .u16 x.l, .int .u32 x.s, .int .u8 x.d, .int .u8 x.a0, .int .u8 x.a1, .int .u8 x.b0, .int .u8 x.b1, .int .u8 x.c0, .int .u8 x.c1, .int .u32 x.fl, .slice A X.length c, .int .u8 x.rc, .string x.rv, .slice B Y.length d, .int .u8 x.vn, .int .u16 x.vl] 36)).heap[w.heap.size + 1]? = some (.cells #[.int .u8 x.k, .int .u8 x.n, .int .u16 x.l, .int .u32 x.s, .int .u8 x.d, .int .u8 x.a0, .int .u8 x.a1, .int .u8 x.b0, .int .u8 x.b1, .int .u8 x.c0, .int .u8 x.c1, .int .u32 x.fl, .slice A X.length c, .int .u8 x.rc, .string x.rv, .slice B Y.length d, .int .u8 x.vn, .int .u16 x.vl] 36 (0, 0))) := Lib.hid (by
    have hg := heap_alloc_new (w.alloc (.cells #[.int .u8 x.k, .int .u8 x.n, .int .u16 x.l, .int .u32 x.s, .int .u8 x.d, .int .u8 x.a0, .int .u8 x.a1, .int .u8 x.b0, .int .u8 x.b1, .int .u8 x.c0, .int .u8 x.c1, .int .u32 x.fl, .slice A X.length c, .int .u8 x.rc, .string x.rv, .slice B Y.length d, .int .u8 x.vn, .int .u16 x.vl] 36)) (.cells #[.int .u8 x.k, .int .u8 x.n, .int .u16 x.l, .int .u32 x.s, .int .u8 x.d, .int .u8 x.a0, .int .u8 x.a1, .int .u8 x.b0, .int .u8 x.b1, .int .u8 x.c0, .int .u8 x.c1, .int .u32 x.fl, .slice A X.length c, .int .u8 x.rc, .string x.rv, .slice B Y.length d, .int .u8 x.vn, .int .u16 x.vl] 36)
    have e : (w.alloc (.cells #[.int .u8 x.k, .int .u8 x.n, .int .u16 x.l, .int .u32 x.s, .int .u8 x.d, .int .u8 x.a0, .int .u8 x.a1, .int .u8 x.b0, .int .u8 x.b1, .int .u8 x.c0, .int .u8 x.c1, .int .u32 x.fl, .slice A X.length c, .int .u8 x.rc, .string x.rv, .slice B Y.length d, .int .u8 x.vn, .int .u16 x.vl] 36)).heap.size = w.heap.size + 1 := by simp
    rw [e] at hg
    exact hg)
  have LA : Hid (w.heap.size + 1 < ((w.alloc (.cells #[.int .u8 x.k, .int .u8 x.n, .int .u16 x.l, .int .u32 x.s, .int .u8 x.d, .int .u8 x.a0, .int .u8 x.a1, .int .u8 x.b0, .int .u8 x.b1, .int .u8 x.c0, .int .u8 x.c1, .int .u32 x.fl, .slice A X.length c, .int .u8 x.rc, .string x.rv, .slice B Y.length d, .int .u8 x.vn, .int .u16 x.vl] 36)).alloc (.cells #[.int .u8 x.k, .int .u8 x.n, .int .u16 x.l, .int .u32 x.s, .int .u8 x.d, .int .u8 x.a0, .int .u8 x.a1, .int .u8 x.b0, .int .u8 x.b1, .int .u8 x.c0, .int .u8 x.c1, .int .u32 x.fl, .slice A X.length c, .int .u8 x.rc, .string x.rv, .slice B Y.length d, .int .u8 x.vn, .int .u16 x.vl] 36)).heap.size) := Lib.hid (by simp)
  have HK := Lib.hid (fun W (hb : Below w.heap.size w W) => knows5 W B0 (ht.on hb))
  have HRr := Lib.hid (fun W (hw : Below w.heap.size w W) => hr.below (C := w.heap.size) (B' := W.heap.size) hw (Nat.le_refl _) hw.size)
  have HRs := Lib.hid (fun W (hw : Below w.heap.size w W) => hs.below (C := w.heap.size) (B' := W.heap.size) hw (Nat.le_refl _) hw.size)
  have SX := Lib.hid sx
  have SY := Lib.hid sy
  clear ht hr hs sx sy
  go_enter Tryd.func4, Tryd.ntmps4
  go_wp2_with (first
    | (refine wpList_load_row rfl 36 (.tmp 1) rfl (w.heap.size) (by rfl) 36 #[.int .u8 x.k, .int .u8 x.n, .int .u16 x.l, .int .u32 x.s, .int .u8 x.d, .int .u8 x.a0, .int .u8 x.a1, .int .u8 x.b0, .int .u8 x.b1, .int .u8 x.c0, .int .u8 x.c1, .int .u32 x.fl, .slice A X.length c, .int .u8 x.rc, .string x.rv, .slice B Y.length d, .int .u8 x.vn, .int .u16 x.vl] (0, 0) _ R0.out Tryd.underlying36 rfl (by kernel_rfl) ?_))
  refine (light5 x A B X Y c d (w.heap.size + 1) ((w.alloc (.cells #[.int .u8 x.k, .int .u8 x.n, .int .u16 x.l, .int .u32 x.s, .int .u8 x.d, .int .u8 x.a0, .int .u8 x.a1, .int .u8 x.b0, .int .u8 x.b1, .int .u8 x.c0, .int .u8 x.c1, .int .u32 x.fl, .slice A X.length c, .int .u8 x.rc, .string x.rv, .slice B Y.length d, .int .u8 x.vn, .int .u16 x.vl] 36)).alloc (.cells #[.int .u8 x.k, .int .u8 x.n, .int .u16 x.l, .int .u32 x.s, .int .u8 x.d, .int .u8 x.a0, .int .u8 x.a1, .int .u8 x.b0, .int .u8 x.b1, .int .u8 x.c0, .int .u8 x.c1, .int .u32 x.fl, .slice A X.length c, .int .u8 x.rc, .string x.rv, .slice B Y.length d, .int .u8 x.vn, .int .u16 x.vl] 36)) RB.out (HRr.out _ HA.out) (HRs.out _ HA.out) hc hm hd hn).mono ?_
  rintro e w1 ⟨⟨bo, rfl⟩, b1⟩
  have H1 := Lib.hid (HA.out.trans (b1.mono HA.out.size))
  have R1 := Lib.hid ((b1.block _ (Nat.lt_of_succ_lt LA.out)).trans RA.out)
  have L1 : Hid (w.heap.size < w1.heap.size) := Lib.hid (Nat.lt_of_lt_of_le (Nat.lt_of_succ_lt LA.out) b1.size)
  clear b1 R0 HA RA RB LA
  cases bo with
  | false =>
    go_wp2_with (go_at_call 6; refine (HK.out _ H1.out).mono ?_; rintro e w2 ⟨rfl, b2⟩; have H2 := Lib.hid (H1.out.trans (b2.mono H1.out.size)); clear b2)
    go_ret
    exact ⟨rfl, H2.out⟩
  | true =>
    go_wp2_with (first
      | (refine wpList_load_row rfl 36 (.tmp 1) rfl (w.heap.size) (by rfl) 36 #[.int .u8 x.k, .int .u8 x.n, .int .u16 x.l, .int .u32 x.s, .int .u8 x.d, .int .u8 x.a0, .int .u8 x.a1, .int .u8 x.b0, .int .u8 x.b1, .int .u8 x.c0, .int .u8 x.c1, .int .u32 x.fl, .slice A X.length c, .int .u8 x.rc, .string x.rv, .slice B Y.length d, .int .u8 x.vn, .int .u16 x.vl] (0, 0) _ R1.out Tryd.underlying36 rfl (by kernel_rfl) ?_)
      | (go_at_call 7; refine (own5 x A B X Y c d w1 (HRr.out _ H1.out) (HRs.out _ H1.out) hX hY hc hm hd hn).mono ?_
         rintro e w2 ⟨A2, c2, B2, d2, m, rfl, OP2, OQ2, hlt2, hm2, b2⟩
         have H2 := Lib.hid (H1.out.trans (b2.mono H1.out.size))
         have R2 := Lib.hid ((b2.block _ L1.out).trans R1.out)
         have L2 := Lib.hid (Nat.lt_of_lt_of_le L1.out b2.size)
         have P2 := Lib.hid OP2
         have Q2 := Lib.hid OQ2
         have M2 := Lib.hid hlt2
         have N2 := Lib.hid hm2
         have H2a : Hid (Below w.heap.size w (w2.alloc (.cells #[.int .u8 x.k, .int .u8 x.n, .int .u16 x.l, .int .u32 x.s, .int .u8 x.d, .int .u8 x.a0, .int .u8 x.a1, .int .u8 x.b0, .int .u8 x.b1, .int .u8 x.c0, .int .u8 x.c1, .int .u32 x.fl, .slice A2 X.length c2, .int .u8 x.rc, .string x.rv, .slice B2 Y.length d2, .int .u8 x.vn, .int .u16 x.vl] 49))) := Lib.hid (H2.out.alloc (Nat.le_of_lt L2.out) _)
         have R2a : Hid ((w2.alloc (.cells #[.int .u8 x.k, .int .u8 x.n, .int .u16 x.l, .int .u32 x.s, .int .u8 x.d, .int .u8 x.a0, .int .u8 x.a1, .int .u8 x.b0, .int .u8 x.b1, .int .u8 x.c0, .int .u8 x.c1, .int .u32 x.fl, .slice A2 X.length c2, .int .u8 x.rc, .string x.rv, .slice B2 Y.length d2, .int .u8 x.vn, .int .u16 x.vl] 49)).heap[w2.heap.size]? = some (.cells #[.int .u8 x.k, .int .u8 x.n, .int .u16 x.l, .int .u32 x.s, .int .u8 x.d, .int .u8 x.a0, .int .u8 x.a1, .int .u8 x.b0, .int .u8 x.b1, .int .u8 x.c0, .int .u8 x.c1, .int .u32 x.fl, .slice A2 X.length c2, .int .u8 x.rc, .string x.rv, .slice B2 Y.length d2, .int .u8 x.vn, .int .u16 x.vl] 49 (0, 0))) := Lib.hid (heap_alloc_new w2 _)
         have b2a : Hid (Below w2.heap.size w2 (w2.alloc (.cells #[.int .u8 x.k, .int .u8 x.n, .int .u16 x.l, .int .u32 x.s, .int .u8 x.d, .int .u8 x.a0, .int .u8 x.a1, .int .u8 x.b0, .int .u8 x.b1, .int .u8 x.c0, .int .u8 x.c1, .int .u32 x.fl, .slice A2 X.length c2, .int .u8 x.rc, .string x.rv, .slice B2 Y.length d2, .int .u8 x.vn, .int .u16 x.vl] 49))) := Lib.hid ((Below.refl _ _).alloc (Nat.le_refl _) _)
         have L2a : Hid (w2.heap.size < (w2.alloc (.cells #[.int .u8 x.k, .int .u8 x.n, .int .u16 x.l, .int .u32 x.s, .int .u8 x.d, .int .u8 x.a0, .int .u8 x.a1, .int .u8 x.b0, .int .u8 x.b1, .int .u8 x.c0, .int .u8 x.c1, .int .u32 x.fl, .slice A2 X.length c2, .int .u8 x.rc, .string x.rv, .slice B2 Y.length d2, .int .u8 x.vn, .int .u16 x.vl] 49)).heap.size) := Lib.hid (by simp)
         clear OP2 OQ2 hlt2 hm2 b2)
      | (refine wpList_rn (w' := w2.alloc (.cells #[.int .u8 0, .int .u8 0, .int .u16 0, .int .u32 0, .int .u8 0, .int .u8 0, .int .u8 0, .int .u8 0, .int .u8 0, .int .u8 0, .int .u8 0, .int .u32 0, .slice none 0 0, .int .u8 0, .string { data := #[] }, .slice none 0 0, .int .u8 0, .int .u16 0] 49)) (v := .pointer (some ⟨w2.heap.size, 0, none⟩)) rfl 3 rfl (Op.alloc 49) rfl (by unfold bareO; go_simp) ?_; try simp only [Act.put, List.setIfInBounds_toArray, List.set_cons_zero, List.set_cons_succ])
      | (refine wpList_store_row rfl 49 (.tmp 3) (.tmp 13) rfl w2.heap.size #[.int .u8 x.k, .int .u8 x.n, .int .u16 x.l, .int .u32 x.s, .int .u8 x.d, .int .u8 x.a0, .int .u8 x.a1, .int .u8 x.b0, .int .u8 x.b1, .int .u8 x.c0, .int .u8 x.c1, .int .u32 x.fl, .slice A2 X.length c2, .int .u8 x.rc, .string x.rv, .slice B2 Y.length d2, .int .u8 x.vn, .int .u16 x.vl] (by rfl) (by rfl) 49 #[.int .u8 0, .int .u8 0, .int .u16 0, .int .u32 0, .int .u8 0, .int .u8 0, .int .u8 0, .int .u8 0, .int .u8 0, .int .u8 0, .int .u8 0, .int .u32 0, .slice none 0 0, .int .u8 0, .string { data := #[] }, .slice none 0 0, .int .u8 0, .int .u16 0] (heap_alloc_new w2 _) (by kernel_rfl) rfl (by simp [Value.oneCell']) ?_; rw [World.setRow_alloc_new])
      | (refine wpList_load_row rfl 49 (.tmp 3) rfl (w2.heap.size) (by rfl) 49 #[.int .u8 x.k, .int .u8 x.n, .int .u16 x.l, .int .u32 x.s, .int .u8 x.d, .int .u8 x.a0, .int .u8 x.a1, .int .u8 x.b0, .int .u8 x.b1, .int .u8 x.c0, .int .u8 x.c1, .int .u32 x.fl, .slice A2 X.length c2, .int .u8 x.rc, .string x.rv, .slice B2 Y.length d2, .int .u8 x.vn, .int .u16 x.vl] (0, 0) _ R2a.out Tryd.underlying49 rfl (by kernel_rfl) ?_)
      | (go_at_call 10
         obtain ⟨A2', c2', e2, rp2, lp2, mp2⟩ := rowsP_of_own (own_kept P2.out b2a.out)
         obtain ⟨B2', d2', f2, rq2, lq2, mq2⟩ := rowsW_of_own (own_kept Q2.out b2a.out)
         cases e2
         cases f2
         have RP2 := Lib.hid rp2
         have RQ2 := Lib.hid rq2
         have B2c := Lib.hid (And.intro lp2 (And.intro mp2 (And.intro lq2 mq2)))
         clear rp2 rq2 lp2 mp2 lq2 mq2
         refine (cloneE x A2 B2 X Y c2 d2 _ RP2.out RQ2.out hX hY B2c.out.1 B2c.out.2.1 B2c.out.2.2.1 B2c.out.2.2.2).mono ?_
         rintro e w3 ⟨A3, c3, B3, d3, rfl, OP3, OQ3, b3⟩
         have H3 := Lib.hid (H2a.out.trans (b3.mono H2a.out.size))
         have R3 := Lib.hid ((b3.block _ (Nat.lt_trans L2.out L2a.out)).trans (((b2a.out.mono (Nat.le_refl _)).block _ L2.out).trans R2.out))
         have X3 := Lib.hid ((b3.block _ L2a.out).trans R2a.out)
         have P3x := Lib.hid (own_kept (own_kept P2.out b2a.out) b3)
         have Q3x := Lib.hid (own_kept (own_kept Q2.out b2a.out) b3)
         have P3 := Lib.hid OP3
         have Q3 := Lib.hid OQ3
         have L3 := Lib.hid (Nat.lt_of_lt_of_le L2a.out b3.size)
         have b3a : Hid (Below w3.heap.size w3 (w3.alloc (.cells #[.int .u8 x.k, .int .u8 x.n, .int .u16 x.l, .int .u32 x.s, .int .u8 x.d, .int .u8 x.a0, .int .u8 x.a1, .int .u8 x.b0, .int .u8 x.b1, .int .u8 x.c0, .int .u8 x.c1, .int .u32 x.fl, .slice A3 X.length c3, .int .u8 x.rc, .string x.rv, .slice B3 Y.length d3, .int .u8 x.vn, .int .u16 x.vl] 49))) := Lib.hid ((Below.refl _ _).alloc (Nat.le_refl _) _)
         have H3a := Lib.hid (H3.out.trans (b3a.out.mono H3.out.size))
         have R3a := Lib.hid ((b3a.out.block _ (Nat.lt_trans L2.out L3.out)).trans R3.out)
         have X3a := Lib.hid ((b3a.out.block _ L3.out).trans X3.out)
         have C3a : Hid ((w3.alloc (.cells #[.int .u8 x.k, .int .u8 x.n, .int .u16 x.l, .int .u32 x.s, .int .u8 x.d, .int .u8 x.a0, .int .u8 x.a1, .int .u8 x.b0, .int .u8 x.b1, .int .u8 x.c0, .int .u8 x.c1, .int .u32 x.fl, .slice A3 X.length c3, .int .u8 x.rc, .string x.rv, .slice B3 Y.length d3, .int .u8 x.vn, .int .u16 x.vl] 49)).heap[w3.heap.size]? = some (.cells #[.int .u8 x.k, .int .u8 x.n, .int .u16 x.l, .int .u32 x.s, .int .u8 x.d, .int .u8 x.a0, .int .u8 x.a1, .int .u8 x.b0, .int .u8 x.b1, .int .u8 x.c0, .int .u8 x.c1, .int .u32 x.fl, .slice A3 X.length c3, .int .u8 x.rc, .string x.rv, .slice B3 Y.length d3, .int .u8 x.vn, .int .u16 x.vl] 49 (0, 0))) := Lib.hid (heap_alloc_new w3 _)
         have L3a : Hid (w3.heap.size < (w3.alloc (.cells #[.int .u8 x.k, .int .u8 x.n, .int .u16 x.l, .int .u32 x.s, .int .u8 x.d, .int .u8 x.a0, .int .u8 x.a1, .int .u8 x.b0, .int .u8 x.b1, .int .u8 x.c0, .int .u8 x.c1, .int .u32 x.fl, .slice A3 X.length c3, .int .u8 x.rc, .string x.rv, .slice B3 Y.length d3, .int .u8 x.vn, .int .u16 x.vl] 49)).heap.size) := Lib.hid (by simp)
         clear OP3 OQ3 b3)
      | (refine wpList_rn (w' := w3.alloc (.cells #[.int .u8 0, .int .u8 0, .int .u16 0, .int .u32 0, .int .u8 0, .int .u8 0, .int .u8 0, .int .u8 0, .int .u8 0, .int .u8 0, .int .u8 0, .int .u32 0, .slice none 0 0, .int .u8 0, .string { data := #[] }, .slice none 0 0, .int .u8 0, .int .u16 0] 49)) (v := .pointer (some ⟨w3.heap.size, 0, none⟩)) rfl 4 rfl (Op.alloc 49) rfl (by unfold bareO; go_simp) ?_; try simp only [Act.put, List.setIfInBounds_toArray, List.set_cons_zero, List.set_cons_succ])
      | (refine wpList_store_row rfl 49 (.tmp 4) (.tmp 15) rfl w3.heap.size #[.int .u8 x.k, .int .u8 x.n, .int .u16 x.l, .int .u32 x.s, .int .u8 x.d, .int .u8 x.a0, .int .u8 x.a1, .int .u8 x.b0, .int .u8 x.b1, .int .u8 x.c0, .int .u8 x.c1, .int .u32 x.fl, .slice A3 X.length c3, .int .u8 x.rc, .string x.rv, .slice B3 Y.length d3, .int .u8 x.vn, .int .u16 x.vl] (by rfl) (by rfl) 49 #[.int .u8 0, .int .u8 0, .int .u16 0, .int .u32 0, .int .u8 0, .int .u8 0, .int .u8 0, .int .u8 0, .int .u8 0, .int .u8 0, .int .u8 0, .int .u32 0, .slice none 0 0, .int .u8 0, .string { data := #[] }, .slice none 0 0, .int .u8 0, .int .u16 0] (heap_alloc_new w3 _) (by kernel_rfl) rfl (by simp [Value.oneCell']) ?_; rw [World.setRow_alloc_new])
      | (refine wpList_load_row rfl 49 (.tmp 3) rfl (w2.heap.size) (by rfl) 49 #[.int .u8 x.k, .int .u8 x.n, .int .u16 x.l, .int .u32 x.s, .int .u8 x.d, .int .u8 x.a0, .int .u8 x.a1, .int .u8 x.b0, .int .u8 x.b1, .int .u8 x.c0, .int .u8 x.c1, .int .u32 x.fl, .slice A2 X.length c2, .int .u8 x.rc, .string x.rv, .slice B2 Y.length d2, .int .u8 x.vn, .int .u16 x.vl] (0, 0) _ X3a.out Tryd.underlying49 rfl (by kernel_rfl) ?_)
      | (refine wpList_load_row rfl 49 (.tmp 4) rfl (w3.heap.size) (by rfl) 49 #[.int .u8 x.k, .int .u8 x.n, .int .u16 x.l, .int .u32 x.s, .int .u8 x.d, .int .u8 x.a0, .int .u8 x.a1, .int .u8 x.b0, .int .u8 x.b1, .int .u8 x.c0, .int .u8 x.c1, .int .u32 x.fl, .slice A3 X.length c3, .int .u8 x.rc, .string x.rv, .slice B3 Y.length d3, .int .u8 x.vn, .int .u16 x.vl] (0, 0) _ C3a.out Tryd.underlying49 rfl (by kernel_rfl) ?_)
      | (go_at_call 11
         obtain ⟨A3', c3', e3, rp3, lp3, mp3⟩ := rowsP_of_own (own_kept P3.out b3a.out)
         obtain ⟨B3', d3', f3, rq3, lq3, mq3⟩ := rowsW_of_own (own_kept Q3.out b3a.out)
         cases e3
         cases f3
         obtain ⟨A5', c5', e5, rp5, lp5, mp5⟩ := rowsP_of_own (own_kept P3x.out b3a.out)
         obtain ⟨B5', d5', f5, rq5, lq5, mq5⟩ := rowsW_of_own (own_kept Q3x.out b3a.out)
         cases e5
         cases f5
         refine (sameE x A2 B2 A3 B3 X Y c2 d2 c3 d3 _ rp5 rq5 rp3 rq3 lp5 mp5 lq5 mq5 lp3 mp3 lq3 mq3).mono ?_
         rintro e w4 ⟨rfl, b4⟩
         have H4 := Lib.hid (H3a.out.trans (b4.mono H3a.out.size))
         have E4 := Lib.hid ((b4.block _ (Nat.lt_trans L2.out (Nat.lt_trans L3.out L3a.out))).trans R3a.out)
         have X4 := Lib.hid ((b4.block _ (Nat.lt_trans L3.out L3a.out)).trans X3a.out)
         have C4 := Lib.hid ((b4.block _ L3a.out).trans C3a.out)
         have P4x := Lib.hid (own_kept (own_kept P3x.out b3a.out) b4)
         have Q4x := Lib.hid (own_kept (own_kept Q3x.out b3a.out) b4)
         have P4 := Lib.hid (own_kept (own_kept P3.out b3a.out) b4)
         have Q4 := Lib.hid (own_kept (own_kept Q3.out b3a.out) b4)
         have B3c := Lib.hid (And.intro lp3 (And.intro mp3 (And.intro lq3 mq3)))
         have B2d := Lib.hid (And.intro lp5 (And.intro mp5 (And.intro lq5 mq5)))
         clear rp3 rq3 lp3 mp3 lq3 mq3 rp5 rq5 lp5 mp5 lq5 mq5 b4))
    have I4 := Lib.hid (lp_parts P4x.out H4.out)
    have NX : Hid (∀ g, (Value.slice A2 X.length c2).ownBlock = some g → w.heap.size < g ∧ g < m ∧ g < w2.heap.size) := Lib.hid (fun g hg => ⟨Nat.lt_of_lt_of_le L1.out (own_lt P2.out g hg).1, M2.out g hg, (own_lt P2.out g hg).2⟩)
    have NY : Hid (∀ g, (Value.slice B2 Y.length d2).ownBlock = some g → m ≤ g ∧ w.heap.size < g ∧ g < w2.heap.size) := Lib.hid (fun g hg => ⟨(own_lt Q2.out g hg).1, Nat.lt_of_lt_of_le L1.out (Nat.le_trans N2.out (own_lt Q2.out g hg).1), (own_lt Q2.out g hg).2⟩)
    have L23 : Hid (w2.heap.size < w3.heap.size) := L3
    have hxi : (X.length : Int) ≤ 140737488355328 := by omega
    have hyi : (Y.length : Int) ≤ 140737488355328 := by omega
    go_loopw [5] (fun i wx => ∃ k : Nat, k ≤ X.length ∧ i = .int .i64 k ∧ Hid (Lp w w4 wx (.slice A2 X.length c2) 5 2 (X.map P5.key) k)) (fun i _ => X.length - (intOf i).toNat)
    case atStart => exact ⟨0, by omega, rfl, I4⟩
    case round =>
      clear I4
      obtain ⟨k, hk, rfl, I⟩ := hrel
      have xr : wr.cell? ⟨w2.heap.size, 12, none⟩ = some (.slice A2 X.length c2) :=
        (cell_of_row _ _ 12 _ _ _ ((I.out.same w2.heap.size (fun e => absurd (NX.out _ e).2.2 (Nat.lt_irrefl _))).trans X4.out)).trans rfl
      by_cases hlt : k < X.length
      · have ho : ∃ g, A2 = some ⟨g, 0, none⟩ ∧ X.length ≤ c2 ∧ c2 ≤ maxLen := by
          obtain ⟨g, e1, _, e2, e3⟩ := own_some P4x.out (Nat.lt_of_le_of_lt (Nat.zero_le _) hlt)
          exact ⟨g, e1, e2, e3⟩
        obtain ⟨g, rfl, hn1, hn2⟩ := ho
        have kc : wr.cell? ⟨g, k * 5 + 2, none⟩ = some (.string X[k].key) := I.out.cell g rfl k _ (Nat.le_refl _) (by rw [List.getElem?_map, List.getElem?_eq_getElem hlt]; rfl)
        have sk := SX.out _ (List.getElem_mem hlt)
        have ff := I.out.fro g rfl
        generalize X[k].key = key at *
        have hji : (k : Int) < (X.length : Int) := by omega
        have hj0 : (0 : Int) ≤ (k : Int) := by omega
        have hci : (X.length : Int) ≤ (c2 : Int) := by omega
        go_wp2
        go_region
        go_wp2
        go_roundw
        case rel => exact ⟨k + 1, by omega, by go_num, Lib.hid (I.out.step rfl (Nat.le_of_lt (NX.out g rfl).1) (by decide) _)⟩
        case measure => simp [intOf]; omega
      · have hkk : k = X.length := by omega
        subst hkk
        have J4 := Lib.hid (lp_writes (own_same Q4x.out (fun g hg => I.out.same g (fun e => by have := (NX.out g e).2.1; have := (NY.out g hg).1; omega))) I.out.below)
        go_wp2
        generalize wr = wo at *
        go_loopw [6] (fun i wx => ∃ k : Nat, k ≤ Y.length ∧ i = .int .i64 k ∧ Hid (Lp w wo wx (.slice B2 Y.length d2) 3 1 (Y.map W3.val) k)) (fun i _ => Y.length - (intOf i).toNat)
        case atStart => exact ⟨0, by omega, rfl, J4⟩
        case round =>
          clear J4 xr
          obtain ⟨k, hk, rfl, J⟩ := hrel
          have yr : wr.cell? ⟨w2.heap.size, 15, none⟩ = some (.slice B2 Y.length d2) :=
            (cell_of_row _ _ 15 _ _ _ ((J.out.same w2.heap.size (fun e => absurd (NY.out _ e).2.2 (Nat.lt_irrefl _))).trans ((I.out.same w2.heap.size (fun e => absurd (NX.out _ e).2.2 (Nat.lt_irrefl _))).trans X4.out))).trans rfl
          by_cases hlt : k < Y.length
          · have ho : ∃ g, B2 = some ⟨g, 0, none⟩ ∧ Y.length ≤ d2 ∧ d2 ≤ maxLen := by
              obtain ⟨g, e1, _, e2, e3⟩ := own_some Q4x.out (Nat.lt_of_le_of_lt (Nat.zero_le _) hlt)
              exact ⟨g, e1, e2, e3⟩
            obtain ⟨g, rfl, hn1, hn2⟩ := ho
            have kc : wr.cell? ⟨g, k * 3 + 1, none⟩ = some (.string Y[k].val) := J.out.cell g rfl k _ (Nat.le_refl _) (by rw [List.getElem?_map, List.getElem?_eq_getElem hlt]; rfl)
            have sk := SY.out _ (List.getElem_mem hlt)
            have ff := J.out.fro g rfl
            generalize Y[k].val = key at *
            have hji : (k : Int) < (Y.length : Int) := by omega
            have hj0 : (0 : Int) ≤ (k : Int) := by omega
            have hci : (Y.length : Int) ≤ (d2 : Int) := by omega
            go_wp2
            go_region
            go_wp2
            go_roundw
            case rel => exact ⟨k + 1, by omega, by go_num, Lib.hid (J.out.step rfl (Nat.le_of_lt (NY.out g rfl).2.1) (by decide) _)⟩
            case measure => simp [intOf]; omega
          · have hkk : k = Y.length := by omega
            subst hkk
            have far : ∀ b, (b = w.heap.size ∨ w2.heap.size < b) → wr.heap[b]? = w4.heap[b]? := fun b hb =>
              (J.out.same b (fun e => by have := NY.out b e; omega)).trans (I.out.same b (fun e => by have := NX.out b e; omega))
            have H6 := Lib.hid J.out.below
            have E6 := Lib.hid ((far w.heap.size (.inl rfl)).trans E4.out)
            have C6 := Lib.hid ((far w3.heap.size (.inr L23.out)).trans C4.out)
            have P6 := Lib.hid (own_same P4.out (fun g hg => far g (.inr (Nat.lt_of_lt_of_le L2a.out (own_lt P3.out g hg).1))))
            have Q6 := Lib.hid (own_same Q4.out (fun g hg => far g (.inr (Nat.lt_of_lt_of_le L2a.out (own_lt Q3.out g hg).1))))
            clear far
            go_wp2
            have LC : Hid (w3.heap.size < wr.heap.size) := Lib.hid (by obtain ⟨h, _⟩ := Array.getElem?_eq_some_iff.1 C6.out; exact h)
            have LE : Hid (w.heap.size < wr.heap.size) := Lib.hid (by obtain ⟨h, _⟩ := Array.getElem?_eq_some_iff.1 E6.out; exact h)
            obtain ⟨A6, c6, e6, rp6, lp6, mp6⟩ := rowsP_of_own P6.out
            obtain ⟨B6, d6, f6, rq6, lq6, mq6⟩ := rowsW_of_own Q6.out
            cases e6
            cases f6
            have RP6 : Hid (RowsP wr.drew wr.drew.heap.size A3 X) := Lib.hid (rp6.keep (Nat.le_refl _) (fun _ _ _ => rfl))
            have RQ6 : Hid (RowsW wr.drew wr.drew.heap.size B3 Y) := Lib.hid (rq6.keep (Nat.le_refl _) (fun _ _ _ => rfl))
            have B6c := Lib.hid (And.intro lp6 (And.intro mp6 (And.intro lq6 mq6)))
            clear rp6 rq6 lp6 mp6 lq6 mq6 yr
            refine region_heldT (S := fun W => W.heap[w3.heap.size]? = some (.cells #[.int .u8 x.k, .int .u8 x.n, .int .u16 x.l, .int .u32 x.s, .int .u8 x.d, .int .u8 x.a0, .int .u8 x.a1, .int .u8 x.b0, .int .u8 x.b1, .int .u8 x.c0, .int .u8 x.c1, .int .u32 x.fl, .slice A3 X.length c3, .int .u8 x.rc, .string x.rv, .slice B3 Y.length d3, .int .u8 x.vn, .int .u16 x.vl] 49 (0, 0)) ∧ W.heap[w.heap.size]? = some (.cells #[.int .u8 x.k, .int .u8 x.n, .int .u16 x.l, .int .u32 x.s, .int .u8 x.d, .int .u8 x.a0, .int .u8 x.a1, .int .u8 x.b0, .int .u8 x.b1, .int .u8 x.c0, .int .u8 x.c1, .int .u32 x.fl, .slice A X.length c, .int .u8 x.rc, .string x.rv, .slice B Y.length d, .int .u8 x.vn, .int .u16 x.vl] 36 (0, 0))) 3 (by kernel_rfl) (by decide) (fun inv => ?_)
            change FirstH _ _ _ _ _ _ _ _ _ _ wr.drew
            have HS : wr.drew.heap[w3.heap.size]? = some (.cells #[.int .u8 x.k, .int .u8 x.n, .int .u16 x.l, .int .u32 x.s, .int .u8 x.d, .int .u8 x.a0, .int .u8 x.a1, .int .u8 x.b0, .int .u8 x.b1, .int .u8 x.c0, .int .u8 x.c1, .int .u32 x.fl, .slice A3 X.length c3, .int .u8 x.rc, .string x.rv, .slice B3 Y.length d3, .int .u8 x.vn, .int .u16 x.vl] 49 (0, 0)) ∧ wr.drew.heap[w.heap.size]? = some (.cells #[.int .u8 x.k, .int .u8 x.n, .int .u16 x.l, .int .u32 x.s, .int .u8 x.d, .int .u8 x.a0, .int .u8 x.a1, .int .u8 x.b0, .int .u8 x.b1, .int .u8 x.c0, .int .u8 x.c1, .int .u32 x.fl, .slice A X.length c, .int .u8 x.rc, .string x.rv, .slice B Y.length d, .int .u8 x.vn, .int .u16 x.vl] 36 (0, 0)) := ⟨C6.out, E6.out⟩
            refine FirstH.go (i := 0) (v := .agg #[.int .u8 x.k, .int .u8 x.n, .int .u16 x.l, .int .u32 x.s, .int .u8 x.d, .int .u8 x.a0, .int .u8 x.a1, .int .u8 x.b0, .int .u8 x.b1, .int .u8 x.c0, .int .u8 x.c1, .int .u32 x.fl, .slice A3 X.length c3, .int .u8 x.rc, .string x.rv, .slice B3 Y.length d3, .int .u8 x.vn, .int .u16 x.vl]) rfl rfl 58 rfl (Op.load 49 (.tmp 4)) rfl (by kernel_rfl) (fun _ _ _ h => h) inv (fun W hS => run_load_row 49 _ (.tmp 4) w3.heap.size (by rfl) 49 #[.int .u8 x.k, .int .u8 x.n, .int .u16 x.l, .int .u32 x.s, .int .u8 x.d, .int .u8 x.a0, .int .u8 x.a1, .int .u8 x.b0, .int .u8 x.b1, .int .u8 x.c0, .int .u8 x.c1, .int .u32 x.fl, .slice A3 X.length c3, .int .u8 x.rc, .string x.rv, .slice B3 Y.length d3, .int .u8 x.vn, .int .u16 x.vl] (0, 0) _ hS.1 Tryd.underlying49 rfl (by kernel_rfl)) HS (fun inv => ?_)
            try simp only [Act.put, List.setIfInBounds_toArray, List.set_cons_zero, List.set_cons_succ]
            refine FirstH.go (i := 2) (v := .agg #[.int .u8 x.k, .int .u8 x.n, .int .u16 x.l, .int .u32 x.s, .int .u8 x.d, .int .u8 x.a0, .int .u8 x.a1, .int .u8 x.b0, .int .u8 x.b1, .int .u8 x.c0, .int .u8 x.c1, .int .u32 x.fl, .slice A X.length c, .int .u8 x.rc, .string x.rv, .slice B Y.length d, .int .u8 x.vn, .int .u16 x.vl]) rfl rfl 60 rfl (Op.load 36 (.tmp 1)) rfl (by kernel_rfl) (fun _ _ _ h => h) inv (fun W hS => run_load_row 36 _ (.tmp 1) w.heap.size (by rfl) 36 #[.int .u8 x.k, .int .u8 x.n, .int .u16 x.l, .int .u32 x.s, .int .u8 x.d, .int .u8 x.a0, .int .u8 x.a1, .int .u8 x.b0, .int .u8 x.b1, .int .u8 x.c0, .int .u8 x.c1, .int .u32 x.fl, .slice A X.length c, .int .u8 x.rc, .string x.rv, .slice B Y.length d, .int .u8 x.vn, .int .u16 x.vl] (0, 0) _ hS.2 Tryd.underlying36 rfl (by kernel_rfl)) HS (fun inv => ?_)
            try simp only [Act.put, List.setIfInBounds_toArray, List.set_cons_zero, List.set_cons_succ]
            clear HS
            refine FirstH.only (i := 1) (by kernel_rfl) (by decide) inv (fun inv => wpOp_call (i := 1) rfl rfl 59 rfl (Op.call { callee := .value (.func 13), args := #[.tmp 58], argTypes := #[49] }) rfl 13 #[.agg #[.int .u8 x.k, .int .u8 x.n, .int .u16 x.l, .int .u32 x.s, .int .u8 x.d, .int .u8 x.a0, .int .u8 x.a1, .int .u8 x.b0, .int .u8 x.b1, .int .u8 x.c0, .int .u8 x.c1, .int .u32 x.fl, .slice A3 X.length c3, .int .u8 x.rc, .string x.rv, .slice B3 Y.length d3, .int .u8 x.vn, .int .u16 x.vl]] (by unfold bareO; go_simp) (ref5 x A3 B3 X Y c3 d3 wr.drew RP6.out RQ6.out hX hY B6c.out.1 B6c.out.2.1 B6c.out.2.2.1 B6c.out.2.2.2) ?_)
            rintro e w7 ⟨A7, c7, B7, d7, m7, rfl, OP7, OQ7, -, -, b7⟩
            have H7 := Lib.hid (H6.out.drew.trans (b7.mono H6.out.size))
            have S7 : w7.heap[w3.heap.size]? = some (.cells #[.int .u8 x.k, .int .u8 x.n, .int .u16 x.l, .int .u32 x.s, .int .u8 x.d, .int .u8 x.a0, .int .u8 x.a1, .int .u8 x.b0, .int .u8 x.b1, .int .u8 x.c0, .int .u8 x.c1, .int .u32 x.fl, .slice A3 X.length c3, .int .u8 x.rc, .string x.rv, .slice B3 Y.length d3, .int .u8 x.vn, .int .u16 x.vl] 49 (0, 0)) ∧ w7.heap[w.heap.size]? = some (.cells #[.int .u8 x.k, .int .u8 x.n, .int .u16 x.l, .int .u32 x.s, .int .u8 x.d, .int .u8 x.a0, .int .u8 x.a1, .int .u8 x.b0, .int .u8 x.b1, .int .u8 x.c0, .int .u8 x.c1, .int .u32 x.fl, .slice A X.length c, .int .u8 x.rc, .string x.rv, .slice B Y.length d, .int .u8 x.vn, .int .u16 x.vl] 36 (0, 0)) := ⟨(b7.block _ LC.out).trans C6.out, (b7.block _ LE.out).trans E6.out⟩
            obtain ⟨A8, c8, e8, rp8, lp8, mp8⟩ := rowsP_of_own OP7
            obtain ⟨B8, d8, f8, rq8, lq8, mq8⟩ := rowsW_of_own OQ7
            cases e8
            cases f8
            have RP8 := Lib.hid rp8
            have RQ8 := Lib.hid rq8
            have B8c := Lib.hid (And.intro lp8 (And.intro mp8 (And.intro lq8 mq8)))
            clear rp8 rq8 lp8 mp8 lq8 mq8 OP7 OQ7 b7
            refine ⟨_, rfl, S7, ?_⟩
            clear S7
            try simp only [Act.put, List.setIfInBounds_toArray, List.set_cons_zero, List.set_cons_succ]
            refine ⟨by kernel_rfl, ?_⟩
            simp only [List.drop_succ_cons, List.drop_zero]
            go_wp2_with (first
              | (go_at_call 12; refine (rsameE x A7 B7 A B X Y c7 d7 c d w7 RP8.out RQ8.out (HRr.out _ H7.out) (HRs.out _ H7.out) B8c.out.1 B8c.out.2.1 B8c.out.2.2.1 B8c.out.2.2.2 hc hm hd hn).mono ?_
                 rintro e w8 ⟨rfl, b8⟩
                 have H8 := Lib.hid (H7.out.trans (b8.mono H7.out.size))
                 clear b8)
              | (go_at_call 6; refine (HK.out _ H8.out).mono ?_
                 rintro e w9 ⟨rfl, b9⟩
                 have H9 := Lib.hid (H8.out.trans (b9.mono H8.out.size))
                 clear b9))
            go_ret
            exact ⟨rfl, H9.out⟩

end Go.Proofs.YtnkimbmnnhnanaaDoor
