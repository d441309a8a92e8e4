/-
  The walk of the law EntryRights. Conditions: the lists lie in memory and take at most 2^47 bytes each, each number fits its kind; the table of the powers of ten is as its text lays it.
-/
import Derived.Test.YtnkimbmnnhnanaaDoorEkk
import Derived.Test.YtnkimbmnnhnanaaDoorElt
import Derived.Test.YtnkimbmnnhnanaaDoorElp
import Derived.Test.YtnkimbmnnhnanaaDoorEru
namespace Go.Proofs.YtnkimbmnnhnanaaDoor
set_option linter.unusedSimpArgs false
set_option linter.unusedVariables false
open Go.RowKit Go.Sort

set_option maxRecDepth 100000 in
set_option maxHeartbeats 1000000 in
theorem walkRights5 (x : E18) (A B : Option Addr) (X : List P5) (Y : List W3) (c d : Nat) (g : Int) (w : World) (B0 : Nat) (ht : Okw B0 w) (hr : RowsP w w.heap.size A X) (hs : RowsW w w.heap.size B Y) (hX : X.length * 48 ≤ 140737488355328) (hY : Y.length * 40 ≤ 140737488355328) (hc : X.length ≤ c) (hm : c ≤ maxLen) (hd : Y.length ≤ d) (hn : d ≤ maxLen) (rX : ∀ x ∈ X, x.Rng) (hx : x.Rng) (hg : 0 ≤ g ∧ g ≤ 255) :
    Calls Tryd.prog 3 #[.agg #[.int .u8 x.k, .int .u8 x.n, .int .u16 x.l, .int .u32 x.s, .int .u8 x.d, .int .u8 x.a0, .int .u8 x.a1, .int .u8 x.b0, .int .u8 x.b1, .int .u8 x.c0, .int .u8 x.c1, .int .u32 x.fl, .slice A X.length c, .int .u8 x.rc, .string x.rv, .slice B Y.length d, .int .u8 x.vn, .int .u16 x.vl], .int .u8 g] w fun e w' => e = .returned (.bool true) ∧ Below w.heap.size w w' := by
  have R0 : Hid ((w.alloc (.cells #[.int .u8 x.k, .int .u8 x.n, .int .u16 x.l, .int .u32 x.s, .int .u8 x.d, .int .u8 x.a0, .int .u8 x.a1, .int .u8 x.b0, .int .u8 x.b1, .int .u8 x.c0, .int .u8 x.c1, .int .u32 x.fl, .slice A X.length c, .int .u8 x.rc, .string x.rv, .slice B Y.length d, .int .u8 x.vn, .int .u16 x.vl] 36)).heap[w.heap.size]? = some (.cells #[.int .u8 x.k, .int .u8 x.n, .int .u16 x.l, .int .u32 x.s, .int .u8 x.d, .int .u8 x.a0, .int .u8 x.a1, .int .u8 x.b0, .int .u8 x.b1, .int .u8 x.c0, .int .u8 x.c1, .int .u32 x.fl, .slice A X.length c, .int .u8 x.rc, .string x.rv, .slice B Y.length d, .int .u8 x.vn, .int .u16 x.vl] 36 (0, 0))) := Lib.hid (heap_alloc_new w _)
  have HA : Hid (Below w.heap.size w ((w.alloc (.cells #[.int .u8 x.k, .int .u8 x.n, .int .u16 x.l, .int .u32 x.s, .int .u8 x.d, .int .u8 x.a0, .int .u8 x.a1, .int .u8 x.b0, .int .u8 x.b1, .int .u8 x.c0, .int .u8 x.c1, .int .u32 x.fl, .slice A X.length c, .int .u8 x.rc, .string x.rv, .slice B Y.length d, .int .u8 x.vn, .int .u16 x.vl] 36)).alloc (.cells #[.int .u8 x.k, .int .u8 x.n, .int .u16 x.l, .int .u32 x.s, .int .u8 x.d, .int .u8 x.a0, .int .u8 x.a1, .int .u8 x.b0, .int .u8 x.b1, .int .u8 x.c0, .int .u8 x.c1, .int .u32 x.fl, .slice A X.length c, .int .u8 x.rc, .string x.rv, .slice B Y.length d, .int .u8 x.vn, .int .u16 x.vl] 36))) := Lib.hid (two_below _ _ _ _ _)
  have RA : Hid (((w.alloc (.cells #[.int .u8 x.k, .int .u8 x.n, .int .u16 x.l, .int .u32 x.s, .int .u8 x.d, .int .u8 x.a0, .int .u8 x.a1, .int .u8 x.b0, .int .u8 x.b1, .int .u8 x.c0, .int .u8 x.c1, .int .u32 x.fl, .slice A X.length c, .int .u8 x.rc, .string x.rv, .slice B Y.length d, .int .u8 x.vn, .int .u16 x.vl] 36)).alloc (.cells #[.int .u8 x.k, .int .u8 x.n, .int .u16 x.l, .int .u32 x.s, .int .u8 x.d, .int .u8 x.a0, .int .u8 x.a1, .int .u8 x.b0, .int .u8 x.b1, .int .u8 x.c0, .int .u8 x.c1, .int .u32 x.fl, .slice A X.length c, .int .u8 x.rc, .string x.rv, .slice B Y.length d, .int .u8 x.vn, .int .u16 x.vl] 36)).heap[w.heap.size]? = some (.cells #[.int .u8 x.k, .int .u8 x.n, .int .u16 x.l, .int .u32 x.s, .int .u8 x.d, .int .u8 x.a0, .int .u8 x.a1, .int .u8 x.b0, .int .u8 x.b1, .int .u8 x.c0, .int .u8 x.c1, .int .u32 x.fl, .slice A X.length c, .int .u8 x.rc, .string x.rv, .slice B Y.length d, .int .u8 x.vn, .int .u16 x.vl] 36 (0, 0))) := Lib.hid (rowA _ _ _ _ _)
  have RB : Hid (((w.alloc (.cells #[.int .u8 x.k, .int .u8 x.n, .int .u16 x.l, .int .u32 x.s, .int .u8 x.d, .int .u8 x.a0, .int .u8 x.a1, .int .u8 x.b0, .int .u8 x.b1, .int .u8 x.c0, .int .u8 x.c1, .int .u32 x.fl, .slice A X.length c, .int .u8 x.rc, .string x.rv, .slice B Y.length d, .int .u8 x.vn, .int .u16 x.vl] 36)).alloc (.cells #[.int .u8 x.k, .int .u8 x.n, .int .u16 x.l, .int .u32 x.s, .int .u8 x.d, .int .u8 x.a0, .int .u8 x.a1, .int .u8 x.b0, .int .u8 x.b1, .int .u8 x.c0, .int .u8 x.c1, .int .u32 x.fl, .slice A X.length c, .int .u8 x.rc, .string x.rv, .slice B Y.length d, .int .u8 x.vn, .int .u16 x.vl] 36)).heap[w.heap.size + 1]? = some (.cells #[.int .u8 x.k, .int .u8 x.n, .int .u16 x.l, .int .u32 x.s, .int .u8 x.d, .int .u8 x.a0, .int .u8 x.a1, .int .u8 x.b0, .int .u8 x.b1, .int .u8 x.c0, .int .u8 x.c1, .int .u32 x.fl, .slice A X.length c, .int .u8 x.rc, .string x.rv, .slice B Y.length d, .int .u8 x.vn, .int .u16 x.vl] 36 (0, 0))) := Lib.hid (rowB _ _ _ _ _)
  have LA : Hid (w.heap.size + 1 < ((w.alloc (.cells #[.int .u8 x.k, .int .u8 x.n, .int .u16 x.l, .int .u32 x.s, .int .u8 x.d, .int .u8 x.a0, .int .u8 x.a1, .int .u8 x.b0, .int .u8 x.b1, .int .u8 x.c0, .int .u8 x.c1, .int .u32 x.fl, .slice A X.length c, .int .u8 x.rc, .string x.rv, .slice B Y.length d, .int .u8 x.vn, .int .u16 x.vl] 36)).alloc (.cells #[.int .u8 x.k, .int .u8 x.n, .int .u16 x.l, .int .u32 x.s, .int .u8 x.d, .int .u8 x.a0, .int .u8 x.a1, .int .u8 x.b0, .int .u8 x.b1, .int .u8 x.c0, .int .u8 x.c1, .int .u32 x.fl, .slice A X.length c, .int .u8 x.rc, .string x.rv, .slice B Y.length d, .int .u8 x.vn, .int .u16 x.vl] 36)).heap.size) := Lib.hid (by simp)
  have HK := Lib.hid (fun W (hb : Below w.heap.size w W) => knows5 W B0 (ht.on hb))
  have HRr := Lib.hid (fun W (hw : Below w.heap.size w W) => hr.below (C := w.heap.size) (B' := W.heap.size) hw (Nat.le_refl _) hw.size)
  have HRs := Lib.hid (fun W (hw : Below w.heap.size w W) => hs.below (C := w.heap.size) (B' := W.heap.size) hw (Nat.le_refl _) hw.size)
  have RX := Lib.hid rX
  have HX := Lib.hid hx
  have HG := Lib.hid hg
  clear ht hr hs rX hx hg
  go_enter Tryd.func3, Tryd.ntmps3
  go_wp2_with (first
    | (have R0x := R0.out; refine wpList_load_row rfl 36 (.tmp 2) rfl (w.heap.size) (by rfl) 36 #[.int .u8 x.k, .int .u8 x.n, .int .u16 x.l, .int .u32 x.s, .int .u8 x.d, .int .u8 x.a0, .int .u8 x.a1, .int .u8 x.b0, .int .u8 x.b1, .int .u8 x.c0, .int .u8 x.c1, .int .u32 x.fl, .slice A X.length c, .int .u8 x.rc, .string x.rv, .slice B Y.length d, .int .u8 x.vn, .int .u16 x.vl] (0, 0) _ R0x Tryd.underlying36 rfl (by kernel_rfl) ?_; clear R0x))
  refine (light5 x A B X Y c d (w.heap.size + 1) ((w.alloc (.cells #[.int .u8 x.k, .int .u8 x.n, .int .u16 x.l, .int .u32 x.s, .int .u8 x.d, .int .u8 x.a0, .int .u8 x.a1, .int .u8 x.b0, .int .u8 x.b1, .int .u8 x.c0, .int .u8 x.c1, .int .u32 x.fl, .slice A X.length c, .int .u8 x.rc, .string x.rv, .slice B Y.length d, .int .u8 x.vn, .int .u16 x.vl] 36)).alloc (.cells #[.int .u8 x.k, .int .u8 x.n, .int .u16 x.l, .int .u32 x.s, .int .u8 x.d, .int .u8 x.a0, .int .u8 x.a1, .int .u8 x.b0, .int .u8 x.b1, .int .u8 x.c0, .int .u8 x.c1, .int .u32 x.fl, .slice A X.length c, .int .u8 x.rc, .string x.rv, .slice B Y.length d, .int .u8 x.vn, .int .u16 x.vl] 36)) RB.out (HRr.out _ HA.out) (HRs.out _ HA.out) hc hm hd hn).mono ?_
  rintro e w1 ⟨⟨bo, rfl⟩, b1⟩
  have H1 := Lib.hid (HA.out.trans (b1.mono HA.out.size))
  have R1 := Lib.hid ((b1.block _ (Nat.lt_of_succ_lt LA.out)).trans RA.out)
  have L1 : Hid (w.heap.size < w1.heap.size) := Lib.hid (Nat.lt_of_lt_of_le (Nat.lt_of_succ_lt LA.out) b1.size)
  clear b1 R0 HA RA RB LA
  cases bo with
  | false =>
    go_wp2_with (go_at_call 6; refine (HK.out _ H1.out).mono ?_; rintro e w2 ⟨rfl, b2⟩; have H2 := Lib.hid (H1.out.trans (b2.mono H1.out.size)); clear b2)
    go_ret
    exact ⟨rfl, H2.out⟩
  | true =>
    go_wp2
    have H1d : Hid (Below w.heap.size w w1.drew) := Lib.hid H1.out.drew
    refine region_heldT (S := fun W => W.heap[w.heap.size]? = some (.cells #[.int .u8 x.k, .int .u8 x.n, .int .u16 x.l, .int .u32 x.s, .int .u8 x.d, .int .u8 x.a0, .int .u8 x.a1, .int .u8 x.b0, .int .u8 x.b1, .int .u8 x.c0, .int .u8 x.c1, .int .u32 x.fl, .slice A X.length c, .int .u8 x.rc, .string x.rv, .slice B Y.length d, .int .u8 x.vn, .int .u16 x.vl] 36 (0, 0))) 7 (by kernel_rfl) (by decide) (fun inv => ?_)
    change FirstH _ _ _ _ _ _ _ _ _ _ w1.drew
    have R1d : Hid (w1.drew.heap[w.heap.size]? = some (.cells #[.int .u8 x.k, .int .u8 x.n, .int .u16 x.l, .int .u32 x.s, .int .u8 x.d, .int .u8 x.a0, .int .u8 x.a1, .int .u8 x.b0, .int .u8 x.b1, .int .u8 x.c0, .int .u8 x.c1, .int .u32 x.fl, .slice A X.length c, .int .u8 x.rc, .string x.rv, .slice B Y.length d, .int .u8 x.vn, .int .u16 x.vl] 36 (0, 0))) := R1
    have L1d : Hid (w.heap.size < w1.drew.heap.size) := L1
    generalize w1.drew = wd at *
    clear H1 R1 L1
    have HS := R1d.out
    refine FirstH.go (i := 0) (v := .agg #[.int .u8 x.k, .int .u8 x.n, .int .u16 x.l, .int .u32 x.s, .int .u8 x.d, .int .u8 x.a0, .int .u8 x.a1, .int .u8 x.b0, .int .u8 x.b1, .int .u8 x.c0, .int .u8 x.c1, .int .u32 x.fl, .slice A X.length c, .int .u8 x.rc, .string x.rv, .slice B Y.length d, .int .u8 x.vn, .int .u16 x.vl]) rfl rfl 10 rfl (Op.load 36 (.tmp 2)) rfl (by kernel_rfl) (fun _ _ _ h => h) inv (fun W hS => run_load_row 36 _ (.tmp 2) w.heap.size (by rfl) 36 #[.int .u8 x.k, .int .u8 x.n, .int .u16 x.l, .int .u32 x.s, .int .u8 x.d, .int .u8 x.a0, .int .u8 x.a1, .int .u8 x.b0, .int .u8 x.b1, .int .u8 x.c0, .int .u8 x.c1, .int .u32 x.fl, .slice A X.length c, .int .u8 x.rc, .string x.rv, .slice B Y.length d, .int .u8 x.vn, .int .u16 x.vl] (0, 0) _ hS Tryd.underlying36 rfl (by kernel_rfl)) HS (fun inv => ?_)
    try simp only [Act.put, List.setIfInBounds_toArray, List.set_cons_zero, List.set_cons_succ]
    refine FirstH.go (i := 2) (v := .int .u8 g) rfl rfl 12 rfl (Op.move (.tmp 1)) rfl (by kernel_rfl) (fun _ _ _ h => h) inv (fun W _ => by unfold bareO; go_simp) HS (fun inv => ?_)
    try simp only [Act.put, List.setIfInBounds_toArray, List.set_cons_zero, List.set_cons_succ]
    refine FirstH.go (i := 4) (v := .agg #[.int .u8 x.k, .int .u8 x.n, .int .u16 x.l, .int .u32 x.s, .int .u8 x.d, .int .u8 x.a0, .int .u8 x.a1, .int .u8 x.b0, .int .u8 x.b1, .int .u8 x.c0, .int .u8 x.c1, .int .u32 x.fl, .slice A X.length c, .int .u8 x.rc, .string x.rv, .slice B Y.length d, .int .u8 x.vn, .int .u16 x.vl]) rfl rfl 14 rfl (Op.load 36 (.tmp 2)) rfl (by kernel_rfl) (fun _ _ _ h => h) inv (fun W hS => run_load_row 36 _ (.tmp 2) w.heap.size (by rfl) 36 #[.int .u8 x.k, .int .u8 x.n, .int .u16 x.l, .int .u32 x.s, .int .u8 x.d, .int .u8 x.a0, .int .u8 x.a1, .int .u8 x.b0, .int .u8 x.b1, .int .u8 x.c0, .int .u8 x.c1, .int .u32 x.fl, .slice A X.length c, .int .u8 x.rc, .string x.rv, .slice B Y.length d, .int .u8 x.vn, .int .u16 x.vl] (0, 0) _ hS Tryd.underlying36 rfl (by kernel_rfl)) HS (fun inv => ?_)
    try simp only [Act.put, List.setIfInBounds_toArray, List.set_cons_zero, List.set_cons_succ]
    refine FirstH.go (i := 5) (v := .int .u8 g) rfl rfl 15 rfl (Op.move (.tmp 1)) rfl (by kernel_rfl) (fun _ _ _ h => h) inv (fun W _ => by unfold bareO; go_simp) HS (fun inv => ?_)
    try simp only [Act.put, List.setIfInBounds_toArray, List.set_cons_zero, List.set_cons_succ]
    clear HS
    refine FirstH.only (i := 1) (by kernel_rfl) (by decide) inv (fun inv => wpOp_call (i := 1) rfl rfl 11 rfl (Op.call { callee := .value (.func 7), args := #[.tmp 10], argTypes := #[36] }) rfl 7 #[.agg #[.int .u8 x.k, .int .u8 x.n, .int .u16 x.l, .int .u32 x.s, .int .u8 x.d, .int .u8 x.a0, .int .u8 x.a1, .int .u8 x.b0, .int .u8 x.b1, .int .u8 x.c0, .int .u8 x.c1, .int .u32 x.fl, .slice A X.length c, .int .u8 x.rc, .string x.rv, .slice B Y.length d, .int .u8 x.vn, .int .u16 x.vl]] (by unfold bareO; go_simp) (own5 x A B X Y c d wd (HRr.out _ H1d.out) (HRs.out _ H1d.out) hX hY hc hm hd hn) ?_)
    rintro e w2 ⟨A2, c2, B2, d2, m, rfl, OP2, OQ2, hlt2, hm2, b2⟩
    have H2 := Lib.hid (H1d.out.trans (b2.mono H1d.out.size))
    have R2 := Lib.hid ((b2.block _ L1d.out).trans R1d.out)
    have L2 : Hid (w.heap.size < w2.heap.size) := Lib.hid (Nat.lt_of_lt_of_le L1d.out b2.size)
    obtain ⟨A2', c2', e2, rp2, lp2, mp2⟩ := rowsP_of_own OP2
    obtain ⟨B2', d2', f2, rq2, lq2, mq2⟩ := rowsW_of_own OQ2
    cases e2
    cases f2
    clear OP2 OQ2 hlt2 hm2 b2
    have HS := R2.out
    refine ⟨_, rfl, HS, ?_⟩
    try simp only [Act.put, List.setIfInBounds_toArray, List.set_cons_zero, List.set_cons_succ]
    clear HS
    refine FirstH.only (i := 3) (by kernel_rfl) (by decide) inv (fun inv => wpOp_call (i := 3) rfl rfl 13 rfl (Op.call { callee := .value (.func 8), args := #[.tmp 11, .tmp 12], argTypes := #[49, 5] }) rfl 8 #[.agg #[.int .u8 x.k, .int .u8 x.n, .int .u16 x.l, .int .u32 x.s, .int .u8 x.d, .int .u8 x.a0, .int .u8 x.a1, .int .u8 x.b0, .int .u8 x.b1, .int .u8 x.c0, .int .u8 x.c1, .int .u32 x.fl, .slice A2 X.length c2, .int .u8 x.rc, .string x.rv, .slice B2 Y.length d2, .int .u8 x.vn, .int .u16 x.vl], .int .u8 g] (by unfold bareO; go_simp) (rightE x A2 B2 X Y c2 d2 g w2 rp2 rq2 RX.out lp2 mp2 lq2 mq2 HX.out HG.out) ?_)
    rintro e w3 ⟨rfl, b3⟩
    have H3 := Lib.hid (H2.out.trans (b3.mono H2.out.size))
    have R3 := Lib.hid ((b3.block _ L2.out).trans R2.out)
    have L3 : Hid (w.heap.size < w3.heap.size) := Lib.hid (Nat.lt_of_lt_of_le L2.out b3.size)
    clear b3 rp2 rq2 lp2 mp2 lq2 mq2
    have HS := R3.out
    refine ⟨_, rfl, HS, ?_⟩
    try simp only [Act.put, List.setIfInBounds_toArray, List.set_cons_zero, List.set_cons_succ]
    clear HS
    refine FirstH.only (i := 6) (by kernel_rfl) (by decide) inv (fun inv => wpOp_call (i := 6) rfl rfl 16 rfl (Op.call { callee := .value (.func 9), args := #[.tmp 14, .tmp 15], argTypes := #[36, 5] }) rfl 9 #[.agg #[.int .u8 x.k, .int .u8 x.n, .int .u16 x.l, .int .u32 x.s, .int .u8 x.d, .int .u8 x.a0, .int .u8 x.a1, .int .u8 x.b0, .int .u8 x.b1, .int .u8 x.c0, .int .u8 x.c1, .int .u32 x.fl, .slice A X.length c, .int .u8 x.rc, .string x.rv, .slice B Y.length d, .int .u8 x.vn, .int .u16 x.vl], .int .u8 g] (by unfold bareO; go_simp) (refRE x A B X Y c d g w3 (HRr.out _ H3.out) (HRs.out _ H3.out) RX.out hc hm hd hn (by omega) (by omega) HX.out HG.out) ?_)
    rintro e w4 ⟨rfl, b4⟩
    have H4 := Lib.hid (H3.out.trans (b4.mono H3.out.size))
    have R4 := Lib.hid ((b4.block _ L3.out).trans R3.out)
    clear b4
    have HS := R4.out
    refine ⟨_, rfl, HS, ?_⟩
    try simp only [Act.put, List.setIfInBounds_toArray, List.set_cons_zero, List.set_cons_succ]
    clear HS
    generalize rE x X Y g = rb
    refine ⟨by kernel_rfl, ?_⟩
    simp only [List.drop_succ_cons, List.drop_zero]
    cases rb
    all_goals
      go_wp2_with (go_at_call 6; refine (HK.out _ H4.out).mono ?_; rintro e w5 ⟨rfl, b5⟩; have H5 := Lib.hid (H4.out.trans (b5.mono H4.out.size)); clear b5)
      go_ret
      exact ⟨rfl, H5.out⟩

end Go.Proofs.YtnkimbmnnhnanaaDoor
