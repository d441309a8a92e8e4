/-
  The walk of the law PartShown. Condition: each number fits its kind; the table of the powers of ten is as its text lays it.
-/
import Derived.Test.YtggaakjimkfliaaDoorPlet
import Derived.Test.YtggaakjimkfliaaDoorPknw
import Derived.Test.YtggaakjimkfliaaDoorPsam
namespace Go.Proofs.YtggaakjimkfliaaDoor
set_option linter.unusedSimpArgs false
set_option linter.unusedVariables false
open Go.RowKit Go.Sort

theorem new_cell' (W : World) (cs : Array Value) (t : TypeId) (j n : Nat) (hn : W.heap.size = n) : (W.alloc (.cells cs t)).cell? ⟨n, j, none⟩ = cs[j]? := by
  subst hn
  exact cell_of_row _ _ j cs t (0, 0) (heap_alloc_new W _)
theorem part_new (W : World) (n : Nat) (x : P5) (t : TypeId) (hn : W.heap.size = n) : PartAt (W.alloc (.cells #[.int .u8 x.g, .int .u8 x.k, .string x.key, .string x.val, .int .i64 x.n] t)) n 0 x :=
  ⟨new_cell' _ _ _ 0 _ hn, new_cell' _ _ _ 1 _ hn, new_cell' _ _ _ 2 _ hn, new_cell' _ _ _ 3 _ hn, new_cell' _ _ _ 4 _ hn⟩
theorem toPartBB (x : P5) (W : World) : Calls Tryd.prog 8 #[.agg #[.int .u8 x.g, .int .u8 x.k, .string x.key, .string x.val, .int .i64 x.n]] W fun e W' => e = .returned (.agg #[.int .u8 x.g, .int .u8 x.k, .string x.key, .string x.val, .int .i64 x.n]) ∧ Below W.heap.size W W' :=
  (toPart x.g x.k x.n x.key x.val W).mono fun e W' ⟨he, hw⟩ => ⟨he, by rw [← hw]; exact ((Below.refl _ _).alloc (Nat.le_refl _) _).alloc (by simp) _⟩

theorem rP_sizes {x : P5} (h : x.r = true) : x.key.size ≤ 16 ∧ x.val.size ≤ 64 := by
  have h' : rP x.g x.k x.n x.key x.val = true := h
  simp [rP, -ByteArray.size_eq_zero_iff] at h'
  omega
theorem shown_eq {x y : P5} (inj : showB x.g x.k x.n x.key x.val = showB y.g y.k y.n y.key y.val → x = y) :
    (((showB x.g x.k x.n x.key x.val).toList == (showB y.g y.k y.n y.key y.val).toList) == eqP x y) = true := by
  by_cases h : x = y
  · subst h
    have : eqP x x = true := (eqP_iff x x).2 rfl
    simp [this]
  · have h1 : eqP x y = false := by
      cases he : eqP x y with
      | false => rfl
      | true => exact absurd ((eqP_iff x y).1 he) h
    have h2 : ((showB x.g x.k x.n x.key x.val).toList == (showB y.g y.k y.n y.key y.val).toList) = false := by
      rw [beq_eq_false_iff_ne]
      intro e
      exact h (inj ((toList_inj _ _).1 e))
    rw [h1, h2]
    rfl
/-- four parts in four blocks. -/
structure Box4 (W : World) (n m1 m2 : Nat) (x y : P5) : Prop where
  p : PartAt W n 0 x
  q : PartAt W (n + 1) 0 y
  a : PartAt W m1 0 x
  b : PartAt W m2 0 y
  l1 : n + 1 < W.heap.size
  l2 : m1 < W.heap.size
  l3 : m2 < W.heap.size
theorem Box4.below {W W' : World} {n m1 m2 : Nat} {x y : P5} (h : Box4 W n m1 m2 x y) (hb : Below W.heap.size W W') : Box4 W' n m1 m2 x y :=
  ⟨h.p.below hb (by have := h.l1; omega), h.q.below hb h.l1, h.a.below hb h.l2, h.b.below hb h.l3, Nat.lt_of_lt_of_le h.l1 hb.size, Nat.lt_of_lt_of_le h.l2 hb.size, Nat.lt_of_lt_of_le h.l3 hb.size⟩

set_option maxRecDepth 100000 in
set_option maxHeartbeats 4000000 in
theorem walkShown (x y : P5) (w : World) (B : Nat) (hx : x.Rng) (hy : y.Rng) (ht : Okw B w) :
    Calls Tryd.prog 5 #[.agg #[.int .u8 x.g, .int .u8 x.k, .string x.key, .string x.val, .int .i64 x.n], .agg #[.int .u8 y.g, .int .u8 y.k, .string y.key, .string y.val, .int .i64 y.n]] w fun e w' => e = .returned (.bool true) ∧ Below w.heap.size w w' := by
  have hK := Lib.hid (fun W (hb : Below w.heap.size w W) => knows_any W B (ht.on hb))
  have P1 := Lib.hid (toPartBB x)
  have P2 := Lib.hid (toPartBB y)
  have B2 : Hid (Below w.heap.size w ((w.alloc (.cells #[.int .u8 x.g, .int .u8 x.k, .string x.key, .string x.val, .int .i64 x.n] 30)).alloc (.cells #[.int .u8 y.g, .int .u8 y.k, .string y.key, .string y.val, .int .i64 y.n] 30))) := Lib.hid (((Below.refl _ _).alloc (Nat.le_refl _) _).alloc (by simp) _)
  have X2 : PartAt ((w.alloc (.cells #[.int .u8 x.g, .int .u8 x.k, .string x.key, .string x.val, .int .i64 x.n] 30)).alloc (.cells #[.int .u8 y.g, .int .u8 y.k, .string y.key, .string y.val, .int .i64 y.n] 30)) w.heap.size 0 x := (part_new w _ x 30 rfl).below (B := (w.alloc (.cells #[.int .u8 x.g, .int .u8 x.k, .string x.key, .string x.val, .int .i64 x.n] 30)).heap.size) ((Below.refl _ _).alloc (Nat.le_refl _) _) (by simp)
  have Y2 : PartAt ((w.alloc (.cells #[.int .u8 x.g, .int .u8 x.k, .string x.key, .string x.val, .int .i64 x.n] 30)).alloc (.cells #[.int .u8 y.g, .int .u8 y.k, .string y.key, .string y.val, .int .i64 y.n] 30)) (w.heap.size + 1) 0 y := part_new _ _ y 30 (by simp)
  have HX2 := Lib.hid X2
  have HY2 := Lib.hid Y2
  clear X2 Y2
  go_enter Tryd.func5, Tryd.ntmps5
  go_wp2_with fail
  refine (P1.out _).mono ?_
  rintro e w3 ⟨rfl, b3⟩
  have B3 := Lib.hid (B2.out.trans (b3.mono B2.out.size))
  have HX3 := Lib.hid (HX2.out.below b3 (by simp; omega))
  have HY3 := Lib.hid (HY2.out.below b3 (by simp))
  have hs3 : w.heap.size + 1 < w3.heap.size := by have := b3.size; simp at this; omega
  clear b3 B2 HX2 HY2
  obtain ⟨y0, y1, y2, y3, y4⟩ := HY3.out
  go_wp2_with fail
  refine (P2.out _).mono ?_
  rintro e w5 ⟨rfl, b5⟩
  have Q6 : Hid (Box4 (w5.alloc (.cells #[.int .u8 y.g, .int .u8 y.k, .string y.key, .string y.val, .int .i64 y.n] 28)) w.heap.size w3.heap.size w5.heap.size x y) := Lib.hid (by
    have s3 : Below w3.heap.size w3 (w3.alloc (.cells #[.int .u8 x.g, .int .u8 x.k, .string x.key, .string x.val, .int .i64 x.n] 28)) := (Below.refl _ _).alloc (Nat.le_refl _) _
    have s5 : Below w5.heap.size w5 (w5.alloc (.cells #[.int .u8 y.g, .int .u8 y.k, .string y.key, .string y.val, .int .i64 y.n] 28)) := (Below.refl _ _).alloc (Nat.le_refl _) _
    have hb5 := b5.size
    simp at hb5
    exact ⟨((HX3.out.below s3 (by omega)).below b5 (by simp; omega)).below s5 (by omega), ((HY3.out.below s3 (by omega)).below b5 (by simp; omega)).below s5 (by omega), ((part_new w3 _ x 28 rfl).below b5 (by simp)).below s5 (by omega), part_new w5 _ y 28 rfl, by simp; omega, by simp; omega, by simp⟩)
  have B6 : Hid (Below w.heap.size w (w5.alloc (.cells #[.int .u8 y.g, .int .u8 y.k, .string y.key, .string y.val, .int .i64 y.n] 28))) := Lib.hid (((B3.out.alloc B3.out.size _).trans (b5.mono (by simp; omega))).alloc (by have := b5.size; simp at this; omega) _)
  clear b5 B3 HX3 HY3 y0 y1 y2 y3 y4
  obtain ⟨x0, x1, x2, x3, x4⟩ := Q6.out.a
  go_wp2_with fail
  generalize w5.alloc (.cells #[.int .u8 y.g, .int .u8 y.k, .string y.key, .string y.val, .int .i64 y.n] 28) = w6 at *
  cases hrx : x.r with
  | false =>
    have RR : Hid (∀ W : World, Calls Tryd.prog 9 #[.agg #[.int .u8 x.g, .int .u8 x.k, .string x.key, .string x.val, .int .i64 x.n]] W fun e w' => e = .returned (.bool false) ∧ Below W.heap.size W w') := Lib.hid (fun W => by have h := rightPart x.g x.k x.n x.key x.val W hx.k.1; rw [show rP x.g x.k x.n x.key x.val = false from hrx] at h; exact h)
    refine (RR.out _).mono ?_
    rintro e w7 ⟨rfl, b7⟩
    have B7 := Lib.hid (B6.out.trans (b7.mono B6.out.size))
    clear x0 x1 x2 x3 x4 b7
    go_wp2_with fail
    refine (hK.out _ B7.out).mono ?_
    rintro e wk ⟨rfl, bk⟩
    go_wp2
    go_ret
    exact ⟨rfl, B7.out.trans (bk.mono B7.out.size)⟩
  | true =>
    have RR : Hid (∀ W : World, Calls Tryd.prog 9 #[.agg #[.int .u8 x.g, .int .u8 x.k, .string x.key, .string x.val, .int .i64 x.n]] W fun e w' => e = .returned (.bool true) ∧ Below W.heap.size W w') := Lib.hid (fun W => by have h := rightPart x.g x.k x.n x.key x.val W hx.k.1; rw [show rP x.g x.k x.n x.key x.val = true from hrx] at h; exact h)
    refine (RR.out _).mono ?_
    rintro e w7 ⟨rfl, b7⟩
    have B7 := Lib.hid (B6.out.trans (b7.mono B6.out.size))
    have Q7 := Lib.hid (Q6.out.below b7)
    clear x0 x1 x2 x3 x4 b7 B6 Q6 RR
    obtain ⟨x0, x1, x2, x3, x4⟩ := Q7.out.b
    go_wp2_with fail
    cases hry : y.r with
    | false =>
      have RR : Hid (∀ W : World, Calls Tryd.prog 9 #[.agg #[.int .u8 y.g, .int .u8 y.k, .string y.key, .string y.val, .int .i64 y.n]] W fun e w' => e = .returned (.bool false) ∧ Below W.heap.size W w') := Lib.hid (fun W => by have h := rightPart y.g y.k y.n y.key y.val W hy.k.1; rw [show rP y.g y.k y.n y.key y.val = false from hry] at h; exact h)
      refine (RR.out _).mono ?_
      rintro e w8 ⟨rfl, b8⟩
      have B8 := Lib.hid (B7.out.trans (b8.mono B7.out.size))
      clear x0 x1 x2 x3 x4 b8
      go_wp2_with fail
      refine (hK.out _ B8.out).mono ?_
      rintro e wk ⟨rfl, bk⟩
      go_wp2
      go_ret
      exact ⟨rfl, B8.out.trans (bk.mono B8.out.size)⟩
    | true =>
      have RR : Hid (∀ W : World, Calls Tryd.prog 9 #[.agg #[.int .u8 y.g, .int .u8 y.k, .string y.key, .string y.val, .int .i64 y.n]] W fun e w' => e = .returned (.bool true) ∧ Below W.heap.size W w') := Lib.hid (fun W => by have h := rightPart y.g y.k y.n y.key y.val W hy.k.1; rw [show rP y.g y.k y.n y.key y.val = true from hry] at h; exact h)
      refine (RR.out _).mono ?_
      rintro e w8 ⟨rfl, b8⟩
      have B8 := Lib.hid (B7.out.trans (b8.mono B7.out.size))
      have Q8 := Lib.hid (Q7.out.below b8)
      clear x0 x1 x2 x3 x4 b8 B7 Q7 RR
      have sx := rP_sizes hrx
      have sy := rP_sizes hry
      obtain ⟨_, _, x2, x3, _⟩ := Q8.out.p
      obtain ⟨_, _, y2, y3, _⟩ := Q8.out.q
      have LX := Lib.hid (letters (x.key ++ x.val) w8 (by unfold maxLen; simp; omega))
      have LY := Lib.hid (letters (y.key ++ y.val) w8 (by unfold maxLen; simp; omega))
      have sx1 : (x.key.size : Int) + (x.val.size : Int) ≤ 80 := by omega
      have sy1 : (y.key.size : Int) + (y.val.size : Int) ≤ 80 := by omega
      go_wp2_with fail
      cases hlx : lettersB (x.key ++ x.val) with
      | false =>
        rw [hlx] at LX
        refine LX.out.mono ?_
        rintro e w9 ⟨rfl, rfl⟩
        go_wp2_with fail
        refine (hK.out _ B8.out).mono ?_
        rintro e wk ⟨rfl, bk⟩
        go_wp2
        go_ret
        exact ⟨rfl, B8.out.trans (bk.mono B8.out.size)⟩
      | true =>
        rw [hlx] at LX
        refine LX.out.mono ?_
        rintro e w9 ⟨rfl, rfl⟩
        go_wp2_with fail
        cases hly : lettersB (y.key ++ y.val) with
        | false =>
          rw [hly] at LY
          refine LY.out.mono ?_
          rintro e w9 ⟨rfl, rfl⟩
          go_wp2_with fail
          refine (hK.out _ B8.out).mono ?_
          rintro e wk ⟨rfl, bk⟩
          go_wp2
          go_ret
          exact ⟨rfl, B8.out.trans (bk.mono B8.out.size)⟩
        | true =>
          rw [hly] at LY
          refine LY.out.mono ?_
          rintro e w9 ⟨rfl, rfl⟩
          clear x2 x3 y2 y3
          go_wp2_with fail
          refine (hK.out _ B8.out).mono ?_
          rintro e w9 ⟨rfl, b9⟩
          have B9 := Lib.hid (B8.out.trans (b9.mono B8.out.size))
          have Q9 := Lib.hid (Q8.out.below b9)
          clear b9 B8 Q8 LX LY
          go_wp2_with fail
          have hxs : x.key.size + x.val.size ≤ 4000 := by omega
          have hys : y.key.size + y.val.size ≤ 4000 := by omega
          have K9 := Lib.hid (ht.on B9.out)
          have S1 := Lib.hid (fun W (hW : Okw B W) => show_any x.g x.k x.n x.key x.val W B hx.g.1 hx.g.2 hx.k.1 hx.n.1 hx.n.2 hxs hW)
          have S2 := Lib.hid (fun W (hW : Okw B W) => show_any y.g y.k y.n y.key y.val W B hy.g.1 hy.g.2 hy.k.1 hy.n.1 hy.n.2 hys hW)
          have k0 := cell_regrown Q9.out.a.c0
          have k1 := cell_regrown Q9.out.a.c1
          have k2 := cell_regrown Q9.out.a.c2
          have k3 := cell_regrown Q9.out.a.c3
          have k4 := cell_regrown Q9.out.a.c4
          have l0 := cell_regrown Q9.out.b.c0
          have l1 := cell_regrown Q9.out.b.c1
          have l2 := cell_regrown Q9.out.b.c2
          have l3 := cell_regrown Q9.out.b.c3
          have l4 := cell_regrown Q9.out.b.c4
          have hq := eql28 x y
          have inj := Lib.hid (fun h => shown_inj x y hrx hry hx hy hlx hly h)
          clear Q9
          refine wp_region_quiet_below (by kernel_rfl) (by kernel_rfl) ?_
          repeat (go_big_quiet_step (first | (go_at_call 17; first | (with_reducible exact Calls.regrown_of (S1.out _ (K9.out.grown _ _))) | (with_reducible exact Calls.regrown_of (S2.out _ (K9.out.grown _ _))))))
          refine wpQuiet_nil ?_
          rintro W ⟨p, rfl⟩
          have y1 := below_regrown w9 p.d p.os
          generalize grow (redrawn w9 p.d) p.os = w10 at *
          clear k0 k1 k2 k3 k4 l0 l1 l2 l3 l4 hq
          have Y1 := Lib.hid y1
          clear y1
          go_wp2
          go_ret
          exact ⟨ret_bool (shown_eq inj.out), B9.out.trans (Y1.out.mono B9.out.size)⟩

end Go.Proofs.YtggaakjimkfliaaDoor
