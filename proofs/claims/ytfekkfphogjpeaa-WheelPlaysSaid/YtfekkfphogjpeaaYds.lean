/-
  The document's wheel: which timer stands ahead; Set: by exact answers. Condition: the wheel lies in memory.
-/
import Derived.Test.YtfekkfphogjpeaaYdc
namespace Go.Proofs.Ytfekkfphogjpeaa
set_option linter.unusedSimpArgs false
set_option linter.unusedVariables false
open Go.RowKit Go.Maps Go.Sort

set_option maxRecDepth 100000 in
set_option maxHeartbeats 2000000 in
theorem aheadD0 (a b : Int) (x y : K13) (rx : x.Rng) (ry : y.Rng) (w : World) : Calls Try.prog 30 #[.agg #[.int .u8 x.k, .int .u8 x.pn, .int .u16 x.pl, .int .u8 x.x.n, .int .u16 x.x.l, .int .u32 x.x.s, .int .u8 x.x.d, .int .u8 x.x.a0, .int .u8 x.x.a1, .int .u8 x.x.b0, .int .u8 x.x.b1, .int .u8 x.x.c0, .int .u8 x.x.c1, .int .i64 a], .agg #[.int .u8 y.k, .int .u8 y.pn, .int .u16 y.pl, .int .u8 y.x.n, .int .u16 y.x.l, .int .u32 y.x.s, .int .u8 y.x.d, .int .u8 y.x.a0, .int .u8 y.x.a1, .int .u8 y.x.b0, .int .u8 y.x.b1, .int .u8 y.x.c0, .int .u8 y.x.c1, .int .i64 b]] w fun e w' => e = .returned (.bool (decide (or2 (sgn a b) (x.cmp y) < 0))) ∧ Below w.heap.size w w' := by
  have CK := Lib.hid (fun w => dCompare x y rx ry w)
  obtain ⟨W, hW⟩ : ∃ W, (w.alloc (.cells #[.int .u8 x.k, .int .u8 x.pn, .int .u16 x.pl, .int .u8 x.x.n, .int .u16 x.x.l, .int .u32 x.x.s, .int .u8 x.x.d, .int .u8 x.x.a0, .int .u8 x.x.a1, .int .u8 x.x.b0, .int .u8 x.x.b1, .int .u8 x.x.c0, .int .u8 x.x.c1, .int .i64 a] 83)).alloc (.cells #[.int .u8 y.k, .int .u8 y.pn, .int .u16 y.pl, .int .u8 y.x.n, .int .u16 y.x.l, .int .u32 y.x.s, .int .u8 y.x.d, .int .u8 y.x.a0, .int .u8 y.x.a1, .int .u8 y.x.b0, .int .u8 y.x.b1, .int .u8 y.x.c0, .int .u8 y.x.c1, .int .i64 b] 83) = W := ⟨_, rfl⟩
  have z : Below w.heap.size w W := by rw [← hW]; exact ((Below.refl _ _).alloc (Nat.le_refl _) _).alloc (by simp) _
  have rA : W.heap[w.heap.size]? = some (.cells #[.int .u8 x.k, .int .u8 x.pn, .int .u16 x.pl, .int .u8 x.x.n, .int .u16 x.x.l, .int .u32 x.x.s, .int .u8 x.x.d, .int .u8 x.x.a0, .int .u8 x.x.a1, .int .u8 x.x.b0, .int .u8 x.x.b1, .int .u8 x.x.c0, .int .u8 x.x.c1, .int .i64 a] 83 (0, 0)) := by rw [← hW, Below.heap_alloc _ _ _ (by simp)]; exact heap_alloc_new _ _
  have rB : W.heap[w.heap.size + 1]? = some (.cells #[.int .u8 y.k, .int .u8 y.pn, .int .u16 y.pl, .int .u8 y.x.n, .int .u16 y.x.l, .int .u32 y.x.s, .int .u8 y.x.d, .int .u8 y.x.a0, .int .u8 y.x.a1, .int .u8 y.x.b0, .int .u8 y.x.b1, .int .u8 y.x.c0, .int .u8 y.x.c1, .int .i64 b] 83 (0, 0)) := by
    rw [← hW]
    have := heap_alloc_new (w.alloc (.cells #[.int .u8 x.k, .int .u8 x.pn, .int .u16 x.pl, .int .u8 x.x.n, .int .u16 x.x.l, .int .u32 x.x.s, .int .u8 x.x.d, .int .u8 x.x.a0, .int .u8 x.x.a1, .int .u8 x.x.b0, .int .u8 x.x.b1, .int .u8 x.x.c0, .int .u8 x.x.c1, .int .i64 a] 83)) (.cells #[.int .u8 y.k, .int .u8 y.pn, .int .u16 y.pl, .int .u8 y.x.n, .int .u16 y.x.l, .int .u32 y.x.s, .int .u8 y.x.d, .int .u8 y.x.a0, .int .u8 y.x.a1, .int .u8 y.x.b0, .int .u8 y.x.b1, .int .u8 y.x.c0, .int .u8 y.x.c1, .int .i64 b] 83)
    simpa using this
  have HW := Lib.hid hW
  have Z := Lib.hid z
  have a13 := cell_of rA 13 _ rfl
  have b13 := cell_of rB 13 _ rfl
  by_cases hlt : a < b
  · have e0 : decide (or2 (sgn a b) (x.cmp y) < 0) = true := by rw [sgn_lt hlt, or2_neg]; rfl
    rw [e0]
    clear e0 rA rB hW z rx ry CK
    go_enter Try.func30, Try.ntmps30
    go_wp2_with (rw [HW.out])
    go_ret
    exact ⟨rfl, Z.out⟩
  · by_cases heq : a = b
    · subst heq
      rw [sgn_self, or2_zero]
      unfold K13.cs at CK
      generalize x.cmp y = v at CK ⊢
      have a0 := cell_of rA 0 _ rfl
      have b0 := cell_of rB 0 _ rfl
      have a1 := cell_of rA 1 _ rfl
      have b1 := cell_of rB 1 _ rfl
      have a2 := cell_of rA 2 _ rfl
      have b2 := cell_of rB 2 _ rfl
      have a3 := cell_of rA 3 _ rfl
      have b3 := cell_of rB 3 _ rfl
      have a4 := cell_of rA 4 _ rfl
      have b4 := cell_of rB 4 _ rfl
      have a5 := cell_of rA 5 _ rfl
      have b5 := cell_of rB 5 _ rfl
      have a6 := cell_of rA 6 _ rfl
      have b6 := cell_of rB 6 _ rfl
      have a7 := cell_of rA 7 _ rfl
      have b7 := cell_of rB 7 _ rfl
      have a8 := cell_of rA 8 _ rfl
      have b8 := cell_of rB 8 _ rfl
      have a9 := cell_of rA 9 _ rfl
      have b9 := cell_of rB 9 _ rfl
      have a10 := cell_of rA 10 _ rfl
      have b10 := cell_of rB 10 _ rfl
      have a11 := cell_of rA 11 _ rfl
      have b11 := cell_of rB 11 _ rfl
      have a12 := cell_of rA 12 _ rfl
      have b12 := cell_of rB 12 _ rfl
      clear rA rB hW z rx ry
      by_cases hv : v < 0
      · have e1 : decide (v < 0) = true := by simpa using hv
        rw [e1]
        go_enter Try.func30, Try.ntmps30
        go_wp2_with (first | (rw [HW.out]) | (go_at_call 26; refine (CK.out _).mono ?_; rintro e w1 ⟨rfl, bb1⟩; have BB1 := Lib.hid (Z.out.trans (bb1.mono Z.out.size)); clear bb1))
        go_ret
        exact ⟨rfl, BB1.out⟩
      · have e1 : decide (v < 0) = false := by simpa using hv
        rw [e1]
        go_enter Try.func30, Try.ntmps30
        go_wp2_with (first | (rw [HW.out]) | (go_at_call 26; refine (CK.out _).mono ?_; rintro e w1 ⟨rfl, bb1⟩; have BB1 := Lib.hid (Z.out.trans (bb1.mono Z.out.size)); clear bb1))
        go_ret
        exact ⟨rfl, BB1.out⟩
    · have e0 : decide (or2 (sgn a b) (x.cmp y) < 0) = false := by rw [sgn_gt (by omega), or2_pos]; rfl
      rw [e0]
      have heq2 : (a == b) = false := by simpa using heq
      clear e0 rA rB hW z rx ry CK
      go_enter Try.func30, Try.ntmps30
      go_wp2_with (rw [HW.out])
      go_ret
      exact ⟨rfl, Z.out⟩
theorem aheadD (x y : Tm) (rx : x.k.Rng) (ry : y.k.Rng) (w : World) : Calls Try.prog 30 #[.agg x.cs, .agg y.cs] w fun e w' => e = .returned (.bool (decide (x.cmp y < 0))) ∧ Below w.heap.size w w' := aheadD0 x.at_ y.at_ x.k y.k rx ry w

set_option maxRecDepth 100000 in
set_option maxHeartbeats 2000000 in
theorem setD_full (W : World) (r most : Nat) (A : Option Addr) (c : Nat) (T : List Tm) (x : K13) (at_ : Int) (h : DW W r most A c T) (hx : ∀ t ∈ T, t.k ≠ x) (hf : most ≤ T.length) :
    Calls Try.prog 13 #[.pointer (some ⟨r, 0, none⟩), .agg x.cs, .int .i64 at_] W fun e W' => e = .returned (.int .i64 11) ∧ Below W.heap.size W W' := by
  obtain ⟨W1, hW1⟩ : ∃ W1, W.alloc (.cells x.cs 38) = W1 := ⟨_, rfl⟩
  have b1 : Below W.heap.size W W1 := by rw [← hW1]; exact (Below.refl _ _).alloc (Nat.le_refl _) _
  have r1 : W1.heap[W.heap.size]? = some (.cells x.cs 38 (0, 0)) := by rw [← hW1]; exact heap_alloc_new _ _
  have h1 := h.below b1
  obtain ⟨W2, hW2⟩ : ∃ X, W1 = X := ⟨_, rfl⟩
  have hf' : (most : Int) ≤ (T.length : Int) := by omega
  have FQ := fun (X : World) (hX : DW X r most A c T) => findD_no X r most A c T x hX hx
  unfold K13.cs at FQ r1 hW1 ⊢
  have FD := Lib.hid (fun d os => Calls.regrown_of (FQ (grow (redrawn W1 d) os) (h1.below (below_regrown W1 d os))))
  have g0 := cell_regrown (cell_of h1.bag 0 (.slice A T.length c) rfl)
  have g1 := cell_regrown (cell_of h1.bag 1 (.int .i64 most) rfl)
  have p0 := cell_regrown (cell_of r1 0 _ rfl)
  have p1 := cell_regrown (cell_of r1 1 _ rfl)
  have p2 := cell_regrown (cell_of r1 2 _ rfl)
  have p3 := cell_regrown (cell_of r1 3 _ rfl)
  have p4 := cell_regrown (cell_of r1 4 _ rfl)
  have p5 := cell_regrown (cell_of r1 5 _ rfl)
  have p6 := cell_regrown (cell_of r1 6 _ rfl)
  have p7 := cell_regrown (cell_of r1 7 _ rfl)
  have p8 := cell_regrown (cell_of r1 8 _ rfl)
  have p9 := cell_regrown (cell_of r1 9 _ rfl)
  have p10 := cell_regrown (cell_of r1 10 _ rfl)
  have p11 := cell_regrown (cell_of r1 11 _ rfl)
  have p12 := cell_regrown (cell_of r1 12 _ rfl)
  have HP1 := Lib.hid h1
  have HW := Lib.hid hW1
  have B1 := Lib.hid b1
  have R1 := Lib.hid r1
  generalize T.length = n at g0 hf'
  clear h hW1 b1 r1 hx h1 FQ hW2 hf
  go_enter Try.func13, Try.ntmps13
  go_wp2_with (rw [HW.out])
  refine wp_region_quiet_below (by kernel_rfl) (by kernel_rfl) ?_
  repeat (go_big_quiet_step (first | (go_at_call 29; with_reducible exact FD.out _ _) | fail))
  refine wpQuiet_nil ?_
  rintro W3 ⟨p, rfl⟩
  have b3 := below_regrown W1 p.d p.os
  generalize grow (redrawn W1 p.d) p.os = W3 at *
  clear g0 g1 p0 p1 p2 p3 p4 p5 p6 p7 p8 p9 p10 p11 p12 FD
  have B3 := Lib.hid (B1.out.trans (b3.mono B1.out.size))
  clear b3
  go_wp2
  go_ret
  exact ⟨rfl, B3.out⟩

/-- how many stand ahead. -/
def insT (T : List Tm) (t : Tm) (i : Nat) : List Tm := T.take i ++ t :: T.drop i
theorem ins_srt {T : List Tm} {t : Tm} {i : Nat} (hs : T.Pairwise fun a b => a.cmp b < 0) (hr : ∀ a ∈ T, a.k.Rng) (ht : t.k.Rng) (h1 : ∀ (j : Nat) (a : Tm), j < i → T[j]? = some a → a.cmp t < 0) (h2 : ∀ a, T[i]? = some a → 0 < a.cmp t) : (insT T t i).Pairwise fun a b => a.cmp b < 0 := by
  have e : T = T.take i ++ T.drop i := (List.take_append_drop i T).symm
  have hsA : (T.take i ++ T.drop i).Pairwise fun a b => a.cmp b < 0 := by rw [← e]; exact hs
  obtain ⟨p1, p2, p3⟩ := List.pairwise_append.1 hsA
  have q1 : ∀ a ∈ T.take i, a.cmp t < 0 := fun a ha => by
    obtain ⟨j, hj, rfl⟩ := List.getElem_of_mem ha
    rw [List.length_take] at hj
    refine h1 j _ (by omega) ?_
    rw [List.getElem_take]
    exact List.getElem?_eq_getElem (by omega)
  have q2 : ∀ a ∈ T.drop i, t.cmp a < 0 := fun a ha => by
    have hi : i < T.length := by
      rcases Nat.lt_or_ge i T.length with h | h
      · exact h
      · rw [List.drop_eq_nil_of_le h] at ha; cases ha
    have hT : T[i].k.Rng := hr _ (List.getElem_mem hi)
    have h3 := h2 _ (List.getElem?_eq_getElem hi)
    have h4 := tcmp_anti hT ht
    have h5 : t.cmp T[i] < 0 := by omega
    rw [List.drop_eq_getElem_cons hi] at ha p2
    rcases List.mem_cons.1 ha with rfl | ha
    · exact h5
    · have ha' : a ∈ T := List.mem_of_mem_drop ha
      exact tcmp_lt ht hT (hr a ha') h5 ((List.pairwise_cons.1 p2).1 a ha)
  refine List.pairwise_append.2 ⟨p1, List.pairwise_cons.2 ⟨q2, p2⟩, fun a ha b hb => ?_⟩
  rcases List.mem_cons.1 hb with rfl | hb
  · exact q1 a ha
  · exact p3 a ha b hb
theorem ins_perm (T : List Tm) (t : Tm) (i : Nat) : (insT T t i).Perm (t :: T) := by
  unfold insT
  refine List.perm_middle.trans ?_
  rw [List.take_append_drop]
theorem cmp_ne {a t : Tm} (h : a.k ≠ t.k) : a.cmp t ≠ 0 := fun e => h (by rw [tcmp_zero.1 e])

end Go.Proofs.Ytfekkfphogjpeaa
