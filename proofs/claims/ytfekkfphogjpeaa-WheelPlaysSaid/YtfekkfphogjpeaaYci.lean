/-
  Rows of keys and of times in memory; how two places of them are held against each other: by an exact answer. Condition: the rows lie in memory, each number of a key fits its kind.
-/
import Derived.Test.YtfekkfphogjpeaaYcp
namespace Go.Proofs.Ytfekkfphogjpeaa
set_option linter.unusedSimpArgs false
set_option linter.unusedVariables false
open Go.RowKit Go.Maps Go.Sort

/-- a key at a place. -/
def KAt (W : World) (g o : Nat) (x : K13) : Prop := ∀ j v, x.cs[j]? = some v → W.cell? ⟨g, o + j, none⟩ = some v
/-- the cells of a list of keys. -/
def cellsK (X : List K13) : List Value := X.flatMap fun x => x.cs.toList
theorem cellsK_length (X : List K13) : (cellsK X).length = X.length * 13 := by
  induction X with
  | nil => rfl
  | cons x X ih =>
    show (x.cs.toList ++ cellsK X).length = _
    rw [List.length_append, ih]
    simp [K13.cs]
    omega
theorem cellsK_append (X Y : List K13) : cellsK (X ++ Y) = cellsK X ++ cellsK Y := by simp [cellsK]
theorem cellsK_at (X : List K13) : ∀ (i : Nat) (x : K13), X[i]? = some x → ∀ j, j < 13 → (cellsK X)[i * 13 + j]? = x.cs[j]? := by
  induction X with
  | nil => intro i x h; simp at h
  | cons y X ih =>
    intro i x h j hj
    show (y.cs.toList ++ cellsK X)[i * 13 + j]? = _
    cases i with
    | zero =>
      simp at h
      subst h
      rw [Nat.zero_mul, Nat.zero_add, List.getElem?_append_left (by simp [K13.cs]; omega)]
      simp
    | succ i =>
      simp at h
      rw [List.getElem?_append_right (by simp [K13.cs]; omega)]
      have := ih i x h j hj
      rw [← this]
      congr 1
      simp [K13.cs]
      omega
theorem cellsK_one (X : List K13) : ∀ u ∈ cellsK X, u.oneCell' = true := by
  intro u hu
  simp only [cellsK, List.mem_flatMap] at hu
  obtain ⟨x, _, h⟩ := hu
  simp only [K13.cs, List.mem_cons, List.not_mem_nil, or_false] at h
  rcases h with rfl | rfl | rfl | rfl | rfl | rfl | rfl | rfl | rfl | rfl | rfl | rfl | rfl <;> rfl
theorem addr_add (b o j : Nat) : (⟨b, o, none⟩ : Addr).add j = ⟨b, o + j, none⟩ := by
  unfold Addr.add
  by_cases h : j = 0
  · subst h; rfl
  · simp [h]
/-- a row of keys, and one of times. -/
structure Rows (W : World) (A : Option Addr) (B : Option Addr) (L : List Tm) : Prop where
  keys : L ≠ [] → ∃ g, A = some ⟨g, 0, none⟩ ∧ g < W.heap.size ∧ ∀ i t, L[i]? = some t → KAt W g (i * 13) t.k
  times : L ≠ [] → ∃ g, B = some ⟨g, 0, none⟩ ∧ g < W.heap.size ∧ ∀ i t, L[i]? = some t → W.cell? ⟨g, i, none⟩ = some (.int .i64 t.at_)
theorem KAt.same {W W' : World} {g o : Nat} {x : K13} (h : KAt W g o x) (hh : W'.heap[g]? = W.heap[g]?) : KAt W' g o x := fun j v hv => by
  have := h j v hv
  rw [← this]
  simp [World.cell?, hh]
theorem cell_same {W W' : World} {g o : Nat} (hh : W'.heap[g]? = W.heap[g]?) : W'.cell? ⟨g, o, none⟩ = W.cell? ⟨g, o, none⟩ := by
  simp [World.cell?, hh]

set_option maxHeartbeats 400000 in
theorem cmpI64 (a b : Int) (w : World) : Calls Try.prog 40 #[.int .i64 a, .int .i64 b] w fun e w' => e = .returned (.int .i64 (sgn a b)) ∧ w = w' := by
  by_cases h1 : a < b
  · have e := sgn_lt h1
    have E := Lib.hid e
    clear e
    go_enter Try.func40, Try.ntmps40
    go_wp2
    go_ret
    rw [E.out]
    exact ⟨rfl, rfl⟩
  · by_cases h2 : b < a
    · have e := sgn_gt h2
      have E := Lib.hid e
      clear e
      go_enter Try.func40, Try.ntmps40
      go_wp2
      go_ret
      rw [E.out]
      exact ⟨rfl, rfl⟩
    · obtain rfl : a = b := by omega
      have e := sgn_self a
      have E := Lib.hid e
      clear e
      go_enter Try.func40, Try.ntmps40
      go_wp2
      go_ret
      rw [E.out]
      exact ⟨rfl, rfl⟩

namespace L
open Go.RowKit Go.Sort

set_option maxRecDepth 100000 in
set_option maxHeartbeats 3000000 in
theorem cmpIdx (W : World) (tb kb tg kg ct ck n i j : Nat) (ti tj : Int) (x y : K13) (rx : x.Rng) (ry : y.Rng) (ht : W.cell? ⟨tb, 0, none⟩ = some (.slice (some ⟨tg, 0, none⟩) n ct)) (hk : W.cell? ⟨kb, 0, none⟩ = some (.slice (some ⟨kg, 0, none⟩) n ck))
    (hi : (i : Int) < (n : Int)) (hj : (j : Int) < (n : Int)) (t0 : W.cell? ⟨tg, i, none⟩ = some (.int .i64 ti)) (t1 : W.cell? ⟨tg, j, none⟩ = some (.int .i64 tj)) (hx : KAt W kg (i * 13) x) (hy : KAt W kg (j * 13) y) :
    Go.Calls Try.prog 39 #[.int .i64 i, .int .i64 j, .pointer (some ⟨tb, 0, none⟩), .pointer (some ⟨kb, 0, none⟩)] W fun e w' => e = .returned (.int .i64 (or2 (sgn ti tj) (x.cmp y))) ∧ Below W.heap.size W w' := by
  have i0 : (0 : Int) ≤ (i : Int) := by omega
  have j0 : (0 : Int) ≤ (j : Int) := by omega
  have a0 : W.cell? ⟨kg, i * 13, none⟩ = some (.int .u8 x.k) := hx 0 _ rfl
  have a1 : W.cell? ⟨kg, i * 13 + 1, none⟩ = some (.int .u8 x.pn) := hx 1 _ rfl
  have a2 : W.cell? ⟨kg, i * 13 + 2, none⟩ = some (.int .u16 x.pl) := hx 2 _ rfl
  have a3 : W.cell? ⟨kg, i * 13 + 3, none⟩ = some (.int .u8 x.x.n) := hx 3 _ rfl
  have a4 : W.cell? ⟨kg, i * 13 + 4, none⟩ = some (.int .u16 x.x.l) := hx 4 _ rfl
  have a5 : W.cell? ⟨kg, i * 13 + 5, none⟩ = some (.int .u32 x.x.s) := hx 5 _ rfl
  have a6 : W.cell? ⟨kg, i * 13 + 6, none⟩ = some (.int .u8 x.x.d) := hx 6 _ rfl
  have a7 : W.cell? ⟨kg, i * 13 + 7, none⟩ = some (.int .u8 x.x.a0) := hx 7 _ rfl
  have a8 : W.cell? ⟨kg, i * 13 + 8, none⟩ = some (.int .u8 x.x.a1) := hx 8 _ rfl
  have a9 : W.cell? ⟨kg, i * 13 + 9, none⟩ = some (.int .u8 x.x.b0) := hx 9 _ rfl
  have a10 : W.cell? ⟨kg, i * 13 + 10, none⟩ = some (.int .u8 x.x.b1) := hx 10 _ rfl
  have a11 : W.cell? ⟨kg, i * 13 + 11, none⟩ = some (.int .u8 x.x.c0) := hx 11 _ rfl
  have a12 : W.cell? ⟨kg, i * 13 + 12, none⟩ = some (.int .u8 x.x.c1) := hx 12 _ rfl
  have b0 : W.cell? ⟨kg, j * 13, none⟩ = some (.int .u8 y.k) := hy 0 _ rfl
  have b1 : W.cell? ⟨kg, j * 13 + 1, none⟩ = some (.int .u8 y.pn) := hy 1 _ rfl
  have b2 : W.cell? ⟨kg, j * 13 + 2, none⟩ = some (.int .u16 y.pl) := hy 2 _ rfl
  have b3 : W.cell? ⟨kg, j * 13 + 3, none⟩ = some (.int .u8 y.x.n) := hy 3 _ rfl
  have b4 : W.cell? ⟨kg, j * 13 + 4, none⟩ = some (.int .u16 y.x.l) := hy 4 _ rfl
  have b5 : W.cell? ⟨kg, j * 13 + 5, none⟩ = some (.int .u32 y.x.s) := hy 5 _ rfl
  have b6 : W.cell? ⟨kg, j * 13 + 6, none⟩ = some (.int .u8 y.x.d) := hy 6 _ rfl
  have b7 : W.cell? ⟨kg, j * 13 + 7, none⟩ = some (.int .u8 y.x.a0) := hy 7 _ rfl
  have b8 : W.cell? ⟨kg, j * 13 + 8, none⟩ = some (.int .u8 y.x.a1) := hy 8 _ rfl
  have b9 : W.cell? ⟨kg, j * 13 + 9, none⟩ = some (.int .u8 y.x.b0) := hy 9 _ rfl
  have b10 : W.cell? ⟨kg, j * 13 + 10, none⟩ = some (.int .u8 y.x.b1) := hy 10 _ rfl
  have b11 : W.cell? ⟨kg, j * 13 + 11, none⟩ = some (.int .u8 y.x.c0) := hy 11 _ rfl
  have b12 : W.cell? ⟨kg, j * 13 + 12, none⟩ = some (.int .u8 y.x.c1) := hy 12 _ rfl
  have p0 := cell_regrown a0
  have q0 := cell_regrown b0
  have p1 := cell_regrown a1
  have q1 := cell_regrown b1
  have p2 := cell_regrown a2
  have q2 := cell_regrown b2
  have p3 := cell_regrown a3
  have q3 := cell_regrown b3
  have p4 := cell_regrown a4
  have q4 := cell_regrown b4
  have p5 := cell_regrown a5
  have q5 := cell_regrown b5
  have p6 := cell_regrown a6
  have q6 := cell_regrown b6
  have p7 := cell_regrown a7
  have q7 := cell_regrown b7
  have p8 := cell_regrown a8
  have q8 := cell_regrown b8
  have p9 := cell_regrown a9
  have q9 := cell_regrown b9
  have p10 := cell_regrown a10
  have q10 := cell_regrown b10
  have p11 := cell_regrown a11
  have q11 := cell_regrown b11
  have p12 := cell_regrown a12
  have q12 := cell_regrown b12
  have r0 := cell_regrown ht
  have r1 := cell_regrown hk
  have r2 := cell_regrown t0
  have r3 := cell_regrown t1
  have CK := Lib.hid (compareK x y rx ry)
  unfold K13.cs at CK
  generalize x.cmp y = v at CK ⊢
  clear hx hy rx ry ht hk t0 t1 a0 b0 a1 b1 a2 b2 a3 b3 a4 b4 a5 b5 a6 b6 a7 b7 a8 b8 a9 b9 a10 b10 a11 b11 a12 b12
  go_enter Try.func39, Try.ntmps39
  go_wp2_with fail
  refine region_first_below 18 (by kernel_rfl) (by kernel_rfl) ?_
  simp only [List.take_succ_cons, List.take_zero, List.drop_succ_cons, List.drop_zero]
  repeat (go_big_quiet_step (first | (go_at_call 40; exact Calls.regrown_of ((cmpI64 _ _ _).mono fun _ _ ⟨he, hw⟩ => ⟨he, hw ▸ Below.refl _ _⟩)) | (go_at_call 25; exact Calls.regrown_of (CK.out _)) | fail))
  refine wpQuiet_nil ?_
  rintro W1 ⟨p, rfl⟩
  have z2 := below_regrown W p.d p.os
  generalize grow (redrawn W p.d) p.os = W2 at *
  clear r0 r1 r2 r3 p0 q0 p1 q1 p2 q2 p3 q3 p4 q4 p5 q5 p6 q6 p7 q7 p8 q8 p9 q9 p10 q10 p11 q11 p12 q12
  have Z2 := Lib.hid z2
  clear z2
  go_wp2_with (go_at_call 32; refine (orTwo _ (sgn ti tj) v _ (by simp) (by simp)).mono ?_; rintro e w' ⟨rfl, rfl⟩)
  go_ret
  exact ⟨rfl, Z2.out.alloc Z2.out.size _⟩

end L

end Go.Proofs.Ytfekkfphogjpeaa
