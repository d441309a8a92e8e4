/-
  The law LinkOrdered walked: it answers true. Condition: the steps lie in memory.
-/
import Derived.Test.YtnagbiicpecamaaJqu
import Derived.Test.YtnagbiicpecamaaJsr
import Derived.Lib.QuietBelow
namespace Go.Proofs.Ytnagbiicpecamaa
set_option linter.unusedSimpArgs false
set_option linter.unusedVariables false
open Go.RowKit Go.Maps Go.Sort

set_option maxRecDepth 100000 in
set_option maxHeartbeats 4000000 in
theorem fstepAll (base : Nat) (W : World) (x : Fa) (y : Fc) (F k n : Nat) (h : Fm base W x y k) (g : Fg F y k n) (hn : n ≤ 900) (hF : F ≤ 9223372036854775807) (kd X Iv : Int) :
    Calls Try.prog 6 #[.pointer (some ⟨x.f, 0, none⟩), .agg #[.int .i64 kd, .int .i64 X, .int .i64 Iv]] W fun e W' => e = .returned (.tuple #[]) ∧ FstM base W x F n W' := by
  have hx01 : (X.tmod 2 + 2).tmod 2 = 0 ∨ (X.tmod 2 + 2).tmod 2 = 1 := by
    have h1 := Int.lt_tmod_of_pos X (show (0 : Int) < 2 by decide)
    have h3 := Int.tmod_nonneg (a := X.tmod 2 + 2) 2 (by omega)
    have h4 := Int.tmod_lt_of_pos (X.tmod 2 + 2) (show (0 : Int) < 2 by decide)
    omega
  by_cases hk1 : kd ≤ 1
  · rcases hx01 with e | e
    · exact fstepS0 base W x y F k n h g hn hF kd X Iv hk1 e
    · exact fstepS1 base W x y F k n h g hn hF kd X Iv hk1 e
  by_cases hk2 : kd = 2
  · by_cases h100 : y.P.length < 100
    · rcases hx01 with e | e
      · exact fstepT0 base W x y F k n h g hn hF kd X Iv hk2 e h100
      · exact fstepT1 base W x y F k n h g hn hF kd X Iv hk2 e h100
    · exact fstepI base W x y F k n h g hn hF kd X Iv hk2 (by omega)
  by_cases h0 : y.P.length = 0
  · exact fstepN base W x y F k n h g hn hF kd X Iv hk1 hk2 h0
  by_cases h6 : kd = 6
  · exact fstepKR base W x y F k n h g hn hF kd X Iv hk1 hk2 h0 h6
  obtain ⟨r3, i, hr3, _, _, hi3, hin⟩ := rem_in2 Iv y.P.length (by omega)
  have hx : y.P[i]? = some (y.P[i]'hin) := List.getElem?_eq_getElem _
  obtain ⟨p, hp⟩ : ∃ p, y.P[i]'hin = p := ⟨_, rfl⟩
  rw [hp] at hx
  have key : ∀ q, (fun i => y.P[i]? = some q) ((Iv.tmod y.P.length + y.P.length).tmod y.P.length).toNat → q = p := fun q hq => by
    rw [hr3, hi3] at hq
    have hq' : y.P[i]? = some q := hq
    rw [hx] at hq'
    exact (Option.some.inj hq').symm
  by_cases ht : p.tn = 2
  · by_cases h5 : kd = 5
    · exact fstepK1 base W x y F k n h g hn hF kd X Iv hk1 hk2 h0 h5 fun q _ hq => by rw [key q hq]; exact ht
    · exact fstepKR1 base W x y F k n h g hn hF kd X Iv hk1 hk2 h0 ⟨h5, h6⟩ fun q _ hq => by rw [key q hq]; exact ht
  · by_cases h5 : kd = 5
    · exact fstepK0 base W x y F k n h g hn hF kd X Iv hk1 hk2 h0 h5 fun q _ hq => by rw [key q hq]; exact ht
    · exact fstepKR0 base W x y F k n h g hn hF kd X Iv hk1 hk2 h0 ⟨h5, h6⟩ fun q _ hq => by rw [key q hq]; exact ht
theorem PL.lower {base base' : Nat} {W : World} {b m : Nat} {v : Value} {c : Nat} {s : Sc} {L : List Ls} {K : List Kr} (h : PL base W b m v c s L K) (hb : base' ≤ base) : PL base' W b m v c s L K :=
  { h with hb := Nat.le_trans hb h.hb, hm := Nat.le_trans hb h.hm, hv := fun g hg => Nat.le_trans hb (h.hv g hg) }
def y0F (F : Nat) (ag : Int) : Fc := ⟨⟨1, 1, 2, 3, ag, F, F, false⟩, [], [], ⟨2, 3, 1, 1, ag, F, F, false⟩, [], [], [], [], [], [], [], 0⟩
theorem Fg.init (F : Nat) (ag : Int) (hF : F ≤ 9223372036854775807) (ha : ag ≤ 6) : Fg F (y0F F ag) 0 0 := by
  refine ⟨⟨0, 0, 0, 0, ⟨⟨?_, ?_, Nat.zero_le _, Nat.zero_le _, (fun z hz => by cases hz), (fun z hz => by cases hz), ⟨rfl, rfl, rfl, rfl⟩, rfl⟩, rfl, rfl, by show (1 : Int) ≠ 2; decide, rfl, ⟨by show F + 0 < _; omega, by show F + 0 < _; omega⟩⟩, fun p hp => by cases hp⟩, ⟨Int.le_refl _, Int.le_refl _⟩, Nat.zero_le _, (fun p hp => by cases hp), ⟨Nat.le_refl _, Nat.le_refl _⟩, ⟨Nat.le_refl _, Nat.le_refl _⟩, Nat.le_refl _, ⟨ha, ha⟩⟩
  · exact ⟨rfl, rfl, (fun i x h => by cases h), rfl, Nat.le_refl _, Nat.le_refl _, fun y hy => by cases hy⟩
  · exact ⟨rfl, rfl, (fun i x h => by cases h), rfl, Nat.le_refl _, Nat.le_refl _, fun y hy => by cases hy⟩
/-- one beginning of the other, both ways, by the rows of the field. -/
theorem begins (base : Nat) (W : World) (x : Fa) (y : Fc) (k : Nat) (h : Fm base W x y k) (h1 : y.C1 = y.S0.take y.C1.length) (h0 : y.C0 = y.S1.take y.C0.length) :
    (∀ dd os, Calls Try.prog 7 #[x.cv1, x.sv0] (grow (redrawn W dd) os) fun e W' => e = .returned (.bool true) ∧ Below (grow (redrawn W dd) os).heap.size (grow (redrawn W dd) os) W') ∧
    (∀ dd os, Calls Try.prog 7 #[x.cv0, x.sv1] (grow (redrawn W dd) os) fun e W' => e = .returned (.bool true) ∧ Below (grow (redrawn W dd) os).heap.size (grow (redrawn W dd) os) W') :=
  ⟨fun dd os => beginW _ _ _ _ _ (h.r3.below (below_regrown W dd os)) (h.r0.below (below_regrown W dd os)) h1, fun dd os => beginW _ _ _ _ _ (h.r2.below (below_regrown W dd os)) (h.r1.below (below_regrown W dd os)) h0⟩
set_option maxRecDepth 100000 in
set_option maxHeartbeats 8000000 in
theorem walkLO (first : Nat) (ag : Int) (A0 : Option Addr) (L : List St3) (c0 : Nat) (W : World) (hfi : first ≤ 18446744073709551615) (lc0 : L.length ≤ c0 ∧ c0 ≤ maxLen) (h0 : arg_stepsQ W A0 L) :
    Calls Try.prog 3 #[.int .u64 first, .int .i64 ag, .slice A0 L.length c0] W fun e W' => e = .returned (.bool true) ∧ Below W.heap.size W W' := by
  have KK := Lib.hid (fun w => knowsW w)
  have I0 := Lib.hid (fun (X : World) (hb : Below W.heap.size W X) (i : Nat) (a : St3) (ha : L[i]? = some a) => steps_at h0 hb ha)
  have LC := Lib.hid (show L.length ≤ c0 ∧ c0 ≤ maxLen from lc0)
  have HFI := Lib.hid hfi
  clear h0 lc0 hfi
  obtain ⟨n, hn⟩ : ∃ n, L.length = n := ⟨_, rfl⟩
  have HN := Lib.hid hn
  rw [hn]
  clear hn
  obtain ⟨base, hb⟩ : ∃ z, W.heap.size = z := ⟨_, rfl⟩
  have HBS := Lib.hid hb
  rw [hb] at I0 ⊢
  have B0 : Hid (Below base W W) := Lib.hid (hb ▸ Below.refl _ _)
  clear hb
  by_cases hL : 150 < n
  · have g1 : (150 : Int) < (n : Int) := by omega
    go_enter Try.func3, Try.ntmps3
    go_wp2_with fail
    refine (KK.out _).mono ?_
    rintro e W2 ⟨rfl, b2⟩
    have B2 := Lib.hid (HBS.out ▸ b2 : Below base W W2)
    clear b2
    go_wp2
    go_ret
    exact ⟨rfl, B2.out⟩
  have g1 : ¬ (150 : Int) < (n : Int) := by omega
  have HCAP : Hid (n ≤ 150) := Lib.hid (by omega)
  go_enter Try.func3, Try.ntmps3
  go_wp2_with fail
  refine (KK.out _).mono ?_
  rintro e W1 ⟨rfl, b1⟩
  have B1 := Lib.hid (HBS.out ▸ b1 : Below base W W1)
  obtain ⟨bf, hbf⟩ : ∃ q, W1.heap.size = q := ⟨_, rfl⟩
  have SB : Hid (base ≤ bf) := Lib.hid (by have := B1.out.size; have := HBS.out; omega)
  obtain ⟨r5, z5, hr5, hz5a, hz5b, hz5, hzn⟩ := rem_in2 ag 5 (by decide)
  have hr5' : ag.tmod 5 = r5 := hr5
  have hz5' : (r5 + 5).tmod 5 = (z5 : Int) := hz5
  obtain ⟨aa, haa⟩ : ∃ q, 1 + (z5 : Int) = q := ⟨_, rfl⟩
  have hz5a' : -5 < r5 := hz5a
  have hz5b' : r5 < 5 := hz5b
  have hv1 : IntKind.i64.wrap r5 = r5 := IntWalk.i64_in _ (by omega)
  have hv2 : IntKind.i64.wrap (r5 + 5) = r5 + 5 := IntWalk.i64_in _ (by omega)
  have hv3 : IntKind.i64.wrap (z5 : Int) = (z5 : Int) := IntWalk.i64_in _ (by omega)
  have hv4 : IntKind.i64.wrap (1 + (z5 : Int)) = aa := by rw [IntWalk.i64_in _ (by omega)]; exact haa
  have HAA : Hid (1 ≤ aa ∧ aa ≤ 5) := Lib.hid (by omega)
  obtain ⟨W2, hw2⟩ : ∃ q, W1.alloc (.cells #[.pointer none, .pointer none, .slice none 0 0, .slice none 0 0, .slice none 0 0, .slice none 0 0, .slice none 0 0, .int .i64 0] 32) = q := ⟨_, rfl⟩
  have b2 : Below W1.heap.size W1 W2 := by rw [← hw2]; exact (Below.refl _ _).alloc (Nat.le_refl _) _
  have B2 := Lib.hid (B1.out.trans (b2.mono (by rw [hbf]; exact SB.out)))
  have R2 : Hid (W2.drew.heap[bf]? = some (.cells #[.pointer none, .pointer none, .slice none 0 0, .slice none 0 0, .slice none 0 0, .slice none 0 0, .slice none 0 0, .int .i64 0] 32 (0, 0))) := Lib.hid (by rw [← hw2, ← hbf]; exact heap_alloc_new _ _)
  have S2 : Hid (bf ≤ W2.heap.size) := Lib.hid (by rw [← hbf]; exact b2.size)
  have HW2 := Lib.hid hw2
  have HBF := Lib.hid hbf
  clear b1 hr5 hz5 hz5a hz5b hzn haa b2 hw2 hbf hL
  go_wp2_with (first
    | (refine wpList_bx rfl 32 (.tmp 26) rfl 27 rfl #[.pointer none, .pointer none, .slice none 0 0, .slice none 0 0, .slice none 0 0, .slice none 0 0, .slice none 0 0, .int .i64 0] rfl ?_; rw [HW2.out, HBF.out])
    | fail)
  clear hr5' hz5' hz5a' hz5b' hv1 hv2 hv3 hv4
  obtain ⟨F, hF⟩ : ∃ q, first / 2 = q := ⟨_, rfl⟩
  have HF := Lib.hid (show F ≤ 9223372036854775807 by have := HFI.out; omega)
  have hq : (first : Int) / 2 = (F : Int) := by omega
  have hq2 : (first : Int).tdiv 2 = (F : Int) := by rw [Int.tdiv_eq_ediv_of_nonneg (by omega)]; exact hq
  have hq3 : IntKind.u64.wrap (F : Int) = (F : Int) := IntWalk.u64_in _ (by have := HF.out; omega)
  have KE := Lib.hid (endsW F aa (by have := HF.out; omega) (by have := HAA.out; omega) W2.drew)
  have hmx : max aa 1 = aa := by have := HAA.out; omega
  rw [hmx] at KE
  refine region_heldT (S := fun u => ∃ cs, u.heap[bf]? = some (.cells cs 32 (0, 0))) 16 (by kernel_rfl) (by decide) (fun inv => ?_)
  have HS : ∃ cs, W2.drew.heap[bf]? = some (.cells cs 32 (0, 0)) := ⟨_, R2.out⟩
  change FirstH _ _ _ _ _ _ _ _ _ _ W2.drew
  have S2d : Hid (bf ≤ W2.drew.heap.size) := Lib.hid S2.out
  have B2d : Hid (Below base W W2.drew) := Lib.hid B2.out.drew
  generalize W2.drew = u2 at *
  refine FirstH.go (i := 0) (v := .pointer (some ⟨bf, 0, none⟩)) rfl rfl _ rfl _ rfl (by kernel_rfl) (fun _ _ _ h => h) inv (fun X _ => by unfold bareO; go_simp) HS (fun inv => ?_)
  try simp only [Act.put, List.setIfInBounds_toArray, List.set_cons_zero, List.set_cons_succ]
  refine FirstH.go (i := 1) (v := .pointer (some ⟨bf, 0, none⟩)) rfl rfl _ rfl _ rfl (by kernel_rfl) (fun _ _ _ h => h) inv (fun X _ => by unfold bareO; go_simp) HS (fun inv => ?_)
  try simp only [Act.put, List.setIfInBounds_toArray, List.set_cons_zero, List.set_cons_succ]
  refine FirstH.go (i := 2) (v := .int .u64 first) rfl rfl _ rfl _ rfl (by kernel_rfl) (fun _ _ _ h => h) inv (fun X _ => by unfold bareO; go_simp) HS (fun inv => ?_)
  try simp only [Act.put, List.setIfInBounds_toArray, List.set_cons_zero, List.set_cons_succ]
  refine FirstH.go (i := 3) (v := .int .u64 F) rfl rfl _ rfl _ rfl (by kernel_rfl) (fun _ _ _ h => h) inv (fun X _ => by have h1 := hq; have h2 := hq2; have h3 := hq3; unfold bareO; go_simp) HS (fun inv => ?_)
  try simp only [Act.put, List.setIfInBounds_toArray, List.set_cons_zero, List.set_cons_succ]
  refine FirstH.go (i := 4) (v := .int .i64 aa) rfl rfl _ rfl _ rfl (by kernel_rfl) (fun _ _ _ h => h) inv (fun X _ => by unfold bareO; go_simp) HS (fun inv => ?_)
  try simp only [Act.put, List.setIfInBounds_toArray, List.set_cons_zero, List.set_cons_succ]
  refine FirstH.go (i := 9) (v := .pointer (some ⟨bf, 0, none⟩)) rfl rfl _ rfl _ rfl (by kernel_rfl) (fun _ _ _ h => h) inv (fun X _ => by unfold bareO; go_simp) HS (fun inv => ?_)
  try simp only [Act.put, List.setIfInBounds_toArray, List.set_cons_zero, List.set_cons_succ]
  refine FirstH.go (i := 10) (v := .pointer (some ⟨bf, 0, none⟩)) rfl rfl _ rfl _ rfl (by kernel_rfl) (fun _ _ _ h => h) inv (fun X _ => by unfold bareO; go_simp) HS (fun inv => ?_)
  try simp only [Act.put, List.setIfInBounds_toArray, List.set_cons_zero, List.set_cons_succ]
  refine FirstH.go (i := 13) (v := .pointer (some ⟨bf, 0, none⟩)) rfl rfl _ rfl _ rfl (by kernel_rfl) (fun _ _ _ h => h) inv (fun X _ => by unfold bareO; go_simp) HS (fun inv => ?_)
  try simp only [Act.put, List.setIfInBounds_toArray, List.set_cons_zero, List.set_cons_succ]
  refine FirstH.go (i := 14) (v := .pointer (some ⟨bf, 0, none⟩)) rfl rfl _ rfl _ rfl (by kernel_rfl) (fun _ _ _ h => h) inv (fun X _ => by unfold bareO; go_simp) HS (fun inv => ?_)
  try simp only [Act.put, List.setIfInBounds_toArray, List.set_cons_zero, List.set_cons_succ]
  clear HS
  refine FirstH.only (i := 5) (by kernel_rfl) (by decide) inv (fun inv => wpOp_call (i := 5) rfl rfl 34 rfl _ rfl 5 #[.int .u64 F, .int .i64 aa] (by unfold bareO; go_simp) KE.out ?_)
  rintro e u3 ⟨bx, mx, b_y, m_y, rfl, px, py, nb, nm, b3⟩
  have r3 := (b3.block bf (blt R2.out)).trans R2.out
  have HS : ∃ cs, u3.heap[bf]? = some (.cells cs 32 (0, 0)) := ⟨_, r3⟩
  refine ⟨_, rfl, HS, ?_⟩
  try simp only [Act.put, List.setIfInBounds_toArray, List.set_cons_zero, List.set_cons_succ]
  refine FirstH.go (i := 6) (v := .tuple #[.pointer (some ⟨bx, 0, none⟩), .pointer (some ⟨b_y, 0, none⟩)]) rfl rfl _ rfl _ rfl (by kernel_rfl) (fun _ _ _ h => h) inv (fun X _ => by unfold bareO; go_simp) HS (fun inv => ?_)
  try simp only [Act.put, List.setIfInBounds_toArray, List.set_cons_zero, List.set_cons_succ]
  refine FirstH.go (i := 7) (v := .pointer (some ⟨bx, 0, none⟩)) rfl rfl _ rfl _ rfl (by kernel_rfl) (fun _ _ _ h => h) inv (fun X _ => by unfold bareO; go_simp) HS (fun inv => ?_)
  try simp only [Act.put, List.setIfInBounds_toArray, List.set_cons_zero, List.set_cons_succ]
  refine FirstH.go (i := 8) (v := .pointer (some ⟨b_y, 0, none⟩)) rfl rfl _ rfl _ rfl (by kernel_rfl) (fun _ _ _ h => h) inv (fun X _ => by unfold bareO; go_simp) HS (fun inv => ?_)
  try simp only [Act.put, List.setIfInBounds_toArray, List.set_cons_zero, List.set_cons_succ]
  refine FirstH.go (i := 11) (v := .pointer (some ⟨bf, 0, none⟩)) rfl rfl _ rfl _ rfl (by kernel_rfl) (fun _ _ _ h => h) inv (fun X _ => by unfold bareO; go_simp) HS (fun inv => ?_)
  try simp only [Act.put, List.setIfInBounds_toArray, List.set_cons_zero, List.set_cons_succ]
  clear HS
  obtain ⟨u4, hu4⟩ : ∃ q, u3.setCell ⟨bf, 0, none⟩ (.pointer (some ⟨bx, 0, none⟩)) = q := ⟨_, rfl⟩
  have r4 : u4.heap[bf]? = some (.cells #[.pointer (some ⟨bx, 0, none⟩), .pointer none, .slice none 0 0, .slice none 0 0, .slice none 0 0, .slice none 0 0, .slice none 0 0, .int .i64 0] 32 (0, 0)) := by rw [← hu4]; exact (row_set r3 _).trans rfl
  have HS : ∃ cs, u4.heap[bf]? = some (.cells cs 32 (0, 0)) := ⟨_, r4⟩
  have c30 := cell_of r3 0 (.pointer none) rfl
  have z30 := frz_row 0 r3
  refine FirstH.only (i := 12) (by kernel_rfl) (by decide) inv (fun inv => wpOp_st (i := 12) (w' := u4) rfl rfl rfl _ rfl (by rw [← hu4]; unfold bareO; go_simp) ?_)
  refine ⟨HS, ?_⟩
  try simp only [Act.put, List.setIfInBounds_toArray, List.set_cons_zero, List.set_cons_succ]
  refine FirstH.go (i := 15) (v := .pointer (some ⟨bf, 1, none⟩)) rfl rfl _ rfl _ rfl (by kernel_rfl) (fun _ _ _ h => h) inv (fun X _ => by unfold bareO; go_simp) HS (fun inv => ?_)
  try simp only [Act.put, List.setIfInBounds_toArray, List.set_cons_zero, List.set_cons_succ]
  clear HS c30 z30
  obtain ⟨u5, hu5⟩ : ∃ q, u4.setCell ⟨bf, 1, none⟩ (.pointer (some ⟨b_y, 0, none⟩)) = q := ⟨_, rfl⟩
  have r5 : u5.heap[bf]? = some (.cells #[.pointer (some ⟨bx, 0, none⟩), .pointer (some ⟨b_y, 0, none⟩), .slice none 0 0, .slice none 0 0, .slice none 0 0, .slice none 0 0, .slice none 0 0, .int .i64 0] 32 (0, 0)) := by rw [← hu5]; exact (row_set r4 _).trans rfl
  have kp5 : KP (fun g => g = bf) u3 u5 := (by rw [← hu4]; exact KP.set (S := fun g => g = bf) u3 bf 0 _ rfl : KP (fun g => g = bf) u3 u4).trans (by rw [← hu5]; exact KP.set (S := fun g => g = bf) u4 bf 1 _ rfl) fun _ _ h => h
  have hS5 : ∀ g, g = bf → ∃ cu t, u3.heap[g]? = some (.cells cu t (0, 0)) ∧ t ≠ 64 ∧ t ≠ 60 ∧ t ≠ 5 := by
    rintro g rfl
    exact ⟨_, _, r3, by decide, by decide, by decide⟩
  have J5 : Hid (Fm bf u5 ⟨bf, bx, mx, .slice none 0 0, b_y, m_y, .slice none 0 0, .slice none 0 0, .slice none 0 0, .slice none 0 0, .slice none 0 0, .slice none 0 0⟩ (y0F F aa) 0) := Lib.hid ⟨Nat.le_refl _, r5, (px.lower S2d.out).offT kp5 hS5, (py.lower S2d.out).offT kp5 hS5, RowO.nil _ _ _, (fun p hp => by cases hp), RowO.nil _ _ _, RowO.nil _ _ _, RowO.nil _ _ _, RowO.nil _ _ _, nb, nm, (fun g hg => by cases hg), (fun g hg => by cases hg), (fun g hg => by cases hg), (fun g hg => by cases hg), (fun g hg => by cases hg), (fun g hg => by cases hg), (fun g hg => by cases hg), (fun g hg => by cases hg), (fun g hg => by cases hg), (fun g hg => by cases hg), (fun g hg => by cases hg), (fun g hg => by cases hg)⟩
  have G5 := Lib.hid (Fg.init F aa HF.out (by have := HAA.out; omega))
  have B5 := Lib.hid ((B2d.out.trans (b3.mono (Nat.le_trans SB.out S2d.out))).trans (kp5.below (Nat.le_trans SB.out (Nat.le_trans S2d.out b3.size)) fun g hg => by have e : g = bf := hg; rw [e]; exact SB.out))
  have HU5 := Lib.hid hu5
  have c41 := cell_of r4 1 (.pointer none) rfl
  have z41 := frz_row 1 r4
  clear inv r3 r5 kp5 hS5 px py nb nm b3 hu4 hu5 hmx KE
  refine ⟨by kernel_rfl, ?_⟩
  simp only [List.drop_succ_cons, List.drop_zero]
  go_wp2_with (rw [HU5.out])
  clear c41 z41 r4 hq hq2 hq3
  go_loopw [8] (fun iv wx => ∃ (k : Nat) (x : Fa) (y : Fc) (kc : Nat), iv = .int .i64 k ∧ k ≤ n ∧ Hid (x.f = bf) ∧ Hid (Fm bf wx x y kc) ∧ Hid (Fg F y kc (2 * k)) ∧ Hid (Below base W wx)) (fun iv _ => n - (intOf iv).toNat)
  case atStart => exact ⟨0, _, _, 0, rfl, Nat.zero_le _, Lib.hid rfl, J5, G5, B5⟩
  clear J5 G5 B5
  case round =>
    obtain ⟨k, x, y, kc, rfl, hk, EB, JJ, GG, BB⟩ := hrel
    by_cases hlt : k < n
    · as_aux_lemma =>
      skip
      have l1 : (k : Int) < (n : Int) := by omega
      have hkL : k < L.length := by have := HN.out; omega
      have hx := List.getElem?_eq_getElem hkL
      obtain ⟨sb, so, hA, -, cc⟩ := I0.out wr BB.out k _ hx
      obtain ⟨s, hs⟩ : ∃ s, L[k] = s := ⟨_, rfl⟩
      rw [hs] at cc
      obtain ⟨kd, X, Iv⟩ := s
      have HJI := Lib.hid hlt
      subst hA
      have hcc : (n : Int) ≤ (c0 : Int) := by have := LC.out.1; have := HN.out; omega
      unfold St3.cs at cc
      have c0_ : wr.cell? ⟨sb, so + k * 3, none⟩ = _ := cc 0 _ rfl
      have c1_ : wr.cell? ⟨sb, so + k * 3 + 1, none⟩ = _ := cc 1 _ rfl
      have c2_ : wr.cell? ⟨sb, so + k * 3 + 2, none⟩ = _ := cc 2 _ rfl
      have KS : Hid (Calls Try.prog 6 #[.pointer (some ⟨bf, 0, none⟩), .agg #[.int .i64 kd, .int .i64 X, .int .i64 Iv]] wr fun e W' => e = .returned (.tuple #[]) ∧ FstM bf wr x F (2 * k) W') := Lib.hid (by
        have h := fstepAll bf wr x y F kc (2 * k) JJ.out GG.out (by have := HCAP.out; omega) HF.out kd X Iv
        rw [EB.out] at h
        exact h)
      clear cc hx hs hk hlt
      go_wp2_with fail
      refine KS.out.mono ?_
      rintro e W4 ⟨rfl, x', y', k', hx', hJ, hG, hB⟩
      have J4 := Lib.hid hJ
      have E4 := Lib.hid (hx'.trans EB.out)
      have G4 : Hid (Fg F y' k' (2 * (k + 1))) := Lib.hid (by rw [show 2 * (k + 1) = 2 * k + 2 by omega]; exact hG)
      have B4 := Lib.hid (BB.out.trans (hB.mono SB.out))
      have S4 : Hid (base ≤ W4.heap.size) := Lib.hid (by have := B4.out.size; have := HBS.out; omega)
      clear hx' hJ hG hB c0_ c1_ c2_ KS JJ GG BB EB
      obtain ⟨kb1, kb0⟩ := begins bf W4 x' y' k' J4.out G4.out.C.1 G4.out.C.2.1
      have KB1 := Lib.hid kb1
      have KB0 := Lib.hid kb0
      have lnk := J4.out.blk
      rw [E4.out] at lnk
      obtain ⟨fb, b0, m0, v0, b1, m1, v1, fv, sv0, sv1, cv0, cv1⟩ := x'
      simp only [Fa.cs] at lnk KB1 KB0
      have k3 := cell_regrown (cell_of lnk 3 sv0 rfl)
      have k4 := cell_regrown (cell_of lnk 4 sv1 rfl)
      have k5 := cell_regrown (cell_of lnk 5 cv0 rfl)
      have k6 := cell_regrown (cell_of lnk 6 cv1 rfl)
      clear lnk kb1 kb0
      go_wp2_with fail
      try simp only [Act.put, List.setIfInBounds_toArray, List.set_cons_zero, List.set_cons_succ]
      refine wp_region_quiet_below (by kernel_rfl) (by kernel_rfl) ?_
      repeat (go_big_quiet_step (first | (go_at_call 7; first | (with_reducible exact Calls.regrown_of (KB1.out _ _)) | (with_reducible exact Calls.regrown_of (KB0.out _ _))) | fail))
      refine wpQuiet_nil ?_
      rintro W9 ⟨p9, rfl⟩
      have J9 := Lib.hid (J4.out.below (below_regrown W4 p9.d p9.os))
      have B9 := Lib.hid (B4.out.trans ((below_regrown W4 p9.d p9.os).mono S4.out))
      generalize grow (redrawn W4 p9.d) p9.os = W9 at *
      clear k3 k4 k5 k6 KB1 KB0 J4 B4 S4
      go_wp2_with fail
      go_roundw
      case rel => exact ⟨k + 1, _, y', k', by have := HCAP.out; have := HJI.out; go_num, by have := HJI.out; omega, E4, J9, G4, B9⟩
      case measure => have := HCAP.out; have := HJI.out; simp [intOf]; omega
    · obtain rfl : n = k := by omega
      have l1 : ¬ (n : Int) < (n : Int) := by omega
      have FR := Lib.hid (GG.out.fr (by have := HCAP.out; omega))
      have KC : Hid (kc ≤ 300 + 40 * 0) := Lib.hid (by have := GG.out.k; have := HCAP.out; omega)
      have NOW0 : Hid (0 ≤ y.now ∧ y.now ≤ 300 + 6 * ((0 : Nat) : Int)) := Lib.hid (by have := GG.out.now; have := HCAP.out; omega)
      clear hk hlt GG
      go_wp2_with fail
      go_loopw [9] (fun iv wx => ∃ (ri : Nat) (x : Fa) (y : Fc) (kc : Nat), iv = .int .i64 ri ∧ ri ≤ 60 ∧ Hid (x.f = bf) ∧ Hid (Fm bf wx x y kc) ∧ Hid (Fr F y ri) ∧ Hid (0 ≤ y.now ∧ y.now ≤ 300 + 6 * ri) ∧ Hid (kc ≤ 300 + 40 * ri) ∧ Hid (Below base W wx)) (fun iv _ => 60 - (intOf iv).toNat)
      case atStart => exact ⟨0, x, y, kc, rfl, Nat.zero_le _, EB, JJ, FR, NOW0, KC, BB⟩
      clear JJ FR NOW0 KC BB EB
      case round =>
        obtain ⟨ri, x, y, kr, rfl, hri, EB, JJ, FR, NOW, KR, BB⟩ := hrel
        obtain ⟨x0, hx0⟩ : ∃ z : World, z = wr := ⟨_, rfl⟩
        subst hx0
        by_cases hlt : ri < 60
        · as_aux_lemma =>
          skip
          have l1 : (ri : Int) < 60 := by omega
          have HRI := Lib.hid hlt
          obtain ⟨fb, b0, m0, v0, b1, m1, v1, fv, sv0, sv1, cv0, cv1⟩ := x
          obtain rfl : bf = fb := EB.out.symm
          obtain ⟨now, hnow⟩ : ∃ z, y.now = z := ⟨_, rfl⟩
          have lnk := JJ.out.blk
          simp only [Fa.cs, hnow] at lnk
          have nw := NOW.out
          rw [hnow] at nw
          have hw6 : IntKind.i64.wrap (now + 6) = now + 6 := IntWalk.i64_in _ (by omega)
          have hw6' : wrap64 (now + 6) = now + 6 := IntWalk.wrap64_in _ (by omega)
          have c7 := cell_of lnk 7 (.int .i64 now) rfl
          have z7 := frz_row 7 lnk
          obtain ⟨W2, hW2⟩ : ∃ Y, x0.setCell ⟨bf, 7, none⟩ (.int .i64 (now + 6)) = Y := ⟨_, rfl⟩
          have kt : KP (fun g => g = bf) x0 W2 := by rw [← hW2]; exact KP.set (S := fun g => g = bf) x0 bf 7 _ rfl
          have J2 := Lib.hid (JJ.out.tick (W' := W2) (t := now + 6) kt (by simp only [Fa.cs]; rw [← hW2]; exact (row_set lnk _).trans rfl))
          have B2 := Lib.hid (BB.out.trans (kt.below (Nat.le_trans SB.out (Nat.le_of_lt (blt lnk))) fun g hg => by have e : g = bf := hg; rw [e]; exact SB.out))
          have T2 : Hid (StJ F ri 0 { y with now := now + 6 }) := Lib.hid (.inl ⟨rfl, FR.out.tick (by rw [hnow])⟩)
          obtain ⟨tn, htn⟩ : ∃ z, now + 6 = z := ⟨_, rfl⟩
          have TN : Hid (0 ≤ tn ∧ tn ≤ 300 + 6 * ((ri + 1 : Nat) : Int)) := Lib.hid (by omega)
          have RI := Lib.hid hlt
          have KRI := Lib.hid KR.out
          have HW2 := Lib.hid hW2
          rw [htn] at HW2 J2 T2
          have hw7 : IntKind.i64.wrap (now + 6) = tn := hw6.trans htn
          have hw7' : wrap64 (now + 6) = tn := hw6'.trans htn
          clear hw6 hw6'
          clear kt hW2 lnk nw hnow hlt hri JJ FR NOW BB htn
          go_wp2_with (rw [HW2.out])
          go_loopw [10] (fun xv wx => ∃ (j : Nat) (x : Fa) (y : Fc) (kc : Nat), xv = .int .i64 j ∧ j ≤ 2 ∧ Hid (x.f = bf) ∧ Hid (Fm bf wx x y kc) ∧ Hid (StJ F ri j y) ∧ Hid (y.now = tn) ∧ Hid (kc ≤ kr + 20 * j) ∧ Hid (Below base W wx)) (fun xv _ => 2 - (intOf xv).toNat)
          case atStart => exact ⟨0, ⟨bf, b0, m0, v0, b1, m1, v1, fv, sv0, sv1, cv0, cv1⟩, { y with now := tn }, kr, rfl, by decide, Lib.hid rfl, J2, T2, Lib.hid rfl, Lib.hid (Nat.le_refl _), B2⟩
          clear J2 T2 B2 c7 z7 hw7 hw7'
          case round =>
            obtain ⟨j, x, y, kc, rfl, hj, EB, JJ, ST, NW, KC2, BB⟩ := hrel
            by_cases hj0 : j = 0
            · as_aux_lemma =>
              skip
              subst hj0
              clear hj
              have TS := ST.out.s0
              obtain ⟨fb, b0, m0, v0, b1, m1, v1, fv, sv0, sv1, cv0, cv1⟩ := x
              obtain rfl : bf = fb := EB.out.symm
              obtain ⟨u2, hu2⟩ : ∃ z, wr.drew = z := ⟨_, rfl⟩
              have bu : Below wr.heap.size wr u2 := by rw [← hu2]; exact (Below.refl _ _).drew
              have hsw : bf ≤ wr.heap.size := Nat.le_of_lt (blt JJ.out.blk)
              have J3 := Lib.hid (JJ.out.below bu)
              have S3 : Hid (bf ≤ u2.heap.size) := Lib.hid (Nat.le_trans hsw bu.size)
              have B3 := Lib.hid (BB.out.trans (bu.mono (Nat.le_trans SB.out hsw)))
              have H3 : Hid (u2.heap[bf]? = some (.cells #[.pointer (some ⟨b0, 0, none⟩), .pointer (some ⟨b1, 0, none⟩), fv, sv0, sv1, cv0, cv1, .int .i64 tn] 32 (0, 0))) := Lib.hid (by
                have q := J3.out.blk
                simp only [Fa.cs] at q
                rw [NW.out] at q
                exact q)
              have HU2 := Lib.hid hu2
              have KO := Lib.hid (outW _ _ _ _ _ _ _ _ _ J3.out.p0 tn (by have := TN.out; omega))
              have HTS := Lib.hid TS
              clear hu2 bu hsw TS JJ BB ST
              go_wp2_with fail
              refine region_heldT (S := fun X => X.heap[bf]? = some (.cells #[.pointer (some ⟨b0, 0, none⟩), .pointer (some ⟨b1, 0, none⟩), fv, sv0, sv1, cv0, cv1, .int .i64 tn] 32 (0, 0))) 11 (by kernel_rfl) (by decide) (fun inv => ?_)
              change FirstH _ _ _ _ _ _ _ _ _ _ wr.drew
              rw [HU2.out]
              have HS := H3.out
              refine FirstH.go (i := 0) (v := .pointer (some ⟨bf, 0, none⟩)) rfl rfl _ rfl _ rfl (by kernel_rfl) (fun _ _ _ h => h) inv (fun X _ => by unfold bareO; go_simp) HS (fun inv => ?_)
              try simp only [Act.put, List.setIfInBounds_toArray, List.set_cons_zero, List.set_cons_succ]
              refine FirstH.go (i := 1) (v := .int .i64 0) rfl rfl _ rfl _ rfl (by kernel_rfl) (fun _ _ _ h => h) inv (fun X _ => by unfold bareO; go_simp) HS (fun inv => ?_)
              try simp only [Act.put, List.setIfInBounds_toArray, List.set_cons_zero, List.set_cons_succ]
              refine FirstH.go (i := 2) (v := .pointer (some ⟨bf, 0, none⟩)) rfl rfl _ rfl _ rfl (by kernel_rfl) (fun _ _ _ h => h) inv (fun X _ => by unfold bareO; go_simp) HS (fun inv => ?_)
              try simp only [Act.put, List.setIfInBounds_toArray, List.set_cons_zero, List.set_cons_succ]
              refine FirstH.go (i := 3) (v := .pointer (some ⟨bf, 0, none⟩)) rfl rfl _ rfl _ rfl (by kernel_rfl) (fun _ _ _ h => h) inv (fun X _ => by unfold bareO; go_simp) HS (fun inv => ?_)
              try simp only [Act.put, List.setIfInBounds_toArray, List.set_cons_zero, List.set_cons_succ]
              refine FirstH.go (i := 4) (v := .pointer (some ⟨bf, 0, none⟩)) rfl rfl _ rfl _ rfl (by kernel_rfl) (fun _ _ _ h => h) inv (fun X _ => by unfold bareO; go_simp) HS (fun inv => ?_)
              try simp only [Act.put, List.setIfInBounds_toArray, List.set_cons_zero, List.set_cons_succ]
              refine FirstH.go (i := 5) (v := .pointer (some ⟨b0, 0, none⟩)) rfl rfl _ rfl _ rfl (by kernel_rfl) (fun _ _ _ h => h) inv (fun X hS => by have c1 := cell_of hS 0 (.pointer (some ⟨b0, 0, none⟩)) rfl; unfold bareO; go_simp) HS (fun inv => ?_)
              try simp only [Act.put, List.setIfInBounds_toArray, List.set_cons_zero, List.set_cons_succ]
              refine FirstH.go (i := 6) (v := .pointer (some ⟨bf, 0, none⟩)) rfl rfl _ rfl _ rfl (by kernel_rfl) (fun _ _ _ h => h) inv (fun X _ => by unfold bareO; go_simp) HS (fun inv => ?_)
              try simp only [Act.put, List.setIfInBounds_toArray, List.set_cons_zero, List.set_cons_succ]
              refine FirstH.go (i := 7) (v := .pointer (some ⟨bf, 0, none⟩)) rfl rfl _ rfl _ rfl (by kernel_rfl) (fun _ _ _ h => h) inv (fun X _ => by unfold bareO; go_simp) HS (fun inv => ?_)
              try simp only [Act.put, List.setIfInBounds_toArray, List.set_cons_zero, List.set_cons_succ]
              refine FirstH.go (i := 8) (v := .pointer (some ⟨bf, 7, none⟩)) rfl rfl _ rfl _ rfl (by kernel_rfl) (fun _ _ _ h => h) inv (fun X _ => by unfold bareO; go_simp) HS (fun inv => ?_)
              try simp only [Act.put, List.setIfInBounds_toArray, List.set_cons_zero, List.set_cons_succ]
              refine FirstH.go (i := 9) (v := .int .i64 tn) rfl rfl _ rfl _ rfl (by kernel_rfl) (fun _ _ _ h => h) inv (fun X hS => by have c1 := cell_of hS 7 (.int .i64 tn) rfl; unfold bareO; go_simp) HS (fun inv => ?_)
              try simp only [Act.put, List.setIfInBounds_toArray, List.set_cons_zero, List.set_cons_succ]
              clear HS
              refine FirstH.only (i := 10) (by kernel_rfl) (by decide) inv (fun inv => wpOp_call (i := 10) rfl rfl 107 rfl _ rfl 8 #[.pointer (some ⟨b0, 0, none⟩), .int .i64 tn] (by unfold bareO; go_simp) KO.out ?_)
              rintro e W4 ⟨pv, P, rfl, own4, ok4, hpu, p4, k4⟩
              have J4 := Lib.hid (J3.out.link0 (Nat.le_refl _) p4 k4 J3.out.av)
              have B4 := Lib.hid (B3.out.trans ((J3.out.p0.kbelow k4 S3.out).mono SB.out))
              have H4 : W4.heap[bf]? = some (.cells #[.pointer (some ⟨b0, 0, none⟩), .pointer (some ⟨b1, 0, none⟩), fv, sv0, sv1, cv0, cv1, .int .i64 tn] 32 (0, 0)) := by
                have q := J4.out.blk
                simp only [Fa.cs] at q
                rw [NW.out] at q
                exact q
              refine ⟨_, rfl, H4, ?_⟩
              try simp only [Act.put, List.setIfInBounds_toArray, List.set_cons_zero, List.set_cons_succ]
              obtain ⟨m, hm⟩ : ∃ z, P.length = z := ⟨_, rfl⟩
              have hm8 : m ≤ 8 := by
                have q := fOut_len y.s0 tn y.L0
                rw [← hpu, List.length_map, hm] at q
                exact q
              have HM8 := Lib.hid hm8
              have HM := Lib.hid hm
              have OK4 := Lib.hid ok4
              have RO4 : Hid (RowO W4 46 8 pv m (flat Pk.cs P)) := Lib.hid (by rw [← hm]; exact RowO.of_owns own4)
              obtain ⟨HH0, hseq⟩ := HTS.out.out (P := P) (y' := { y with s0 := { y.s0 with owed := false }, L0 := outL tn y.s0.again y.L0 8 }) (by rw [NW.out]; exact hpu) (by rw [NW.out])
              have HH4 := Lib.hid HH0
              have HSEQ := Lib.hid hseq
              obtain ⟨pA, pc, rfl, hpc, _, hpA⟩ := RO4.out.slice
              have HPA := Lib.hid hpA
              have HPC := Lib.hid hpc
              clear own4 ok4 hpu p4 k4 hm H4 HH0 hseq hpA inv
              refine ⟨by kernel_rfl, ?_⟩
              simp only [List.drop_succ_cons, List.drop_zero]
              go_wp2_with fail
              go_loopw [12] (fun kv wx => ∃ (q : Nat) (x : Fa) (y : Fc) (kc2 : Nat), kv = .int .i64 q ∧ q ≤ m ∧ Hid (x.f = bf) ∧ Hid (Fm bf wx x y kc2) ∧ Hid (Hs0 F y P ri q) ∧ Hid (y.now = tn) ∧ Hid (kc2 ≤ kc + q) ∧ Hid (RowO wx 46 8 (.slice pA m pc) m (flat Pk.cs P)) ∧ Hid (∀ p ∈ P, p.b.Ok wx) ∧ Hid (Below base W wx)) (fun kv _ => m - (intOf kv).toNat)
              case atStart => exact ⟨0, _, _, kc, rfl, Nat.zero_le _, Lib.hid rfl, J4, HH4, NW, Lib.hid (Nat.le_refl _), RO4, OK4, B4⟩
              clear J4 HH4 RO4 OK4 B4
              case round =>
                obtain ⟨q, x, y2, kc2, rfl, hq, EB2, JJ, HH, NW2, KQ, RO, OKP, BB⟩ := hrel
                by_cases hqm : q < m
                · as_aux_lemma =>
                  skip
                  have hqi : (q : Int) < (m : Int) := by omega
                  have HQ := Lib.hid hqm
                  have hmi : (m : Int) ≤ (pc : Int) := by have := HPC.out; omega
                  have hql : q < P.length := by rw [HM.out]; exact hqm
                  obtain ⟨p, hp⟩ : ∃ p, P[q]? = some p := ⟨P[q], List.getElem?_eq_getElem hql⟩
                  have hmem := List.mem_of_getElem? hp
                  have okp := OKP.out p hmem
                  have hto := HH.out.to hp
                  have hsq := HSEQ.out p hmem
                  have hfew := HH.out.few JJ.out
                  obtain ⟨g, o, rfl⟩ : ∃ g o, pA = some ⟨g, o, none⟩ := by
                    rcases HPA.out with ⟨_, h1⟩ | h1
                    · have := HPC.out
                      omega
                    · exact h1
                  obtain ⟨fn, fl, tn_, tl, sq, ak, hs, ⟨xB, xA, xc⟩⟩ := p
                  obtain ⟨xl, hxl⟩ : ∃ z, xB.length = z := ⟨_, rfl⟩
                  have e0 := RowO.elem Pk.sz RO.out hp (j := 0) (by decide)
                  have e1 := RowO.elem Pk.sz RO.out hp (j := 1) (by decide)
                  have e2 := RowO.elem Pk.sz RO.out hp (j := 2) (by decide)
                  have e3 := RowO.elem Pk.sz RO.out hp (j := 3) (by decide)
                  have e4 := RowO.elem Pk.sz RO.out hp (j := 4) (by decide)
                  have e5 := RowO.elem Pk.sz RO.out hp (j := 5) (by decide)
                  have e6 := RowO.elem Pk.sz RO.out hp (j := 6) (by decide)
                  have e7 := RowO.elem Pk.sz RO.out hp (j := 7) (by decide)
                  simp only [Pk.cs, hxl, List.getElem?_toArray, List.getElem?_cons_zero, List.getElem?_cons_succ, Nat.add_zero] at e0 e1 e2 e3 e4 e5 e6 e7
                  have HB_ := okp.ownB
                  have KH : Hid (Calls Try.prog 9 #[.pointer (some ⟨bf, 0, none⟩), .agg #[.int .u8 fn, .int .u16 fl, .int .u8 tn_, .int .u16 tl, .int .u64 sq, .int .u64 ak, .bool hs, .slice xA xl xc]] wr fun e W' => e = .returned (.tuple #[]) ∧ FheR1 bf wr x y2 kc2 ⟨fn, fl, tn_, tl, sq, ak, hs, xB⟩ W') := Lib.hid (by
                    have q := fhear1 bf wr x y2 kc2 JJ.out ⟨fn, fl, tn_, tl, sq, ak, hs, xB⟩ xA xc HB_.1 okp.len HB_.2.1 HB_.2.2 hsq (by have := KQ.out; have := KC2.out; have := KRI.out; have := RI.out; have := HM8.out; omega) hfew.1 hfew.2 hto
                    unfold Hp.cs at q
                    simp only [hxl] at q
                    rw [EB2.out] at q
                    exact q)
                  have HP := Lib.hid hp
                  clear hq hqm hp hmem okp hto hsq hfew hxl HB_ hql
                  go_wp2_with fail
                  refine KH.out.mono ?_
                  rintro e W9 ⟨rfl, x', K', hx', eK, hFm, hb9, hkt⟩
                  have H9 := Lib.hid (HH.out.step HP.out eK rfl)
                  have J9 := Lib.hid hFm
                  have E9 := Lib.hid (hx'.trans EB2.out)
                  have R9 := Lib.hid (hkt.rowO RO.out)
                  have O9 : Hid (∀ p ∈ P, p.b.Ok W9) := Lib.hid fun p hp => hkt.ok (OKP.out p hp)
                  have B9 := Lib.hid (BB.out.trans (hb9.mono SB.out))
                  have K9 : Hid (kc2 + 1 ≤ kc + (q + 1)) := Lib.hid (by have := KQ.out; omega)
                  clear hx' eK hFm hb9 hkt KH e0 e1 e2 e3 e4 e5 e6 e7
                  go_wp2_with fail
                  go_roundw
                  case rel => exact ⟨q + 1, x', _, kc2 + 1, by have := HQ.out; have := HM8.out; go_num, by have := HQ.out; omega, E9, J9, H9, NW2, K9, R9, O9, B9⟩
                  case measure => have := HQ.out; have := HM8.out; simp [intOf]; omega
                · obtain rfl : m = q := by omega
                  have hqi : ¬ (m : Int) < (m : Int) := by omega
                  have HH : Hs0 F y2 P ri P.length := by rw [HM.out]; exact HH.out
                  have ST2 : Hid (StJ F ri 1 y2) := Lib.hid (Or.inr (Or.inl ⟨rfl, HH.done⟩))
                  have K2 : Hid (kc2 ≤ kr + 20 * (0 + 1)) := Lib.hid (by have := KQ.out; have := KC2.out; have := HM8.out; omega)
                  clear hq hqm HH
                  go_wp2_with fail
                  go_roundw
                  case rel => exact ⟨1, x, y2, kc2, by go_num, by decide, EB2, JJ, ST2, NW2, K2, BB⟩
                  case measure => first | (simp [intOf]; done) | (simp [intOf]; omega)
            by_cases hj1 : j = 1
            · as_aux_lemma =>
              skip
              subst hj1
              clear hj hj0
              have TS := ST.out.s1
              obtain ⟨fb, b0, m0, v0, b1, m1, v1, fv, sv0, sv1, cv0, cv1⟩ := x
              obtain rfl : bf = fb := EB.out.symm
              obtain ⟨u2, hu2⟩ : ∃ z, wr.drew = z := ⟨_, rfl⟩
              have bu : Below wr.heap.size wr u2 := by rw [← hu2]; exact (Below.refl _ _).drew
              have hsw : bf ≤ wr.heap.size := Nat.le_of_lt (blt JJ.out.blk)
              have J3 := Lib.hid (JJ.out.below bu)
              have S3 : Hid (bf ≤ u2.heap.size) := Lib.hid (Nat.le_trans hsw bu.size)
              have B3 := Lib.hid (BB.out.trans (bu.mono (Nat.le_trans SB.out hsw)))
              have H3 : Hid (u2.heap[bf]? = some (.cells #[.pointer (some ⟨b0, 0, none⟩), .pointer (some ⟨b1, 0, none⟩), fv, sv0, sv1, cv0, cv1, .int .i64 tn] 32 (0, 0))) := Lib.hid (by
                have q := J3.out.blk
                simp only [Fa.cs] at q
                rw [NW.out] at q
                exact q)
              have HU2 := Lib.hid hu2
              have KO := Lib.hid (outW _ _ _ _ _ _ _ _ _ J3.out.p1 tn (by have := TN.out; omega))
              have HTS := Lib.hid TS
              clear hu2 bu hsw TS JJ BB ST
              go_wp2_with fail
              refine region_heldT (S := fun X => X.heap[bf]? = some (.cells #[.pointer (some ⟨b0, 0, none⟩), .pointer (some ⟨b1, 0, none⟩), fv, sv0, sv1, cv0, cv1, .int .i64 tn] 32 (0, 0))) 11 (by kernel_rfl) (by decide) (fun inv => ?_)
              change FirstH _ _ _ _ _ _ _ _ _ _ wr.drew
              rw [HU2.out]
              have HS := H3.out
              refine FirstH.go (i := 0) (v := .pointer (some ⟨bf, 0, none⟩)) rfl rfl _ rfl _ rfl (by kernel_rfl) (fun _ _ _ h => h) inv (fun X _ => by unfold bareO; go_simp) HS (fun inv => ?_)
              try simp only [Act.put, List.setIfInBounds_toArray, List.set_cons_zero, List.set_cons_succ]
              refine FirstH.go (i := 1) (v := .int .i64 1) rfl rfl _ rfl _ rfl (by kernel_rfl) (fun _ _ _ h => h) inv (fun X _ => by unfold bareO; go_simp) HS (fun inv => ?_)
              try simp only [Act.put, List.setIfInBounds_toArray, List.set_cons_zero, List.set_cons_succ]
              refine FirstH.go (i := 2) (v := .pointer (some ⟨bf, 0, none⟩)) rfl rfl _ rfl _ rfl (by kernel_rfl) (fun _ _ _ h => h) inv (fun X _ => by unfold bareO; go_simp) HS (fun inv => ?_)
              try simp only [Act.put, List.setIfInBounds_toArray, List.set_cons_zero, List.set_cons_succ]
              refine FirstH.go (i := 3) (v := .pointer (some ⟨bf, 0, none⟩)) rfl rfl _ rfl _ rfl (by kernel_rfl) (fun _ _ _ h => h) inv (fun X _ => by unfold bareO; go_simp) HS (fun inv => ?_)
              try simp only [Act.put, List.setIfInBounds_toArray, List.set_cons_zero, List.set_cons_succ]
              refine FirstH.go (i := 4) (v := .pointer (some ⟨bf, 1, none⟩)) rfl rfl _ rfl _ rfl (by kernel_rfl) (fun _ _ _ h => h) inv (fun X _ => by unfold bareO; go_simp) HS (fun inv => ?_)
              try simp only [Act.put, List.setIfInBounds_toArray, List.set_cons_zero, List.set_cons_succ]
              refine FirstH.go (i := 5) (v := .pointer (some ⟨b1, 0, none⟩)) rfl rfl _ rfl _ rfl (by kernel_rfl) (fun _ _ _ h => h) inv (fun X hS => by have c1 := cell_of hS 1 (.pointer (some ⟨b1, 0, none⟩)) rfl; unfold bareO; go_simp) HS (fun inv => ?_)
              try simp only [Act.put, List.setIfInBounds_toArray, List.set_cons_zero, List.set_cons_succ]
              refine FirstH.go (i := 6) (v := .pointer (some ⟨bf, 0, none⟩)) rfl rfl _ rfl _ rfl (by kernel_rfl) (fun _ _ _ h => h) inv (fun X _ => by unfold bareO; go_simp) HS (fun inv => ?_)
              try simp only [Act.put, List.setIfInBounds_toArray, List.set_cons_zero, List.set_cons_succ]
              refine FirstH.go (i := 7) (v := .pointer (some ⟨bf, 0, none⟩)) rfl rfl _ rfl _ rfl (by kernel_rfl) (fun _ _ _ h => h) inv (fun X _ => by unfold bareO; go_simp) HS (fun inv => ?_)
              try simp only [Act.put, List.setIfInBounds_toArray, List.set_cons_zero, List.set_cons_succ]
              refine FirstH.go (i := 8) (v := .pointer (some ⟨bf, 7, none⟩)) rfl rfl _ rfl _ rfl (by kernel_rfl) (fun _ _ _ h => h) inv (fun X _ => by unfold bareO; go_simp) HS (fun inv => ?_)
              try simp only [Act.put, List.setIfInBounds_toArray, List.set_cons_zero, List.set_cons_succ]
              refine FirstH.go (i := 9) (v := .int .i64 tn) rfl rfl _ rfl _ rfl (by kernel_rfl) (fun _ _ _ h => h) inv (fun X hS => by have c1 := cell_of hS 7 (.int .i64 tn) rfl; unfold bareO; go_simp) HS (fun inv => ?_)
              try simp only [Act.put, List.setIfInBounds_toArray, List.set_cons_zero, List.set_cons_succ]
              clear HS
              refine FirstH.only (i := 10) (by kernel_rfl) (by decide) inv (fun inv => wpOp_call (i := 10) rfl rfl 107 rfl _ rfl 8 #[.pointer (some ⟨b1, 0, none⟩), .int .i64 tn] (by unfold bareO; go_simp) KO.out ?_)
              rintro e W4 ⟨pv, P, rfl, own4, ok4, hpu, p4, k4⟩
              have J4 := Lib.hid (J3.out.link1 (Nat.le_refl _) p4 k4 J3.out.av)
              have B4 := Lib.hid (B3.out.trans ((J3.out.p1.kbelow k4 S3.out).mono SB.out))
              have H4 : W4.heap[bf]? = some (.cells #[.pointer (some ⟨b0, 0, none⟩), .pointer (some ⟨b1, 0, none⟩), fv, sv0, sv1, cv0, cv1, .int .i64 tn] 32 (0, 0)) := by
                have q := J4.out.blk
                simp only [Fa.cs] at q
                rw [NW.out] at q
                exact q
              refine ⟨_, rfl, H4, ?_⟩
              try simp only [Act.put, List.setIfInBounds_toArray, List.set_cons_zero, List.set_cons_succ]
              obtain ⟨m, hm⟩ : ∃ z, P.length = z := ⟨_, rfl⟩
              have hm8 : m ≤ 8 := by
                have q := fOut_len y.s1 tn y.L1
                rw [← hpu, List.length_map, hm] at q
                exact q
              have HM8 := Lib.hid hm8
              have HM := Lib.hid hm
              have OK4 := Lib.hid ok4
              have RO4 : Hid (RowO W4 46 8 pv m (flat Pk.cs P)) := Lib.hid (by rw [← hm]; exact RowO.of_owns own4)
              obtain ⟨HH0, hseq⟩ := HTS.out.out (P := P) (y' := { y with s1 := { y.s1 with owed := false }, L1 := outL tn y.s1.again y.L1 8 }) (by rw [NW.out]; exact hpu) (by rw [NW.out])
              have HH4 := Lib.hid HH0
              have HSEQ := Lib.hid hseq
              obtain ⟨pA, pc, rfl, hpc, _, hpA⟩ := RO4.out.slice
              have HPA := Lib.hid hpA
              have HPC := Lib.hid hpc
              clear own4 ok4 hpu p4 k4 hm H4 HH0 hseq hpA inv
              refine ⟨by kernel_rfl, ?_⟩
              simp only [List.drop_succ_cons, List.drop_zero]
              go_wp2_with fail
              go_loopw [12] (fun kv wx => ∃ (q : Nat) (x : Fa) (y : Fc) (kc2 : Nat), kv = .int .i64 q ∧ q ≤ m ∧ Hid (x.f = bf) ∧ Hid (Fm bf wx x y kc2) ∧ Hid (Hs1 F y P ri q) ∧ Hid (y.now = tn) ∧ Hid (kc2 ≤ kc + q) ∧ Hid (RowO wx 46 8 (.slice pA m pc) m (flat Pk.cs P)) ∧ Hid (∀ p ∈ P, p.b.Ok wx) ∧ Hid (Below base W wx)) (fun kv _ => m - (intOf kv).toNat)
              case atStart => exact ⟨0, _, _, kc, rfl, Nat.zero_le _, Lib.hid rfl, J4, HH4, NW, Lib.hid (Nat.le_refl _), RO4, OK4, B4⟩
              clear J4 HH4 RO4 OK4 B4
              case round =>
                obtain ⟨q, x, y2, kc2, rfl, hq, EB2, JJ, HH, NW2, KQ, RO, OKP, BB⟩ := hrel
                by_cases hqm : q < m
                · as_aux_lemma =>
                  skip
                  have hqi : (q : Int) < (m : Int) := by omega
                  have HQ := Lib.hid hqm
                  have hmi : (m : Int) ≤ (pc : Int) := by have := HPC.out; omega
                  have hql : q < P.length := by rw [HM.out]; exact hqm
                  obtain ⟨p, hp⟩ : ∃ p, P[q]? = some p := ⟨P[q], List.getElem?_eq_getElem hql⟩
                  have hmem := List.mem_of_getElem? hp
                  have okp := OKP.out p hmem
                  have hto := HH.out.to hp
                  have hsq := HSEQ.out p hmem
                  have hfew := HH.out.few JJ.out
                  obtain ⟨g, o, rfl⟩ : ∃ g o, pA = some ⟨g, o, none⟩ := by
                    rcases HPA.out with ⟨_, h1⟩ | h1
                    · have := HPC.out
                      omega
                    · exact h1
                  obtain ⟨fn, fl, tn_, tl, sq, ak, hs, ⟨xB, xA, xc⟩⟩ := p
                  obtain ⟨xl, hxl⟩ : ∃ z, xB.length = z := ⟨_, rfl⟩
                  have e0 := RowO.elem Pk.sz RO.out hp (j := 0) (by decide)
                  have e1 := RowO.elem Pk.sz RO.out hp (j := 1) (by decide)
                  have e2 := RowO.elem Pk.sz RO.out hp (j := 2) (by decide)
                  have e3 := RowO.elem Pk.sz RO.out hp (j := 3) (by decide)
                  have e4 := RowO.elem Pk.sz RO.out hp (j := 4) (by decide)
                  have e5 := RowO.elem Pk.sz RO.out hp (j := 5) (by decide)
                  have e6 := RowO.elem Pk.sz RO.out hp (j := 6) (by decide)
                  have e7 := RowO.elem Pk.sz RO.out hp (j := 7) (by decide)
                  simp only [Pk.cs, hxl, List.getElem?_toArray, List.getElem?_cons_zero, List.getElem?_cons_succ, Nat.add_zero] at e0 e1 e2 e3 e4 e5 e6 e7
                  have HB_ := okp.ownB
                  have KH : Hid (Calls Try.prog 9 #[.pointer (some ⟨bf, 0, none⟩), .agg #[.int .u8 fn, .int .u16 fl, .int .u8 tn_, .int .u16 tl, .int .u64 sq, .int .u64 ak, .bool hs, .slice xA xl xc]] wr fun e W' => e = .returned (.tuple #[]) ∧ FheR0 bf wr x y2 kc2 ⟨fn, fl, tn_, tl, sq, ak, hs, xB⟩ W') := Lib.hid (by
                    have q := fhear0 bf wr x y2 kc2 JJ.out ⟨fn, fl, tn_, tl, sq, ak, hs, xB⟩ xA xc HB_.1 okp.len HB_.2.1 HB_.2.2 hsq (by have := KQ.out; have := KC2.out; have := KRI.out; have := RI.out; have := HM8.out; omega) hfew.1 hfew.2 hto
                    unfold Hp.cs at q
                    simp only [hxl] at q
                    rw [EB2.out] at q
                    exact q)
                  have HP := Lib.hid hp
                  clear hq hqm hp hmem okp hto hsq hfew hxl HB_ hql
                  go_wp2_with fail
                  refine KH.out.mono ?_
                  rintro e W9 ⟨rfl, x', K', hx', eK, hFm, hb9, hkt⟩
                  have H9 := Lib.hid (HH.out.step HP.out eK rfl)
                  have J9 := Lib.hid hFm
                  have E9 := Lib.hid (hx'.trans EB2.out)
                  have R9 := Lib.hid (hkt.rowO RO.out)
                  have O9 : Hid (∀ p ∈ P, p.b.Ok W9) := Lib.hid fun p hp => hkt.ok (OKP.out p hp)
                  have B9 := Lib.hid (BB.out.trans (hb9.mono SB.out))
                  have K9 : Hid (kc2 + 1 ≤ kc + (q + 1)) := Lib.hid (by have := KQ.out; omega)
                  clear hx' eK hFm hb9 hkt KH e0 e1 e2 e3 e4 e5 e6 e7
                  go_wp2_with fail
                  go_roundw
                  case rel => exact ⟨q + 1, x', _, kc2 + 1, by have := HQ.out; have := HM8.out; go_num, by have := HQ.out; omega, E9, J9, H9, NW2, K9, R9, O9, B9⟩
                  case measure => have := HQ.out; have := HM8.out; simp [intOf]; omega
                · obtain rfl : m = q := by omega
                  have hqi : ¬ (m : Int) < (m : Int) := by omega
                  have HH : Hs1 F y2 P ri P.length := by rw [HM.out]; exact HH.out
                  have ST2 : Hid (StJ F ri 2 y2) := Lib.hid (Or.inr (Or.inr ⟨rfl, HH.done⟩))
                  have K2 : Hid (kc2 ≤ kr + 20 * (1 + 1)) := Lib.hid (by have := KQ.out; have := KC2.out; have := HM8.out; omega)
                  clear hq hqm HH
                  go_wp2_with fail
                  go_roundw
                  case rel => exact ⟨2, x, y2, kc2, by go_num, by decide, EB2, JJ, ST2, NW2, K2, BB⟩
                  case measure => first | (simp [intOf]; done) | (simp [intOf]; omega)
            · obtain rfl : j = 2 := by omega
              have l2 : ¬ (2 : Int) < 2 := by omega
              have F3 := Lib.hid ST.out.s2
              have N3 : Hid (0 ≤ y.now ∧ y.now ≤ 300 + 6 * ((ri + 1 : Nat) : Int)) := Lib.hid (by rw [NW.out]; exact TN.out)
              have K3 : Hid (kc ≤ 300 + 40 * (ri + 1)) := Lib.hid (by have := KC2.out; have := KRI.out; omega)
              clear hj hj0 hj1 ST
              go_wp2_with fail
              go_roundw
              case rel => exact ⟨ri + 1, x, y, kc, by have := RI.out; go_num, by have := RI.out; omega, EB, JJ, F3, N3, K3, BB⟩
              case measure => have := RI.out; simp [intOf]; omega
        · obtain rfl : ri = 60 := by omega
          have l1 : ¬ (60 : Int) < 60 := by omega
          obtain ⟨hc1, hc0, hl0, hl1⟩ := FR.out.all (by decide)
          obtain ⟨kb1, kb0⟩ := begins bf x0 x y kr JJ.out (by rw [hc1, List.take_length]) (by rw [hc0, List.take_length])
          have KB1 := Lib.hid kb1
          have KB0 := Lib.hid kb0
          have KI0 : Hid (∀ dd os, Calls Try.prog 10 #[.pointer (some ⟨x.b0, 0, none⟩)] (grow (redrawn x0 dd) os) fun e W' => e = .returned (.bool true) ∧ Below (grow (redrawn x0 dd) os).heap.size (grow (redrawn x0 dd) os) W') := Lib.hid fun dd os => (idleL _ _ _ _ _ _ _ _ _ (JJ.out.p0.below (below_regrown x0 dd os))).mono fun e W' ⟨h1, h2⟩ => ⟨by rw [h1, hl0]; rfl, by subst h2; exact Below.refl _ _⟩
          have KI1 : Hid (∀ dd os, Calls Try.prog 10 #[.pointer (some ⟨x.b1, 0, none⟩)] (grow (redrawn x0 dd) os) fun e W' => e = .returned (.bool true) ∧ Below (grow (redrawn x0 dd) os).heap.size (grow (redrawn x0 dd) os) W') := Lib.hid fun dd os => (idleL _ _ _ _ _ _ _ _ _ (JJ.out.p1.below (below_regrown x0 dd os))).mono fun e W' ⟨h1, h2⟩ => ⟨by rw [h1, hl1]; rfl, by subst h2; exact Below.refl _ _⟩
          have q0 := JJ.out.r0
          have q1 := JJ.out.r1
          have q2 := JJ.out.r2
          have q3 := JJ.out.r3
          rw [hc0] at q2
          rw [hc1] at q3
          obtain ⟨n0, hn0⟩ : ∃ z, y.S0.length = z := ⟨_, rfl⟩
          obtain ⟨n1, hn1⟩ : ∃ z, y.S1.length = z := ⟨_, rfl⟩
          rw [hn0] at q0 q3
          rw [hn1] at q1 q2
          have lnk := JJ.out.blk
          have HEB := EB.out
          obtain ⟨fb, b0, m0, v0, b1, m1, v1, fv, sv0, sv1, cv0, cv1⟩ := x
          obtain rfl : bf = fb := HEB.symm
          simp only [Fa.cs] at lnk KB1 KB0 KI0 KI1
          obtain ⟨A0_, k0_, rfl, _, _, _⟩ := q0.slice
          obtain ⟨A1_, k1_, rfl, _, _, _⟩ := q1.slice
          obtain ⟨A2_, k2_, rfl, _, _, _⟩ := q2.slice
          obtain ⟨A3_, k3_, rfl, _, _, _⟩ := q3.slice
          have w0 := cell_regrown (cell_of lnk 0 (.pointer (some ⟨b0, 0, none⟩)) rfl)
          have w1 := cell_regrown (cell_of lnk 1 (.pointer (some ⟨b1, 0, none⟩)) rfl)
          have w3 := cell_regrown (cell_of lnk 3 (.slice A0_ n0 k0_) rfl)
          have w4 := cell_regrown (cell_of lnk 4 (.slice A1_ n1 k1_) rfl)
          have w5 := cell_regrown (cell_of lnk 5 (.slice A2_ n1 k2_) rfl)
          have w6 := cell_regrown (cell_of lnk 6 (.slice A3_ n0 k3_) rfl)
          have SX : Hid (base ≤ x0.heap.size) := Lib.hid (by have := BB.out.size; have := HBS.out; omega)
          have HEND : Hid (∀ dd os, Below base W (grow (redrawn x0 dd) os)) := Lib.hid fun dd os => BB.out.trans ((below_regrown x0 dd os).mono SX.out)
          clear lnk q0 q1 q2 q3 hn0 hn1 hc1 hc0 hl0 hl1 kb1 kb0 hri hlt JJ FR
          go_wp2_with fail
          try simp only [Act.put, List.setIfInBounds_toArray, List.set_cons_zero, List.set_cons_succ]
          refine wp_region_quiet_below (by kernel_rfl) (by kernel_rfl) ?_
          repeat (go_big_quiet_step (first | (go_at_call 7; first | (with_reducible exact Calls.regrown_of (KB1.out _ _)) | (with_reducible exact Calls.regrown_of (KB0.out _ _))) | (go_at_call 10; first | (with_reducible exact Calls.regrown_of (KI0.out _ _)) | (with_reducible exact Calls.regrown_of (KI1.out _ _))) | fail))
          refine wpQuiet_nil ?_
          rintro W9 ⟨p9, rfl⟩
          have HE9 := Lib.hid (HEND.out p9.d p9.os)
          generalize grow (redrawn x0 p9.d) p9.os = W9 at *
          go_wp2_with fail
          go_ret
          exact ⟨rfl, HE9.out⟩

end Go.Proofs.Ytnagbiicpecamaa
