/-
  The document's Raise that raises, its first loop. Condition: the table lies in memory, numbers fit their kinds, it has fewer than 1000 floors.
-/
import Derived.Test.YtldbmmganicliaaAdn
namespace Go.Proofs.Ytldbmmganicliaa
set_option linter.unusedSimpArgs false
set_option linter.unusedVariables false
open Go.RowKit Go.Maps Go.Sort

theorem neqProcA (a b c d : Int) (r : Bool) (hr : decide (a = c ∧ b = d) = r) (W : World) : (binOp .neq 39 (.agg #[.int .u8 a, .int .u16 b]) (.agg #[.int .u8 c, .int .u16 d])).run Try.prog W = .ok (.bool (!r)) W := by
  subst hr
  go_simp
  by_cases h1 : a = c <;> by_cases h2 : b = d <;> simp [h1, h2]
theorem floIA : (Try.prog.info? 99).map (fun i => (i.zero, i.size, i.bytes)) = some (some (.agg #[.int .u8 0, .int .u16 0, .int .u32 0]), 3, 8) := by kernel_rfl
def keepF (n l : Int) (f : Fw) : Bool := !(decide (f.n = n) && decide (f.l = l))
/-- the floors behind j of them. -/
def FJ (F : List Fw) (n l u : Int) (j : Nat) : List Fw := ⟨n, l, u⟩ :: (F.take j).filter (keepF n l)
theorem FJ_in {F : List Fw} {n l u : Int} {j : Nat} {y : Fw} (hy : F[j]? = some y) (hk : ¬ (y.n = n ∧ y.l = l)) : FJ F n l u (j + 1) = FJ F n l u j ++ [y] := by
  have e : keepF n l y = true := by
    cases h : keepF n l y with
    | true => rfl
    | false => exact absurd (by simpa [keepF] using h) hk
  simp [FJ, List.take_add_one, hy, e]
theorem FJ_out {F : List Fw} {n l u : Int} {j : Nat} {y : Fw} (hy : F[j]? = some y) (hk : y.n = n ∧ y.l = l) : FJ F n l u (j + 1) = FJ F n l u j := by
  have e : keepF n l y = false := by simpa [keepF] using hk
  simp [FJ, List.take_add_one, hy, e]
theorem FJ_len (F : List Fw) (n l u : Int) (j : Nat) : (FJ F n l u j).length ≤ F.length + 1 := by
  have h1 := List.length_filter_le (keepF n l) (F.take j)
  have h2 := List.length_take_le j F
  simp only [FJ, List.length_cons, List.length_take] at *
  omega
def nF (F : List Fw) (n l u : Int) : List Fw := FJ F n l u F.length
theorem nF_rng {F : List Fw} {n l u : Int} (rn : 0 ≤ n ∧ n ≤ 255) (rl : 0 ≤ l ∧ l ≤ 65535) (ru : 0 ≤ u ∧ u ≤ 4294967295) (h : ∀ x ∈ F, x.Rng) : ∀ x ∈ nF F n l u, x.Rng := by
  intro x hx
  rcases List.mem_cons.1 hx with rfl | hx
  · exact ⟨rn, rl, ru⟩
  · exact h x (List.mem_of_mem_take (List.mem_filter.1 hx).1)
theorem floT_end {W0 w4 w11 : World} {r : Nat} {t : Tt} {lv fv v : Value} {F' : List Fw} {m : Nat} (b : Below w4.heap.size w4 w11) (D : DT w4 r t lv fv)
    (O : RowO w11 99 3 v m (flat Fw.cs F')) (hm : m = F'.length) (own : ∀ q, v.ownBlock = some q → w4.heap.size ≤ q) (rg : ∀ x ∈ F', x.Rng) (hf : F'.length ≤ 1000) :
    DT (w11.setCell ⟨r, 2, none⟩ v) r { t with F := F' } lv v ∧ KP (fun q => q = r) w4 (w11.setCell ⟨r, 2, none⟩ v) := by
  subst hm
  have hr := bltA D.blk
  have ks : KP (fun q => q = r) w11 (w11.setCell ⟨r, 2, none⟩ v) := KP.set (S := fun q => q = r) w11 r 2 v rfl
  have D' := D.below b
  refine ⟨⟨(row_set D'.blk (i := 2) v).trans rfl, D'.rows.keepK ks fun q hq e => ?_, O.keepK ks fun q hq e => by have := own q hq; omega, D.rng, rg, ⟨D.few.1, hf⟩, D.win⟩, (KP.of_below b).trans ks fun _ _ h => h⟩
  obtain ⟨c2, h2⟩ := D'.rows.block q hq
  exact apart_of h2 D'.blk (by decide) e
/-- is a row kept? -/
def keepR (t : Tt) (n l : Int) (y : Rw) : Bool := !(decide (y.id.n = n ∧ y.id.l = l)) || !y.en || !t.old y.id
def LJ (t : Tt) (n l : Int) (j : Nat) : List Rw := (t.L.take j).filter (keepR t n l)
theorem LJ_in {t : Tt} {n l : Int} {j : Nat} {y : Rw} (hy : t.L[j]? = some y) (e : keepR t n l y = true) : LJ t n l (j + 1) = LJ t n l j ++ [y] := by
  simp [LJ, List.take_add_one, hy, e]
theorem LJ_out {t : Tt} {n l : Int} {j : Nat} {y : Rw} (hy : t.L[j]? = some y) (e : keepR t n l y = false) : LJ t n l (j + 1) = LJ t n l j := by
  simp [LJ, List.take_add_one, hy, e]
theorem LJ_len (t : Tt) (n l : Int) (j : Nat) : (LJ t n l j).length ≤ t.L.length := by
  have h1 := List.length_filter_le (keepR t n l) (t.L.take j)
  have h2 := List.length_take_le' j t.L
  simp only [LJ]
  omega
set_option maxRecDepth 100000 in
set_option maxHeartbeats 4000000 in
theorem raiseT_ok (W : World) (r : Nat) (t : Tt) (lv fv : Value) (h : DT W r t lv fv) (n l u : Int) (rn : 0 ≤ n ∧ n ≤ 255) (rl : 0 ≤ l ∧ l ≤ 65535) (ru : 0 ≤ u ∧ u ≤ 4294967295) (h1 : rP n l = true) (h2 : u ≤ 1048576) (h3 : floorF t.F n l < u) (hff : t.F.length < 1000) :
    Calls Try.prog 18 #[.pointer (some ⟨r, 0, none⟩), .agg #[.int .u8 n, .int .u16 l], .int .u32 u] W fun e W' => e = .returned (.tuple #[]) ∧ ∃ lv' fv' : Value, DT W' r { { t with F := nF t.F n l u } with L := LJ { t with F := nF t.F n l u } n l t.L.length } lv' fv' ∧ KP (fun q => q = r) W W' := by
  obtain ⟨W1, hW1⟩ : ∃ z, W.alloc (.cells #[.int .u8 n, .int .u16 l] 39) = z := ⟨_, rfl⟩
  have b1 : Below W.heap.size W W1 := by rw [← hW1]; exact (Below.refl _ _).alloc (Nat.le_refl _) _
  obtain ⟨kx, hkx⟩ : ∃ z, W.heap.size = z := ⟨_, rfl⟩
  have R1 : W1.heap[kx]? = some (.cells #[.int .u8 n, .int .u16 l] 39 (0, 0)) := by rw [← hW1, ← hkx]; exact heap_alloc_new _ _
  have D1 := Lib.hid (h.below b1)
  have X1 := Lib.hid R1
  have HW1 := Lib.hid hW1
  have HKX := Lib.hid hkx
  have S1 : Hid (kx < W1.heap.size) := Lib.hid (bltA R1)
  have Z1 : Hid (Below kx W W1) := Lib.hid (hkx ▸ b1)
  have KR : Hid (∀ w : World, Calls Try.prog 44 #[.agg #[.int .u8 n, .int .u16 l]] w fun e W' => e = .returned (.bool (rP n l)) ∧ Below w.heap.size w W') := Lib.hid fun w => (refRightProc n l w).mono fun e W' he => ⟨he.1, by rw [← he.2]; exact (Below.refl _ _).alloc (Nat.le_refl _) _⟩
  have KL : Hid (∀ w : World, DT w r t lv fv → Calls Try.prog 26 #[.pointer (some ⟨r, 0, none⟩), .agg #[.int .u8 n, .int .u16 l]] w fun e W' => e = .returned (.int .u32 (floorF t.F n l)) ∧ Below w.heap.size w W') := Lib.hid fun w hw => floorT w r t _ _ hw n l rn rl
  have x0 := cell_of X1.out 0 (.int .u8 n) rfl
  have x1 := cell_of X1.out 1 (.int .u16 l) rfl
  clear h b1 hW1 R1
  obtain ⟨A, c, rfl, hc, hm, hA⟩ := D1.out.flo.slice
  obtain ⟨m, hn⟩ : ∃ z, t.F.length = z := ⟨_, rfl⟩
  have HN := Lib.hid hn
  rw [hn] at hc
  have HA := Lib.hid hA
  have HC := Lib.hid (And.intro hc hm)
  have hn0 : m ≤ 1000 := by rw [← hn]; exact D1.out.few.2
  have HFF := Lib.hid hff
  have h3' : ¬ u ≤ floorF t.F n l := by omega
  have h2' : ¬ 1048576 < u := by omega
  have KR : Hid (∀ w : World, Calls Try.prog 44 #[.agg #[.int .u8 n, .int .u16 l]] w fun e W' => e = .returned (.bool true) ∧ Below w.heap.size w W') := Lib.hid fun w => h1 ▸ KR.out w
  obtain ⟨i0, hi0, hz0, hz1, hz2⟩ := info_parts floIA
  have HI := Lib.hid (And.intro hi0 (And.intro hz0 (And.intro hz1 hz2)))
  clear hA hn h1 hi0 hz0 hz1 hz2
  go_enter Try.func18, Try.ntmps18
  go_wp2_with (first | rw [HW1.out] | (go_at_call 44; refine (KR.out _).mono ?_; rintro e w2 ⟨rfl, b⟩; have BB2 := Lib.hid b; have D2 := Lib.hid (D1.out.below b); have X2 := Lib.hid ((b.block kx S1.out).trans X1.out); have Z2 := Lib.hid (Z1.out.trans (b.mono (Nat.le_of_lt S1.out))); have S2 : Hid (kx < w2.heap.size) := Lib.hid (Nat.lt_of_lt_of_le S1.out b.size); clear b; clear x0 x1; have x0 := cell_of X2.out 0 (.int .u8 n) rfl; have x1 := cell_of X2.out 1 (.int .u16 l) rfl) | (go_at_call 26; refine (KL.out _ D2.out).mono ?_; rintro e w3 ⟨rfl, b⟩; have BB3 := Lib.hid (BB2.out.trans (b.mono BB2.out.size)); have D3 := Lib.hid (D2.out.below b); have X3 := Lib.hid ((b.block kx S2.out).trans X2.out); have Z3 := Lib.hid (Z2.out.trans (b.mono (Nat.le_of_lt S2.out))); have S3 : Hid (kx < w3.heap.size) := Lib.hid (Nat.lt_of_lt_of_le S2.out b.size); clear b; clear x0 x1; have x0 := cell_of X3.out 0 (.int .u8 n) rfl; have x1 := cell_of X3.out 1 (.int .u16 l) rfl; have r4 : (w3.alloc (.cells #[.int .u8 n, .int .u16 l, .int .u32 u] 99)).heap[w3.heap.size]? = some (.cells #[.int .u8 n, .int .u16 l, .int .u32 u] 99 (0, 0)) := heap_alloc_new _ _; have b4 : Below W1.heap.size W1 (w3.alloc (.cells #[.int .u8 n, .int .u16 l, .int .u32 u] 99)) := BB3.out.alloc BB3.out.size _; obtain ⟨w4, hw4⟩ : ∃ Y, w3.alloc (.cells #[.int .u8 n, .int .u16 l, .int .u32 u] 99) = Y := ⟨_, rfl⟩; rw [hw4] at r4 b4; obtain ⟨e3, he3⟩ : ∃ z, w3.heap.size = z := ⟨_, rfl⟩; rw [he3] at r4; have HW4 := Lib.hid hw4; have R4 := Lib.hid r4; have BB4 := Lib.hid b4; have LE3 : Hid (W1.heap.size ≤ e3) := Lib.hid (he3 ▸ BB3.out.size); clear r4 b4 hw4) | rw [HW4.out] | fail)
  go_loopw [6, 7] (fun f i wx => ∃ j : Nat, j ≤ m ∧ i = .int .i64 j ∧ Hid (RowO wx 99 3 f (FJ t.F n l u j).length (flat Fw.cs (FJ t.F n l u j))) ∧ Hid (∀ q, f.ownBlock = some q → W1.heap.size ≤ q) ∧ Hid (Below W1.heap.size W1 wx)) (fun _ i _ => m - (intOf i).toNat)
  case atStart =>
    try rw [HW4.out]
    refine ⟨0, Nat.zero_le _, rfl, Lib.hid ?_, Lib.hid ?_, BB4⟩
    · exact ⟨rfl, .inr ⟨e3, 0, 1, _, rfl, R4.out, Nat.le_refl _, by unfold maxLen; omega, by simp, fun q z hq => by rw [Nat.zero_add]; simpa [flat, FJ, Fw.cs] using hq⟩⟩
    · intro q hq
      have : e3 = q := by simpa [Value.ownBlock] using hq
      have := LE3.out
      omega
  case round =>
    clear x0 x1
    obtain ⟨j, hj, rfl, RO, OWN, BB⟩ := hrel
    obtain ⟨w0, hw0⟩ : ∃ z : World, z = wr := ⟨_, rfl⟩
    subst hw0
    have D := D1.out.below BB.out
    have HD := Lib.hid D
    have XX : w0.heap[kx]? = some (.cells #[.int .u8 n, .int .u16 l] 39 (0, 0)) := (BB.out.block kx S1.out).trans X1.out
    have blk := D.blk
    rw [HN.out] at blk
    have s0 := cell_of blk 2 (.slice A m c) rfl
    by_cases hlt : j < m
    · skip
      have hji : (j : Int) < (m : Int) := by omega
      have hcapi : (m : Int) ≤ (c : Int) := by have := HC.out.1; omega
      have HJ := Lib.hid hlt
      have hjl : j < t.F.length := by rw [HN.out]; exact hlt
      obtain ⟨y, hy⟩ : ∃ y, t.F[j]? = some y := ⟨_, List.getElem?_eq_getElem hjl⟩
      obtain ⟨g, o, rfl⟩ : ∃ g o, A = some ⟨g, o, none⟩ := by
        rcases HA.out with ⟨_, h1⟩ | h1
        · have := HC.out.1
          omega
        · exact h1
      have rows := D.flo
      rw [HN.out] at rows
      obtain ⟨r0, r1, r2⟩ := Fw.at_ rows hy
      have t0 := cell_regrown s0
      have q0 := cell_regrown r0
      have q1 := cell_regrown r1
      have k0 := cell_regrown (cell_of XX 0 (.int .u8 n) rfl)
      have k1 := cell_regrown (cell_of XX 1 (.int .u16 l) rfl)
      have HY := Lib.hid hy
      clear hy rows blk hj hlt hjl r0 r1 r2 XX D
      by_cases heq : y.n = n ∧ y.l = l
      · have hE := neqProcA y.n y.l n l true (by simpa using heq)
        have HEQ := Lib.hid heq
        clear heq
        go_wp2_with fail
        try simp only [Act.put, List.setIfInBounds_toArray, List.set_cons_zero, List.set_cons_succ]
        refine wp_region_quiet_below (by kernel_rfl) (by kernel_rfl) ?_
        repeat (go_big_quiet_step (fail))
        refine wpQuiet_nil ?_
        rintro W9 ⟨p, rfl⟩
        have bb := below_regrown w0 p.d p.os
        have RO9 := Lib.hid (RO.out.below bb)
        have BB9 := Lib.hid (BB.out.trans (bb.mono BB.out.size))
        generalize grow (redrawn w0 p.d) p.os = w9 at *
        clear t0 q0 q1 k0 k1 hE bb s0
        go_wp2_with fail
        go_roundw
        case rel => exact ⟨j + 1, by have := HJ.out; omega, by go_num, FJ_out HY.out HEQ.out ▸ RO9, OWN, BB9⟩
        case measure => simp [intOf]; omega
      · have hE := neqProcA y.n y.l n l false (by simpa using heq)
        have HEQ := Lib.hid heq
        clear heq
        go_wp2_with fail
        try simp only [Act.put, List.setIfInBounds_toArray, List.set_cons_zero, List.set_cons_succ]
        refine wp_region_quiet_below (by kernel_rfl) (by kernel_rfl) ?_
        repeat (go_big_quiet_step (fail))
        refine wpQuiet_nil ?_
        rintro W9 ⟨p, rfl⟩
        have bb := below_regrown w0 p.d p.os
        have RO5 := Lib.hid (RO.out.below bb)
        have BB5 := Lib.hid (BB.out.trans (bb.mono BB.out.size))
        generalize grow (redrawn w0 p.d) p.os = w5 at *
        have D5 := D1.out.below BB5.out
        have blk5 := D5.blk
        rw [HN.out] at blk5
        clear t0 q0 q1 k0 k1 hE bb s0
        have s5 := cell_of blk5 2 (.slice (some ⟨g, o, none⟩) m c) rfl
        have rows := D5.flo
        rw [HN.out] at rows
        obtain ⟨r0, r1, r2⟩ := Fw.at_ rows HY.out
        clear rows blk5 D5
        go_wp2_with (first | (at_builtin; obtain ⟨w6, hw6⟩ : ∃ Y, w5.alloc (.cells #[.int .u8 y.n, .int .u16 y.l, .int .u32 y.f] 99) = Y := ⟨_, rfl⟩; rw [hw6]; have r6 : w6.heap[w5.heap.size]? = some (.cells #[.int .u8 y.n, .int .u16 y.l, .int .u32 y.f] 99 (0, 0)) := (by rw [← hw6]; exact heap_alloc_new _ _); have b6 : Below w5.heap.size w5 w6 := (by rw [← hw6]; exact (Below.refl _ _).alloc (Nat.le_refl _) _); have O6 := RO5.out.below b6; have B6 := BB5.out.trans (b6.mono BB5.out.size); refine wpList_appZA rfl 57 rfl (.tmp 48) (.tmp 56) 69 99 rfl i0 _ 3 8 Try.underlying69 HI.out.1 HI.out.2.1 HI.out.2.2.1 HI.out.2.2.2 rfl (by decide) _ (FJ t.F n l u j).length _ rfl O6 (some ⟨w5.heap.size, 0, none⟩) 1 1 (Fw.cs y).toList rfl rfl (fun _ => ⟨_, rfl, fun q z hq => by rw [addr_add, Nat.zero_add, cell_of_row _ _ q _ _ _ r6]; simpa [Fw.cs] using hq⟩) (Fw.one y) (by have := FJ_len t.F n l u j; have := D1.out.few.2; omega) (by decide) ?_; intro v7 w7 O7 g7 f7; have B7 := Lib.hid (B6.grown g7 B6.size OWN.out); have OWN7 : Hid (∀ q, v7.ownBlock = some q → W1.heap.size ≤ q) := Lib.hid (fun q hq => f7.elim (fun e => OWN.out q (e ▸ hq)) (fun ⟨q', e, hq'⟩ => by rw [e] at hq; cases hq; exact Nat.le_trans B6.size hq')); have O7' := Lib.hid O7; clear O7 g7 f7 O6 B6 b6 r6 hw6) | fail)
        go_roundw
        case rel => exact ⟨j + 1, by have := HJ.out; omega, by go_num, Lib.hid (by rw [FJ_in HY.out HEQ.out, List.length_append, flat_append]; simpa [flat] using O7'.out), OWN7, B7⟩
        case measure => simp [intOf]; omega
    · skip
      obtain rfl : j = m := by omega
      have hd1 : decide ((j : Int) < (j : Int)) = false := by simp
      obtain ⟨A6, c6, e6, _, _, _⟩ := RO.out.slice
      subst e6
      have en : nF t.F n l u = FJ t.F n l u j := by rw [nF, HN.out]
      have FT := floT_end (W0 := W) BB.out D1.out RO.out rfl OWN.out (en ▸ nF_rng rn rl ru D1.out.frng) (by have := FJ_len t.F n l u j; have := HFF.out; omega)
      have HENF := Lib.hid en
      obtain ⟨t1, ht1⟩ : ∃ z : Tt, { t with F := FJ t.F n l u j } = z := ⟨_, rfl⟩
      rw [ht1] at FT
      obtain ⟨V, hV⟩ : ∃ Y, w0.setCell ⟨r, 2, none⟩ (.slice A6 (FJ t.F n l u j).length c6) = Y := ⟨_, rfl⟩
      rw [hV] at FT
      have DV := Lib.hid FT.1
      have KV := Lib.hid FT.2
      have z0 := frz_row 2 blk
      have HV := Lib.hid hV
      have HT1 := Lib.hid ht1
      have XV : Hid (V.heap[kx]? = some (.cells #[.int .u8 n, .int .u16 l] 39 (0, 0))) := Lib.hid ((KV.out.block kx S1.out (fun e => by
        have h1 := X1.out
        rw [e] at h1
        exact apart_of h1 D1.out.blk (by decide) rfl)).trans X1.out)
      have SV := Lib.hid (bltA XV.out)
      obtain ⟨AL, cL, hlv, hcL, hmL, hAL⟩ := DV.out.rows.slice
      obtain ⟨mL, hnL⟩ : ∃ z, t1.L.length = z := ⟨_, rfl⟩
      have HNL := Lib.hid hnL
      rw [hnL] at hcL
      have hn1 : mL ≤ 1000 := by rw [← hnL]; exact DV.out.few.1
      have HCL := Lib.hid (And.intro hcL hmL)
      have HAL := Lib.hid hAL
      have HLV := Lib.hid hlv
      obtain ⟨k0, hk0, hkz0, hkz1, hkz2⟩ := info_parts rowIA
      have HIR := Lib.hid (And.intro hk0 (And.intro hkz0 (And.intro hkz1 hkz2)))
      clear hk0 hkz0 hkz1 hkz2
      clear FT en hV ht1 hnL hAL hcL hmL hj hlt D XX hlv
      go_wp2_with (first | rw [HV.out] | fail)
      go_loopw [8, 9] (fun f i wx => ∃ j2 : Nat, j2 ≤ mL ∧ i = .int .i64 j2 ∧ Hid (RowO wx 93 13 f (LJ t1 n l j2).length (flat Rw.cs (LJ t1 n l j2))) ∧ Hid (∀ q, f.ownBlock = some q → V.heap.size ≤ q) ∧ Hid (Below V.heap.size V wx)) (fun _ i _ => mL - (intOf i).toNat)
      case atStart =>
        try rw [HV.out]
        exact ⟨0, Nat.zero_le _, rfl, Lib.hid (RowO.nil _ _ _), Lib.hid (fun q hq => by simp [Value.ownBlock] at hq), Lib.hid (Below.refl _ _)⟩
      case round =>
        obtain ⟨j2, hj2, rfl, RL, OWL, BL⟩ := hrel
        obtain ⟨v0, hv0⟩ : ∃ z : World, z = wr := ⟨_, rfl⟩
        subst hv0
        have D := DV.out.below BL.out
        have HD2 := Lib.hid D
        have blk2 := D.blk
        have hlv := HLV.out
        subst hlv
        rw [HNL.out] at blk2
        have s1 := cell_of blk2 1 (.slice AL mL cL) rfl
        by_cases hlt : j2 < mL
        · skip
          have hji : (j2 : Int) < (mL : Int) := by omega
          have hcapi : (mL : Int) ≤ (cL : Int) := by have := HCL.out.1; omega
          have HJ := Lib.hid hlt
          have hjl : j2 < t1.L.length := by rw [HNL.out]; exact hlt
          obtain ⟨y, hy⟩ : ∃ y, t1.L[j2]? = some y := ⟨_, List.getElem?_eq_getElem hjl⟩
          have ry := (DV.out.rng y (List.mem_of_getElem? hy)).1
          have HRY := Lib.hid ry
          obtain ⟨g, o, rfl⟩ : ∃ g o, AL = some ⟨g, o, none⟩ := by
            rcases HAL.out with ⟨_, h1⟩ | h1
            · have := HCL.out.1
              omega
            · exact h1
          have rows := D.rows
          rw [HNL.out] at rows
          obtain ⟨r0, r1, r2, r3, r4, r5, r6, r7, r8, r9, r10, r11, r12⟩ := Rw.at_ rows hy
          obtain ⟨kp, hkp⟩ : ∃ z, v0.heap.size = z := ⟨_, rfl⟩
          obtain ⟨VA, hVA⟩ : ∃ Y, v0.alloc (.cells #[.int .u8 0, .int .u16 0, .int .u32 0, .int .u8 0, .int .u8 0, .int .u8 0, .int .u8 0, .int .u8 0, .int .u8 0, .int .u8 0, .bool false, .int .u8 0, .string ⟨#[]⟩] 93) = Y := ⟨_, rfl⟩
          have rA : VA.heap[kp]? = some (.cells #[.int .u8 0, .int .u16 0, .int .u32 0, .int .u8 0, .int .u8 0, .int .u8 0, .int .u8 0, .int .u8 0, .int .u8 0, .int .u8 0, .bool false, .int .u8 0, .string ⟨#[]⟩] 93 (0, 0)) := by rw [← hVA, ← hkp]; exact heap_alloc_new _ _
          obtain ⟨VB, hVB⟩ : ∃ Y, VA.setRow kp #[.int .u8 y.id.n, .int .u16 y.id.l, .int .u32 y.id.s, .int .u8 y.id.d, .int .u8 y.id.a0, .int .u8 y.id.a1, .int .u8 y.id.b0, .int .u8 y.id.b1, .int .u8 y.id.c0, .int .u8 y.id.c1, .bool y.en, .int .u8 y.code, .string y.val] = Y := ⟨_, rfl⟩
          have bA : Below v0.heap.size v0 VA := by rw [← hVA]; exact (Below.refl _ _).alloc (Nat.le_refl _) _
          have bB : Below v0.heap.size v0 VB := by rw [← hVB]; exact below_row bA (Nat.le_of_eq hkp) _
          have RB : Hid (VB.heap[kp]? = some (.cells (Rw.cs y) 93 (0, 0))) := Lib.hid (by rw [← hVB]; exact setRow_heap _ _ _ _ _ _ rA)
          have RA := Lib.hid rA
          have HVA := Lib.hid hVA
          have HVB := Lib.hid hVB
          have HKP := Lib.hid hkp
          have HY := Lib.hid hy
          have BLB := Lib.hid (BL.out.trans (bB.mono BL.out.size))
          have RLB := Lib.hid (RL.out.below bB)
          have DB := Lib.hid (DV.out.below BLB.out)
          have XB : VB.heap[kx]? = some (.cells #[.int .u8 n, .int .u16 l] 39 (0, 0)) := (BLB.out.block kx SV.out).trans XV.out
          have x0 := cell_of XB 0 (.int .u8 n) rfl
          have x1 := cell_of XB 1 (.int .u16 l) rfl
          have q0 := cell_of RB.out 0 (.int .u8 y.id.n) rfl; have q1 := cell_of RB.out 1 (.int .u16 y.id.l) rfl; have q2 := cell_of RB.out 2 (.int .u32 y.id.s) rfl; have q3 := cell_of RB.out 3 (.int .u8 y.id.d) rfl; have q4 := cell_of RB.out 4 (.int .u8 y.id.a0) rfl; have q5 := cell_of RB.out 5 (.int .u8 y.id.a1) rfl; have q6 := cell_of RB.out 6 (.int .u8 y.id.b0) rfl; have q7 := cell_of RB.out 7 (.int .u8 y.id.b1) rfl; have q8 := cell_of RB.out 8 (.int .u8 y.id.c0) rfl; have q9 := cell_of RB.out 9 (.int .u8 y.id.c1) rfl; have q10 := cell_of RB.out 10 (.bool y.en) rfl; have q11 := cell_of RB.out 11 (.int .u8 y.code) rfl; have q12 := cell_of RB.out 12 (.string y.val) rfl
          have KO := Lib.hid fun (w : World) (hw : DT w r t1 (.slice (some ⟨g, o, none⟩) t1.L.length cL) (.slice A6 (FJ t.F n l u j).length c6)) => oldT w r t1 _ _ hw y.id HRY.out
          clear hy rows blk2 hlt hjl D hkp hVA rA hVB bA bB ry XB
          have HE := fun b hb => neqProcA y.id.n y.id.l n l b hb
          have HHE := Lib.hid HE
          clear HE
          by_cases heq : y.id.n = n ∧ y.id.l = l
          · have hE := HHE.out true (by simpa using heq)
            obtain ⟨yi, ye, yc, yv⟩ := y
            simp only at heq
            cases ye
            · have hkeep : keepR t1 n l ⟨yi, false, yc, yv⟩ = true := by simp [keepR]
              have HK := Lib.hid hkeep
              clear heq hkeep
              go_wp2_with (first | rw [HVA.out] | (rw [HKP.out]) | (refine wpList_store_row rfl 93 (.tmp 10) (.tmp 77) rfl kp #[.int .u8 yi.n, .int .u16 yi.l, .int .u32 yi.s, .int .u8 yi.d, .int .u8 yi.a0, .int .u8 yi.a1, .int .u8 yi.b0, .int .u8 yi.b1, .int .u8 yi.c0, .int .u8 yi.c1, .bool false, .int .u8 yc, .string yv] (by rfl) (by rfl) 93 _ RA.out (by kernel_rfl) rfl (by simp [Value.oneCell']) ?_; rw [HVB.out]) | (at_builtin; obtain ⟨w6, hw6⟩ : ∃ Y, VB.alloc (.cells #[.int .u8 yi.n, .int .u16 yi.l, .int .u32 yi.s, .int .u8 yi.d, .int .u8 yi.a0, .int .u8 yi.a1, .int .u8 yi.b0, .int .u8 yi.b1, .int .u8 yi.c0, .int .u8 yi.c1, .bool false, .int .u8 yc, .string yv] 93) = Y := ⟨_, rfl⟩; rw [hw6]; have r6 : w6.heap[VB.heap.size]? = some (.cells (Rw.cs ⟨yi, false, yc, yv⟩) 93 (0, 0)) := (by rw [← hw6]; exact heap_alloc_new _ _); have b6 : Below VB.heap.size VB w6 := (by rw [← hw6]; exact (Below.refl _ _).alloc (Nat.le_refl _) _); have O6 := RLB.out.below b6; have B6 := BLB.out.trans (b6.mono BLB.out.size); refine wpList_appZA rfl 98 rfl (.tmp 95) (.tmp 97) 68 93 rfl k0 _ 13 48 Try.underlying68 HIR.out.1 HIR.out.2.1 HIR.out.2.2.1 HIR.out.2.2.2 rfl (by decide) _ (LJ t1 n l j2).length _ rfl O6 (some ⟨VB.heap.size, 0, none⟩) 1 1 (Rw.cs ⟨yi, false, yc, yv⟩).toList rfl rfl (fun _ => ⟨_, rfl, fun q z hq => by rw [addr_add, Nat.zero_add, cell_of_row _ _ q _ _ _ r6]; simpa using hq⟩) (Rw.one ⟨yi, false, yc, yv⟩) (by have := LJ_len t1 n l j2; have := HNL.out; omega) (by decide) ?_; intro v7 w7 O7 g7 f7; have B7 := Lib.hid (B6.grown g7 B6.size OWL.out); have OWN7 : Hid (∀ q, v7.ownBlock = some q → V.heap.size ≤ q) := Lib.hid (fun q hq => f7.elim (fun e => OWL.out q (e ▸ hq)) (fun ⟨q', e, hq'⟩ => by rw [e] at hq; cases hq; exact Nat.le_trans B6.size hq')); have O7' := Lib.hid O7; clear O7 g7 f7 O6 B6 b6 r6 hw6) | fail)
              go_roundw
              case rel => exact ⟨j2 + 1, by have := HJ.out; omega, by go_num, Lib.hid (by rw [LJ_in HY.out HK.out, List.length_append, flat_append]; simpa [flat] using O7'.out), OWN7, B7⟩
              case measure => simp [intOf]; omega
            · obtain ⟨bo, hbo⟩ : ∃ bo, t1.old yi = bo := ⟨_, rfl⟩
              rw [hbo] at KO
              cases bo
              · have hkeep : keepR t1 n l ⟨yi, true, yc, yv⟩ = true := by simp [keepR, hbo]
                have HK := Lib.hid hkeep
                clear heq hkeep hbo
                go_wp2_with (first | rw [HVA.out] | (rw [HKP.out]) | (refine wpList_store_row rfl 93 (.tmp 10) (.tmp 77) rfl kp #[.int .u8 yi.n, .int .u16 yi.l, .int .u32 yi.s, .int .u8 yi.d, .int .u8 yi.a0, .int .u8 yi.a1, .int .u8 yi.b0, .int .u8 yi.b1, .int .u8 yi.c0, .int .u8 yi.c1, .bool true, .int .u8 yc, .string yv] (by rfl) (by rfl) 93 _ RA.out (by kernel_rfl) rfl (by simp [Value.oneCell']) ?_; rw [HVB.out]) | (go_at_call 40; refine (KO.out _ DB.out).mono ?_; rintro e vc ⟨rfl, b⟩; have RBc := Lib.hid ((b.block kp (bltA RB.out)).trans RB.out); have BLB := Lib.hid (BLB.out.trans (b.mono BLB.out.size)); have RLB := Lib.hid (RLB.out.below b); clear b; clear q0 q1 q2 q3 q4 q5 q6 q7 q8 q9 q10 q11 q12; have q0 := cell_of RBc.out 0 (.int .u8 yi.n) rfl; have q1 := cell_of RBc.out 1 (.int .u16 yi.l) rfl; have q2 := cell_of RBc.out 2 (.int .u32 yi.s) rfl; have q3 := cell_of RBc.out 3 (.int .u8 yi.d) rfl; have q4 := cell_of RBc.out 4 (.int .u8 yi.a0) rfl; have q5 := cell_of RBc.out 5 (.int .u8 yi.a1) rfl; have q6 := cell_of RBc.out 6 (.int .u8 yi.b0) rfl; have q7 := cell_of RBc.out 7 (.int .u8 yi.b1) rfl; have q8 := cell_of RBc.out 8 (.int .u8 yi.c0) rfl; have q9 := cell_of RBc.out 9 (.int .u8 yi.c1) rfl; have q10 := cell_of RBc.out 10 (.bool true) rfl; have q11 := cell_of RBc.out 11 (.int .u8 yc) rfl; have q12 := cell_of RBc.out 12 (.string yv) rfl; obtain ⟨VB, hVBc⟩ : ∃ z : World, z = vc := ⟨_, rfl⟩; subst hVBc) | (at_builtin; obtain ⟨w6, hw6⟩ : ∃ Y, VB.alloc (.cells #[.int .u8 yi.n, .int .u16 yi.l, .int .u32 yi.s, .int .u8 yi.d, .int .u8 yi.a0, .int .u8 yi.a1, .int .u8 yi.b0, .int .u8 yi.b1, .int .u8 yi.c0, .int .u8 yi.c1, .bool true, .int .u8 yc, .string yv] 93) = Y := ⟨_, rfl⟩; rw [hw6]; have r6 : w6.heap[VB.heap.size]? = some (.cells (Rw.cs ⟨yi, true, yc, yv⟩) 93 (0, 0)) := (by rw [← hw6]; exact heap_alloc_new _ _); have b6 : Below VB.heap.size VB w6 := (by rw [← hw6]; exact (Below.refl _ _).alloc (Nat.le_refl _) _); have O6 := RLB.out.below b6; have B6 := BLB.out.trans (b6.mono BLB.out.size); refine wpList_appZA rfl 98 rfl (.tmp 95) (.tmp 97) 68 93 rfl k0 _ 13 48 Try.underlying68 HIR.out.1 HIR.out.2.1 HIR.out.2.2.1 HIR.out.2.2.2 rfl (by decide) _ (LJ t1 n l j2).length _ rfl O6 (some ⟨VB.heap.size, 0, none⟩) 1 1 (Rw.cs ⟨yi, true, yc, yv⟩).toList rfl rfl (fun _ => ⟨_, rfl, fun q z hq => by rw [addr_add, Nat.zero_add, cell_of_row _ _ q _ _ _ r6]; simpa using hq⟩) (Rw.one ⟨yi, true, yc, yv⟩) (by have := LJ_len t1 n l j2; have := HNL.out; omega) (by decide) ?_; intro v7 w7 O7 g7 f7; have B7 := Lib.hid (B6.grown g7 B6.size OWL.out); have OWN7 : Hid (∀ q, v7.ownBlock = some q → V.heap.size ≤ q) := Lib.hid (fun q hq => f7.elim (fun e => OWL.out q (e ▸ hq)) (fun ⟨q', e, hq'⟩ => by rw [e] at hq; cases hq; exact Nat.le_trans B6.size hq')); have O7' := Lib.hid O7; clear O7 g7 f7 O6 B6 b6 r6 hw6) | fail)
                go_roundw
                case rel => exact ⟨j2 + 1, by have := HJ.out; omega, by go_num, Lib.hid (by rw [LJ_in HY.out HK.out, List.length_append, flat_append]; simpa [flat] using O7'.out), OWN7, B7⟩
                case measure => simp [intOf]; omega
              · have hkeep : keepR t1 n l ⟨yi, true, yc, yv⟩ = false := by simp [keepR, heq, hbo]
                have HK := Lib.hid hkeep
                clear heq hkeep hbo
                go_wp2_with (first | rw [HVA.out] | (rw [HKP.out]) | (refine wpList_store_row rfl 93 (.tmp 10) (.tmp 77) rfl kp #[.int .u8 yi.n, .int .u16 yi.l, .int .u32 yi.s, .int .u8 yi.d, .int .u8 yi.a0, .int .u8 yi.a1, .int .u8 yi.b0, .int .u8 yi.b1, .int .u8 yi.c0, .int .u8 yi.c1, .bool true, .int .u8 yc, .string yv] (by rfl) (by rfl) 93 _ RA.out (by kernel_rfl) rfl (by simp [Value.oneCell']) ?_; rw [HVB.out]) | (go_at_call 40; refine (KO.out _ DB.out).mono ?_; rintro e vc ⟨rfl, b⟩; have RBc := Lib.hid ((b.block kp (bltA RB.out)).trans RB.out); have BLB := Lib.hid (BLB.out.trans (b.mono BLB.out.size)); have RLB := Lib.hid (RLB.out.below b); clear b; clear q0 q1 q2 q3 q4 q5 q6 q7 q8 q9 q10 q11 q12; have q0 := cell_of RBc.out 0 (.int .u8 yi.n) rfl; have q1 := cell_of RBc.out 1 (.int .u16 yi.l) rfl; have q2 := cell_of RBc.out 2 (.int .u32 yi.s) rfl; have q3 := cell_of RBc.out 3 (.int .u8 yi.d) rfl; have q4 := cell_of RBc.out 4 (.int .u8 yi.a0) rfl; have q5 := cell_of RBc.out 5 (.int .u8 yi.a1) rfl; have q6 := cell_of RBc.out 6 (.int .u8 yi.b0) rfl; have q7 := cell_of RBc.out 7 (.int .u8 yi.b1) rfl; have q8 := cell_of RBc.out 8 (.int .u8 yi.c0) rfl; have q9 := cell_of RBc.out 9 (.int .u8 yi.c1) rfl; have q10 := cell_of RBc.out 10 (.bool true) rfl; have q11 := cell_of RBc.out 11 (.int .u8 yc) rfl; have q12 := cell_of RBc.out 12 (.string yv) rfl; obtain ⟨VB, hVBc⟩ : ∃ z : World, z = vc := ⟨_, rfl⟩; subst hVBc) | fail)
                go_roundw
                case rel => exact ⟨j2 + 1, by have := HJ.out; omega, by go_num, Lib.hid (by rw [LJ_out HY.out HK.out]; exact RLB.out), OWL, BLB⟩
                case measure => simp [intOf]; omega
          · have hE := HHE.out false (by simpa using heq)
            have hkeep : keepR t1 n l y = true := by simp [keepR, heq]
            have HK := Lib.hid hkeep
            clear heq hkeep
            go_wp2_with (first | rw [HVA.out] | (rw [HKP.out]) | (refine wpList_store_row rfl 93 (.tmp 10) (.tmp 77) rfl kp #[.int .u8 y.id.n, .int .u16 y.id.l, .int .u32 y.id.s, .int .u8 y.id.d, .int .u8 y.id.a0, .int .u8 y.id.a1, .int .u8 y.id.b0, .int .u8 y.id.b1, .int .u8 y.id.c0, .int .u8 y.id.c1, .bool y.en, .int .u8 y.code, .string y.val] (by rfl) (by rfl) 93 _ RA.out (by kernel_rfl) rfl (by simp [Value.oneCell']) ?_; rw [HVB.out]) | (at_builtin; obtain ⟨w6, hw6⟩ : ∃ Y, VB.alloc (.cells #[.int .u8 y.id.n, .int .u16 y.id.l, .int .u32 y.id.s, .int .u8 y.id.d, .int .u8 y.id.a0, .int .u8 y.id.a1, .int .u8 y.id.b0, .int .u8 y.id.b1, .int .u8 y.id.c0, .int .u8 y.id.c1, .bool y.en, .int .u8 y.code, .string y.val] 93) = Y := ⟨_, rfl⟩; rw [hw6]; have r6 : w6.heap[VB.heap.size]? = some (.cells (Rw.cs y) 93 (0, 0)) := (by rw [← hw6]; exact heap_alloc_new _ _); have b6 : Below VB.heap.size VB w6 := (by rw [← hw6]; exact (Below.refl _ _).alloc (Nat.le_refl _) _); have O6 := RLB.out.below b6; have B6 := BLB.out.trans (b6.mono BLB.out.size); refine wpList_appZA rfl 98 rfl (.tmp 95) (.tmp 97) 68 93 rfl k0 _ 13 48 Try.underlying68 HIR.out.1 HIR.out.2.1 HIR.out.2.2.1 HIR.out.2.2.2 rfl (by decide) _ (LJ t1 n l j2).length _ rfl O6 (some ⟨VB.heap.size, 0, none⟩) 1 1 (Rw.cs y).toList rfl rfl (fun _ => ⟨_, rfl, fun q z hq => by rw [addr_add, Nat.zero_add, cell_of_row _ _ q _ _ _ r6]; simpa using hq⟩) (Rw.one y) (by have := LJ_len t1 n l j2; have := HNL.out; omega) (by decide) ?_; intro v7 w7 O7 g7 f7; have B7 := Lib.hid (B6.grown g7 B6.size OWL.out); have OWN7 : Hid (∀ q, v7.ownBlock = some q → V.heap.size ≤ q) := Lib.hid (fun q hq => f7.elim (fun e => OWL.out q (e ▸ hq)) (fun ⟨q', e, hq'⟩ => by rw [e] at hq; cases hq; exact Nat.le_trans B6.size hq')); have O7' := Lib.hid O7; clear O7 g7 f7 O6 B6 b6 r6 hw6) | fail)
            go_roundw
            case rel => exact ⟨j2 + 1, by have := HJ.out; omega, by go_num, Lib.hid (by rw [LJ_in HY.out HK.out, List.length_append, flat_append]; simpa [flat] using O7'.out), OWN7, B7⟩
            case measure => simp [intOf]; omega
        · skip
          obtain rfl : j2 = mL := by omega
          have hd2 : decide ((j2 : Int) < (j2 : Int)) = false := by simp
          obtain ⟨A8, c8, e8, _, _, _⟩ := RL.out.slice
          subst e8
          have TE := tabT_end (W := V) (L' := LJ t1 n l j2) (Below.refl _ _) rfl rfl BL.out DV.out D.blk RL.out rfl OWL.out (fun z hz => DV.out.rng z (List.mem_of_mem_take (List.mem_filter.1 hz).1)) (by have := LJ_len t1 n l j2; have := HNL.out; omega)
          have z1 := frz_row 1 blk2
          have TEH := Lib.hid TE
          clear TE
          go_wp2_with fail
          go_end0
          refine ⟨rfl, ⟨.slice A8 (LJ t1 n l j2).length c8, .slice A6 (FJ t.F n l u j).length c6, ?_⟩, ?_⟩
          · have e1 := HT1.out
            have e2 := HENF.out
            subst e1
            have e3' : t.L.length = j2 := HNL.out
            rw [e2, e3']
            exact TEH.out.1
          · exact ((KP.of_below (hkx.symm ▸ Z1.out)).trans KV.out fun _ _ h => h).trans TEH.out.2 fun _ _ h => h

end Go.Proofs.Ytldbmmganicliaa
