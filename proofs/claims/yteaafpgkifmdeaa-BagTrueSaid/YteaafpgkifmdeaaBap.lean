/-
  The walk of the law BagApart. Condition: the parcel lies in memory.
-/
import Derived.Test.YteaafpgkifmdeaaBsa
import Derived.Test.YteaafpgkifmdeaaBsp
namespace Go.Proofs.Yteaafpgkifmdeaa
set_option linter.unusedSimpArgs false
set_option linter.unusedVariables false
open Go.RowKit Go.Sort

theorem own_step {X : List UInt8} {W : World} {base : Nat} {A : Option Addr} {k : Nat} (h : OwnB W base A X) (hk : k < X.length) :
    ∃ g q : Nat, A = some ⟨g, 0, none⟩ ∧ base ≤ g ∧ q < 256 ∧ W.cell? ⟨g, k, none⟩ = some (.int .u8 (q : Nat)) ∧ W.frozen? ⟨g, k, none⟩ = false ∧ (∃ cur, W.heap[g]? = some (.cells cur 5 (0, 0))) ∧ ∀ z : UInt8, OwnB (W.setCell ⟨g, k, none⟩ (.int .u8 (z.toNat : Nat))) base A (X.set k z) := by
  obtain ⟨g, cur, e, h1, h2, h3⟩ := h (fun e => by rw [e] at hk; simp at hk)
  have hx : X[k]? = some X[k] := List.getElem?_eq_getElem hk
  refine ⟨g, X[k].toNat, e, h1, UInt8.toNat_lt _, ?_, frz_row k h2, ⟨cur, h2⟩, fun z => fun _ => ⟨g, _, e, h1, row_set h2 _, ?_⟩⟩
  · rw [cell_of_row _ _ _ _ _ _ h2]
    have h4 : (cur.toList.take X.length)[k]? = some (.int .u8 (X[k].toNat : Nat)) := by rw [h3, Lib.byteCells, List.getElem?_map, hx]; rfl
    rw [List.getElem?_take, if_pos hk] at h4
    simpa using h4
  · rw [Array.toList_setIfInBounds, List.length_set, List.take_set, h3]
    simp [Lib.byteCells, List.map_set]

set_option maxRecDepth 100000 in
set_option maxHeartbeats 1000000 in
theorem spoil_any (base b l most : Nat) (v : Value) (L : List Lp) (i m a : Nat) (W : World) (h : PB base W b l most v L) (hi : i < L.length) (hm : m < 4294967296) (ha : (a : Int) ≤ 9223372036854775807) :
    Calls Try.prog 21 #[.pointer (some ⟨b, 0, none⟩), .int .i64 i, .int .i64 a, .int .u32 m] W fun e W' => (∃ n : Int, e = .returned (.int .i64 n)) ∧ ∃ L', PB base W' b l most v L' ∧ (L' = L ∨ L' = L.set i (L[i].spoil a m)) ∧ KP (fun k => base ≤ k) W W' := by
  by_cases he : spErr L[i] a m = 0
  · refine (spoil_ok base b l most v L i m a W h hi hm he).mono ?_
    rintro e W' ⟨rfl, h1, h2⟩
    refine ⟨⟨_, rfl⟩, _, h1, .inr rfl, h2.mono fun k hk => ?_⟩
    rcases hk with hk | hk
    · exact (h.row.lt k hk).1
    · rw [hk]
      have ok := h.ok _ (List.getElem_mem hi)
      refine (ok.lt fun e => ?_).1
      unfold spErr at he
      rw [e] at he
      split at he
      · omega
      · split at he
        · omega
        · split at he
          · omega
          · rename_i h3
            simp at h3
            omega
  · refine (spoil_err base b l most v L i m a W h hi (by omega) ha he).mono ?_
    rintro e W' ⟨rfl, rfl⟩
    exact ⟨⟨_, rfl⟩, L, h, .inl rfl, KP.refl _ _⟩

set_option maxRecDepth 100000 in
set_option maxHeartbeats 8000000 in
theorem walkApart (x : Lp) (W : World) (hx : x.In W) : Calls Try.prog 5 #[.agg x.cs] W fun e W' => e = .returned (.bool true) ∧ Below W.heap.size W W' := by
  obtain ⟨cs, hcs⟩ : ∃ cs, x.cs = cs := ⟨_, rfl⟩
  rw [hcs]
  obtain ⟨W1, hW1⟩ : ∃ X, W.alloc (.cells cs 36) = X := ⟨_, rfl⟩
  have b1 : Below W.heap.size W W1 := by rw [← hW1]; exact (Below.refl _ _).alloc (Nat.le_refl _) _
  have r1 : W1.heap[W.heap.size]? = some (.cells cs 36 (0, 0)) := by rw [← hW1]; exact heap_alloc_new _ _
  obtain ⟨n, hn⟩ : ∃ n, x.p.B.length = n := ⟨_, rfl⟩
  have d4 : W1.cell? ⟨W.heap.size, 4, none⟩ = some (.slice x.A n x.c) := cell_of r1 4 _ (by rw [← hcs, ← hn]; rfl)
  have HCS := Lib.hid hcs
  have HW := Lib.hid hW1
  have B1 := Lib.hid b1
  have R1 := Lib.hid r1
  have X1 := Lib.hid (hx.below b1)
  have HN := Lib.hid hn
  have KK0 := Lib.hid (fun w => knowsB w)
  clear hcs hW1 b1 r1 hx hn
  by_cases hl : 2000 < n
  · have hl' : (2000 : Int) < (n : Int) := by omega
    go_enter Try.func5, Try.ntmps5
    go_wp2_with (refine wpList_bx rfl 36 (.tmp 0) rfl 1 rfl cs rfl ?_; rw [HW.out])
    refine (KK0.out _).mono ?_
    rintro e w2 ⟨rfl, b2⟩
    have B2 := Lib.hid (B1.out.trans (b2.mono B1.out.size))
    clear b2
    go_wp2
    go_ret
    exact ⟨rfl, B2.out⟩
  have hl' : ¬ (2000 : Int) < (n : Int) := by omega
  have HL : Hid (n ≤ 2000) := Lib.hid (by omega)
  clear hl
  go_enter Try.func5, Try.ntmps5
  go_wp2_with (refine wpList_bx rfl 36 (.tmp 0) rfl 1 rfl cs rfl ?_; rw [HW.out])
  refine (KK0.out _).mono ?_
  rintro e w2 ⟨rfl, b2⟩
  have B2 := Lib.hid (B1.out.trans (b2.mono B1.out.size))
  have X2 := Lib.hid (X1.out.below b2)
  have R2 := Lib.hid ((b2.block _ (Array.getElem?_eq_some_iff.1 R1.out).1).trans R1.out)
  have KN := Lib.hid (newB 3 w2 w2.heap.size (Nat.le_refl _))
  clear b2 d4 R1 B1 KK0 X1
  go_wp2_with fail
  refine KN.out.mono ?_
  rintro e w3 ⟨b, l, rfl, p3, b3⟩
  have hm : mst 3 = 3 := rfl
  rw [hm] at p3
  have C3 := Lib.hid b3
  have P3 := Lib.hid p3
  have R3 := Lib.hid ((b3.block _ (Array.getElem?_eq_some_iff.1 R2.out).1).trans R2.out)
  have KO := Lib.hid (ownL x w3 (X2.out.below b3).at_ (by have := HN.out; have := HL.out; omega) X2.out.nn)
  rw [HCS.out] at KO
  clear p3 b3 hm KN
  go_wp2_with (refine wpList_load_row rfl 36 (.tmp 1) rfl W.heap.size (by rfl) 36 cs (0, 0) _ R3.out Try.underlying36 rfl (by rw [← HCS.out]; kernel_rfl) ?_)
  refine KO.out.mono ?_
  rintro e w4 ⟨y1, rfl, hy1, ok1, b4⟩
  obtain ⟨ys1, hys1⟩ : ∃ ys, y1.cs = ys := ⟨_, rfl⟩
  rw [hys1]
  have YS1 := Lib.hid hys1
  have HY1 := Lib.hid hy1
  have C4 := Lib.hid (C3.out.trans (b4.mono C3.out.size))
  have P4 := Lib.hid (P3.out.below b4)
  have NY1 : Hid (y1.p.B.length = n) := Lib.hid (by rw [hy1]; exact HN.out)
  obtain ⟨w4a, hw4a⟩ : ∃ x, w4.alloc (.cells #[.int .u8 0, .int .u16 0, .int .u8 0, .int .u16 0, .slice none 0 0, .bool false] 45) = x := ⟨_, rfl⟩
  have r4a : w4a.heap[w4.heap.size]? = some (.cells #[.int .u8 0, .int .u16 0, .int .u8 0, .int .u16 0, .slice none 0 0, .bool false] 45 (0, 0)) := by rw [← hw4a]; exact heap_alloc_new _ _
  obtain ⟨w5, hw5⟩ : ∃ x, w4a.setRow w4.heap.size ys1 = x := ⟨_, rfl⟩
  have b5 : Below w4.heap.size w4 w5 := by rw [← hw5, ← hw4a]; exact below_row ((Below.refl _ _).alloc (Nat.le_refl _) _) (Nat.le_refl _) _
  have r5 : w5.heap[w4.heap.size]? = some (.cells ys1 45 (0, 0)) := by rw [← hw5]; exact setRow_heap _ _ _ _ _ _ r4a
  have RA5 := Lib.hid r4a
  have HA5 := Lib.hid hw4a
  have HB5 := Lib.hid hw5
  have RX5 := Lib.hid r5
  clear hw4a r4a hw5 r5
  have P5 := Lib.hid (P4.out.below b5)
  have C5 := Lib.hid (C4.out.trans (b5.mono C4.out.size))
  have OK1' := Lib.hid (ok1.keep (W' := w5) fun k cur _ _ _ hc => (b5.block k (Array.getElem?_eq_some_iff.1 hc).1).trans hc)
  have S34 := Lib.hid b4.size
  have S45 := Lib.hid b5.size
  clear hys1 hy1 ok1 b4 b5 KO
  have KPU := Lib.hid (put_ok w2.heap.size b l 3 _ [] y1 w5 P5.out (show 0 < 3 by omega) OK1'.out.own.at_ OK1'.out.len OK1'.out.le OK1'.out.mx)
  rw [YS1.out] at KPU
  go_wp2_with (first
    | (refine wpList_load_row rfl 45 (.tmp 4) rfl w4.heap.size (by rfl) 45 ys1 (0, 0) _ RX5.out Try.underlying45 rfl (by rw [← YS1.out]; kernel_rfl) ?_)
    | (rw [HA5.out])
    | (refine wpList_store_row rfl 45 (.tmp 4) (.tmp 22) rfl w4.heap.size ys1 (by rfl) (by rfl) 45 #[.int .u8 0, .int .u16 0, .int .u8 0, .int .u16 0, .slice none 0 0, .bool false] RA5.out (by rw [← YS1.out]; kernel_rfl) (by rw [← YS1.out]; rfl) (by rw [← YS1.out]; simp [Lp.cs, Value.oneCell']) ?_; rw [HB5.out]))
  refine KPU.out.mono ?_
  rintro e w6 ⟨rfl, y2, v2, hy2, ok2, p6, k6⟩
  have HY2 := Lib.hid (hy2.trans HY1.out)
  have OK2 := Lib.hid ok2
  have P6 := Lib.hid p6
  have C6 := Lib.hid (C5.out.trans (k6.below C5.out.size (fun k hk => by
    rcases hk with rfl | hk
    · exact p6.hl
    · cases hk)))
  have RXX1 : Hid (w6.heap[w4.heap.size]? = some (.cells ys1 45 (0, 0))) := Lib.hid ((k6.block _ (Array.getElem?_eq_some_iff.1 RX5.out).1 (fun hk => by
    rcases hk with hk | hk
    · exact apart_of RX5.out P5.out.lst (by decide) hk
    · cases hk)).trans RX5.out)
  have G1 := Lib.hid (fun (g : Nat) (h0 : n ≠ 0) (hA : y1.A = some ⟨g, 0, none⟩) => (show w3.heap.size ≤ g ∧ g < w5.heap.size from by have h := OK1'.out.lt (fun e => h0 (by rw [← NY1.out, e]; rfl)); rw [Lp.g_of hA] at h; exact h))
  have OK1 : Hid (y1.Ok w6 w3.heap.size) := Lib.hid (OK1'.out.keep fun k cur _ _ _ hc => (k6.block k (Array.getElem?_eq_some_iff.1 hc).1 (fun hk => by
    rcases hk with hk | hk
    · exact apart_of hc P5.out.lst (by decide) hk
    · cases hk)).trans hc)
  have S56 := Lib.hid k6.size
  clear p6 k6 ok2 hy2 KPU P3 P4 OK1' HA5 HB5 RA5 RX5
  go_wp2
  have Y1nil := Lib.hid (OK1.out.own)
  go_loopw [5] (fun z wx => ∃ k : Nat, z = .int .i64 k ∧ k ≤ n ∧ Hid (∃ X : List UInt8, X.length = n ∧ OwnB wx w3.heap.size y1.A X) ∧ Hid (KP (fun k => n ≠ 0 ∧ y1.A = some ⟨k, 0, none⟩) w6 wx)) (fun z _ => n - (intOf z).toNat)
  case atStart => exact ⟨0, rfl, by omega, Lib.hid ⟨y1.p.B, NY1.out, OK1.out.own⟩, Lib.hid (KP.refl _ _)⟩
  case round =>
    obtain ⟨k, rfl, hk, I, KK⟩ := hrel
    have hrx : wr.heap[w4.heap.size]? = some (.cells ys1 45 (0, 0)) := (KK.out.block _ (Array.getElem?_eq_some_iff.1 RXX1.out).1 (fun hh => by
      obtain ⟨g, cur, e, _, hc, _⟩ := OK1.out.own (fun e => hh.1 (by rw [← NY1.out, e]; rfl))
      have h2 := hh.2.symm.trans e
      simp at h2
      exact apart_of RXX1.out hc (by decide) h2)).trans RXX1.out
    have x4 : wr.cell? ⟨w4.heap.size, 4, none⟩ = some (.slice y1.A n y1.c) := cell_of hrx 4 _ (by rw [← YS1.out]; unfold Lp.cs; rw [NY1.out]; rfl)
    clear hrx
    by_cases hkn : k < n
    · have hkn' : (k : Int) < (n : Int) := by omega
      obtain ⟨X, hX, hO⟩ := I.out
      obtain ⟨g, q, hA, hgb, hq, hcell, hfrz, ⟨cur, hcur⟩, hst⟩ := own_step hO (show k < X.length by omega)
      have hz := hst (UInt8.ofNat ((q + 1) % 256))
      rw [toNat_of (Nat.mod_lt _ (by decide))] at hz
      obtain ⟨z, hzz⟩ : ∃ z, (q + 1) % 256 = z := ⟨_, rfl⟩
      have hwz : IntKind.u8.wrap ((q : Int) + 1) = ((z : Nat) : Int) := by
        show ((q : Int) + 1) % 256 = _
        omega
      rw [hzz] at hz
      rw [hA] at x4
      have HZ := Lib.hid hz
      have HX := Lib.hid hX
      have HA' := Lib.hid hA
      have HWZ := Lib.hid hwz
      have hk0 : (0 : Int) ≤ (k : Int) := by omega
      clear hz hX hA hO hst hzz hwz hgb hcur
      go_wp2_with fail
      refine region_heldT (S := fun X => X.cell? ⟨w4.heap.size, 4, none⟩ = some (.slice (some ⟨g, 0, none⟩) n y1.c) ∧ X.cell? ⟨g, k, none⟩ = some (.int .u8 (q : Nat))) 9 (by kernel_rfl) (by decide) (fun inv => ?_)
      change FirstH _ _ _ _ _ _ _ _ _ _ wr.drew
      have HS : wr.drew.cell? ⟨w4.heap.size, 4, none⟩ = some (.slice (some ⟨g, 0, none⟩) n y1.c) ∧ wr.drew.cell? ⟨g, k, none⟩ = some (.int .u8 (q : Nat)) := ⟨x4, hcell⟩
      refine FirstH.go (i := 0) (v := .pointer (some ⟨w4.heap.size, 4, none⟩)) rfl rfl _ rfl _ rfl (by kernel_rfl) (fun _ _ _ h => h) inv (fun X _ => by unfold bareO; go_simp) HS (fun inv => ?_)
      try simp only [Act.put, List.setIfInBounds_toArray, List.set_cons_zero, List.set_cons_succ]
      refine FirstH.go (i := 1) (v := .slice (some ⟨g, 0, none⟩) n y1.c) rfl rfl _ rfl _ rfl (by kernel_rfl) (fun _ _ _ h => h) inv (fun X hS => by obtain ⟨s1, s2⟩ := hS; unfold bareO; go_simp) HS (fun inv => ?_)
      try simp only [Act.put, List.setIfInBounds_toArray, List.set_cons_zero, List.set_cons_succ]
      refine FirstH.go (i := 2) (v := .int .i64 k) rfl rfl _ rfl _ rfl (by kernel_rfl) (fun _ _ _ h => h) inv (fun X _ => by unfold bareO; go_simp) HS (fun inv => ?_)
      try simp only [Act.put, List.setIfInBounds_toArray, List.set_cons_zero, List.set_cons_succ]
      refine FirstH.go (i := 3) (v := .pointer (some ⟨w4.heap.size, 4, none⟩)) rfl rfl _ rfl _ rfl (by kernel_rfl) (fun _ _ _ h => h) inv (fun X _ => by unfold bareO; go_simp) HS (fun inv => ?_)
      try simp only [Act.put, List.setIfInBounds_toArray, List.set_cons_zero, List.set_cons_succ]
      refine FirstH.go (i := 4) (v := .slice (some ⟨g, 0, none⟩) n y1.c) rfl rfl _ rfl _ rfl (by kernel_rfl) (fun _ _ _ h => h) inv (fun X hS => by obtain ⟨s1, s2⟩ := hS; unfold bareO; go_simp) HS (fun inv => ?_)
      try simp only [Act.put, List.setIfInBounds_toArray, List.set_cons_zero, List.set_cons_succ]
      refine FirstH.go (i := 5) (v := .int .i64 k) rfl rfl _ rfl _ rfl (by kernel_rfl) (fun _ _ _ h => h) inv (fun X _ => by unfold bareO; go_simp) HS (fun inv => ?_)
      try simp only [Act.put, List.setIfInBounds_toArray, List.set_cons_zero, List.set_cons_succ]
      refine FirstH.go (i := 6) (v := .pointer (some ⟨g, k, none⟩)) rfl rfl _ rfl _ rfl (by kernel_rfl) (fun _ _ _ h => h) inv (fun X _ => by unfold bareO; go_simp) HS (fun inv => ?_)
      try simp only [Act.put, List.setIfInBounds_toArray, List.set_cons_zero, List.set_cons_succ]
      refine FirstH.go (i := 7) (v := .int .u8 (q : Nat)) rfl rfl _ rfl _ rfl (by kernel_rfl) (fun _ _ _ h => h) inv (fun X hS => by obtain ⟨s1, s2⟩ := hS; unfold bareO; go_simp) HS (fun inv => ?_)
      try simp only [Act.put, List.setIfInBounds_toArray, List.set_cons_zero, List.set_cons_succ]
      refine FirstH.go (i := 8) (v := .int .u8 (z : Nat)) rfl rfl _ rfl _ rfl (by kernel_rfl) (fun _ _ _ h => h) inv (fun X _ => by have hwz := HWZ.out; unfold bareO; go_simp) HS (fun inv => ?_)
      try simp only [Act.put, List.setIfInBounds_toArray, List.set_cons_zero, List.set_cons_succ]
      clear HS
      refine ⟨by kernel_rfl, ?_⟩
      simp only [List.drop_succ_cons, List.drop_zero]
      go_wp2
      go_roundw
      case rel => exact ⟨k + 1, by go_num, by omega, Lib.hid ⟨_, by rw [List.length_set]; exact HX.out, HZ.out⟩, Lib.hid ((KK.out.trans (KP.set (S := fun k => n ≠ 0 ∧ y1.A = some ⟨k, 0, none⟩) wr g _ _ ⟨by omega, HA'.out⟩) fun _ _ h => h).trans (KP.of_below (Below.refl _ _).drew) fun _ _ h => h)⟩
      case measure => simp [intOf]; omega
    · obtain rfl : n = k := by omega
      have hkn' : ¬ (n : Int) < (n : Int) := by omega
      go_wp2_with fail
      clear x4 hkn
      obtain ⟨w7, rfl⟩ : ∃ z : World, z = wr := ⟨_, rfl⟩
      have P7 : Hid (PB w2.heap.size w7 b l 3 v2 [y2]) := Lib.hid (P6.out.keep fun k hk hs => KK.out.block k hk (fun hh => by
        obtain ⟨g, cur, e, _, hc, _⟩ := OK1.out.own (fun e => hh.1 (by rw [← NY1.out, e]; rfl))
        have h2 : k = g := by have h3 := hh.2.symm.trans e; simp at h3; exact h3
        subst h2
        rcases hs with hs | hs | hs | ⟨z, hz, hz1, hz2⟩
        · rw [hs] at hc; exact apart_of hc P6.out.bag (by decide) rfl
        · rw [hs] at hc; exact apart_of hc P6.out.lst (by decide) rfl
        · obtain ⟨cv, hcv⟩ := row_block P6.out.row hs
          exact apart_of hc hcv (by decide) rfl
        · obtain rfl : z = y2 := by simpa using hz
          have h5 := (OK2.out.lt hz1).1
          have h6 := (G1.out k hh.1 e).2
          omega))
      have C7 := Lib.hid (C6.out.trans (KK.out.below C6.out.size (fun k hh => by
        obtain ⟨g, cur, e, hgb, _⟩ := OK1.out.own (fun e => hh.1 (by rw [← NY1.out, e]; rfl))
        have h2 : k = g := by have h3 := hh.2.symm.trans e; simp at h3; exact h3
        have := C3.out.size
        skip
        omega)))
      have S6_7 := Lib.hid KK.out.size
      clear I KK hk
      have KL := Lib.hid (look_yes w2.heap.size b l 3 v2 [y2] 0 w7 P7.out (show 0 < 1 by omega))
      refine KL.out.mono ?_
      rintro e w8 ⟨y3, rfl, hy3, ok3, b8⟩
      obtain ⟨ys3, hys3⟩ : ∃ ys, y3.cs = ys := ⟨_, rfl⟩
      rw [hys3]
      have YS3 := Lib.hid hys3
      have P8 := Lib.hid (P7.out.below b8)
      have C8 := Lib.hid (C7.out.trans (b8.mono C7.out.size))
      have NY3 : Hid (y3.p.B.length = n) := Lib.hid (by rw [hy3]; show y2.p.B.length = n; rw [HY2.out]; exact HN.out)
      have S78 := Lib.hid b8.size
      obtain ⟨w8a, hw8a⟩ : ∃ x, w8.alloc (.cells #[.int .u8 0, .int .u16 0, .int .u8 0, .int .u16 0, .slice none 0 0, .bool false] 45) = x := ⟨_, rfl⟩
      have r8a : w8a.heap[w8.heap.size]? = some (.cells #[.int .u8 0, .int .u16 0, .int .u8 0, .int .u16 0, .slice none 0 0, .bool false] 45 (0, 0)) := by rw [← hw8a]; exact heap_alloc_new _ _
      obtain ⟨w9, hw9⟩ : ∃ x, w8a.setRow w8.heap.size ys3 = x := ⟨_, rfl⟩
      have b9 : Below w8.heap.size w8 w9 := by rw [← hw9, ← hw8a]; exact below_row ((Below.refl _ _).alloc (Nat.le_refl _) _) (Nat.le_refl _) _
      have r9 : w9.heap[w8.heap.size]? = some (.cells ys3 45 (0, 0)) := by rw [← hw9]; exact setRow_heap _ _ _ _ _ _ r8a
      have RA9 := Lib.hid r8a
      have HA9 := Lib.hid hw8a
      have HB9 := Lib.hid hw9
      have RX9 := Lib.hid r9
      clear hw8a r8a hw9 r9
      have P9 := Lib.hid (P8.out.below b9)
      have C9 := Lib.hid (C8.out.trans (b9.mono C8.out.size))
      have OK3 := Lib.hid (ok3.keep (W' := w9) fun k cur _ _ _ hc => (b9.block k (Array.getElem?_eq_some_iff.1 hc).1).trans hc)
      have RXX3 := RX9
      clear b8 b9 hy3 ok3 hys3 KL
      go_wp2_with (first
          | (rw [HA9.out])
          | (refine wpList_store_row rfl 45 (.tmp 6) (.tmp 46) rfl w8.heap.size ys3 (by rfl) (by rfl) 45 #[.int .u8 0, .int .u16 0, .int .u8 0, .int .u16 0, .slice none 0 0, .bool false] RA9.out (by rw [← YS3.out]; kernel_rfl) (by rw [← YS3.out]; rfl) (by rw [← YS3.out]; simp [Lp.cs, Value.oneCell']) ?_; rw [HB9.out]))
      have Y3nil := Lib.hid (OK3.out.own)
      go_loopw [8] (fun z wx => ∃ k : Nat, z = .int .i64 k ∧ k ≤ n ∧ Hid (∃ X : List UInt8, X.length = n ∧ OwnB wx w7.heap.size y3.A X) ∧ Hid (KP (fun k => n ≠ 0 ∧ y3.A = some ⟨k, 0, none⟩) w9 wx)) (fun z _ => n - (intOf z).toNat)
      case atStart => exact ⟨0, rfl, by omega, Lib.hid ⟨y3.p.B, NY3.out, OK3.out.own⟩, Lib.hid (KP.refl _ _)⟩
      case round =>
        obtain ⟨k, rfl, hk, I, KK⟩ := hrel
        have hrx : wr.heap[w8.heap.size]? = some (.cells ys3 45 (0, 0)) := (KK.out.block _ (Array.getElem?_eq_some_iff.1 RXX3.out).1 (fun hh => by
          obtain ⟨g, cur, e, _, hc, _⟩ := OK3.out.own (fun e => hh.1 (by rw [← NY3.out, e]; rfl))
          have h2 := hh.2.symm.trans e
          simp at h2
          exact apart_of RXX3.out hc (by decide) h2)).trans RXX3.out
        have x4 : wr.cell? ⟨w8.heap.size, 4, none⟩ = some (.slice y3.A n y3.c) := cell_of hrx 4 _ (by rw [← YS3.out]; unfold Lp.cs; rw [NY3.out]; rfl)
        clear hrx
        by_cases hkn : k < n
        · have hkn' : (k : Int) < (n : Int) := by omega
          obtain ⟨X, hX, hO⟩ := I.out
          obtain ⟨g, q, hA, hgb, hq, hcell, hfrz, ⟨cur, hcur⟩, hst⟩ := own_step hO (show k < X.length by omega)
          have hz := hst (UInt8.ofNat ((q + 1) % 256))
          rw [toNat_of (Nat.mod_lt _ (by decide))] at hz
          obtain ⟨z, hzz⟩ : ∃ z, (q + 1) % 256 = z := ⟨_, rfl⟩
          have hwz : IntKind.u8.wrap ((q : Int) + 1) = ((z : Nat) : Int) := by
            show ((q : Int) + 1) % 256 = _
            omega
          rw [hzz] at hz
          rw [hA] at x4
          have HZ := Lib.hid hz
          have HX := Lib.hid hX
          have HA' := Lib.hid hA
          have HWZ := Lib.hid hwz
          have hk0 : (0 : Int) ≤ (k : Int) := by omega
          clear hz hX hA hO hst hzz hwz hgb hcur
          go_wp2_with fail
          refine region_heldT (S := fun X => X.cell? ⟨w8.heap.size, 4, none⟩ = some (.slice (some ⟨g, 0, none⟩) n y3.c) ∧ X.cell? ⟨g, k, none⟩ = some (.int .u8 (q : Nat))) 9 (by kernel_rfl) (by decide) (fun inv => ?_)
          change FirstH _ _ _ _ _ _ _ _ _ _ wr.drew
          have HS : wr.drew.cell? ⟨w8.heap.size, 4, none⟩ = some (.slice (some ⟨g, 0, none⟩) n y3.c) ∧ wr.drew.cell? ⟨g, k, none⟩ = some (.int .u8 (q : Nat)) := ⟨x4, hcell⟩
          refine FirstH.go (i := 0) (v := .pointer (some ⟨w8.heap.size, 4, none⟩)) rfl rfl _ rfl _ rfl (by kernel_rfl) (fun _ _ _ h => h) inv (fun X _ => by unfold bareO; go_simp) HS (fun inv => ?_)
          try simp only [Act.put, List.setIfInBounds_toArray, List.set_cons_zero, List.set_cons_succ]
          refine FirstH.go (i := 1) (v := .slice (some ⟨g, 0, none⟩) n y3.c) rfl rfl _ rfl _ rfl (by kernel_rfl) (fun _ _ _ h => h) inv (fun X hS => by obtain ⟨s1, s2⟩ := hS; unfold bareO; go_simp) HS (fun inv => ?_)
          try simp only [Act.put, List.setIfInBounds_toArray, List.set_cons_zero, List.set_cons_succ]
          refine FirstH.go (i := 2) (v := .int .i64 k) rfl rfl _ rfl _ rfl (by kernel_rfl) (fun _ _ _ h => h) inv (fun X _ => by unfold bareO; go_simp) HS (fun inv => ?_)
          try simp only [Act.put, List.setIfInBounds_toArray, List.set_cons_zero, List.set_cons_succ]
          refine FirstH.go (i := 3) (v := .pointer (some ⟨w8.heap.size, 4, none⟩)) rfl rfl _ rfl _ rfl (by kernel_rfl) (fun _ _ _ h => h) inv (fun X _ => by unfold bareO; go_simp) HS (fun inv => ?_)
          try simp only [Act.put, List.setIfInBounds_toArray, List.set_cons_zero, List.set_cons_succ]
          refine FirstH.go (i := 4) (v := .slice (some ⟨g, 0, none⟩) n y3.c) rfl rfl _ rfl _ rfl (by kernel_rfl) (fun _ _ _ h => h) inv (fun X hS => by obtain ⟨s1, s2⟩ := hS; unfold bareO; go_simp) HS (fun inv => ?_)
          try simp only [Act.put, List.setIfInBounds_toArray, List.set_cons_zero, List.set_cons_succ]
          refine FirstH.go (i := 5) (v := .int .i64 k) rfl rfl _ rfl _ rfl (by kernel_rfl) (fun _ _ _ h => h) inv (fun X _ => by unfold bareO; go_simp) HS (fun inv => ?_)
          try simp only [Act.put, List.setIfInBounds_toArray, List.set_cons_zero, List.set_cons_succ]
          refine FirstH.go (i := 6) (v := .pointer (some ⟨g, k, none⟩)) rfl rfl _ rfl _ rfl (by kernel_rfl) (fun _ _ _ h => h) inv (fun X _ => by unfold bareO; go_simp) HS (fun inv => ?_)
          try simp only [Act.put, List.setIfInBounds_toArray, List.set_cons_zero, List.set_cons_succ]
          refine FirstH.go (i := 7) (v := .int .u8 (q : Nat)) rfl rfl _ rfl _ rfl (by kernel_rfl) (fun _ _ _ h => h) inv (fun X hS => by obtain ⟨s1, s2⟩ := hS; unfold bareO; go_simp) HS (fun inv => ?_)
          try simp only [Act.put, List.setIfInBounds_toArray, List.set_cons_zero, List.set_cons_succ]
          refine FirstH.go (i := 8) (v := .int .u8 (z : Nat)) rfl rfl _ rfl _ rfl (by kernel_rfl) (fun _ _ _ h => h) inv (fun X _ => by have hwz := HWZ.out; unfold bareO; go_simp) HS (fun inv => ?_)
          try simp only [Act.put, List.setIfInBounds_toArray, List.set_cons_zero, List.set_cons_succ]
          clear HS
          refine ⟨by kernel_rfl, ?_⟩
          simp only [List.drop_succ_cons, List.drop_zero]
          go_wp2
          go_roundw
          case rel => exact ⟨k + 1, by go_num, by omega, Lib.hid ⟨_, by rw [List.length_set]; exact HX.out, HZ.out⟩, Lib.hid ((KK.out.trans (KP.set (S := fun k => n ≠ 0 ∧ y3.A = some ⟨k, 0, none⟩) wr g _ _ ⟨by omega, HA'.out⟩) fun _ _ h => h).trans (KP.of_below (Below.refl _ _).drew) fun _ _ h => h)⟩
          case measure => simp [intOf]; omega
        · obtain rfl : n = k := by omega
          have hkn' : ¬ (n : Int) < (n : Int) := by omega
          go_wp2_with fail
          clear x4 hkn
          obtain ⟨w10, rfl⟩ : ∃ z : World, z = wr := ⟨_, rfl⟩
          have P10 : Hid (PB w2.heap.size w10 b l 3 v2 [y2]) := Lib.hid (P9.out.keep fun k hk hs => KK.out.block k hk (fun hh => by
            obtain ⟨g, cur, e, _, hc, _⟩ := OK3.out.own (fun e => hh.1 (by rw [← NY3.out, e]; rfl))
            have h2 : k = g := by have h3 := hh.2.symm.trans e; simp at h3; exact h3
            subst h2
            rcases hs with hs | hs | hs | ⟨z, hz, hz1, hz2⟩
            · rw [hs] at hc; exact apart_of hc P9.out.bag (by decide) rfl
            · rw [hs] at hc; exact apart_of hc P9.out.lst (by decide) rfl
            · obtain ⟨cv, hcv⟩ := row_block P9.out.row hs
              exact apart_of hc hcv (by decide) rfl
            · obtain rfl : z = y2 := by simpa using hz
              have h5 := (OK2.out.lt hz1).2
              have h6 := (OK3.out.lt (fun e => hh.1 (by rw [← NY3.out, e]; rfl))).1
              rw [Lp.g_of e] at h6
              have := S6_7.out
              omega))
          have C10 := Lib.hid (C9.out.trans (KK.out.below C9.out.size (fun k hh => by
            obtain ⟨g, cur, e, hgb, _⟩ := OK3.out.own (fun e => hh.1 (by rw [← NY3.out, e]; rfl))
            have h2 : k = g := by have h3 := hh.2.symm.trans e; simp at h3; exact h3
            have := C3.out.size
            have := C7.out.size
            omega)))
          have S9_10 := Lib.hid KK.out.size
          clear I KK hk
          have KT := Lib.hid (twice_ok w2.heap.size b l 3 v2 [y2] 0 w10 P10.out (show 0 < 1 by omega) (show 1 < 3 by omega))
          refine KT.out.mono ?_
          rintro e w11 ⟨rfl, y4, v4, hy4, ok4, p11, k11⟩
          have C11 := Lib.hid (C10.out.trans (k11.below C10.out.size (fun k hk => by
            rcases hk with rfl | hk
            · exact p11.hl
            · exact (P10.out.row.lt k hk).1)))
          have HY4 : Hid (y4.p = x.p) := Lib.hid (hy4.trans HY2.out)
          have P11 := Lib.hid p11
          clear k11 p11 hy4 ok4 KT
          go_wp2_with fail
          have KS := Lib.hid (spoil_any w2.heap.size b l 3 v4 ([y2] ++ [y4]) 0 7 0 w11 P11.out (show 0 < 2 by omega) (by omega) (by omega))
          refine KS.out.mono ?_
          rintro e w12 ⟨⟨sn, rfl⟩, L', p12, hL, k12⟩
          have hL1 : ∃ h : 1 < L'.length, L'[1] = y4 := by
            rcases hL with rfl | rfl
            · exact ⟨show 1 < 2 by omega, rfl⟩
            · exact ⟨by simp, by simp⟩
          obtain ⟨hL2, hL3⟩ := hL1
          have C12 := Lib.hid (C11.out.trans (k12.below C11.out.size (fun k hk => hk)))
          have KK2 := take_yes w2.heap.size b l 3 v4 L' 1 w12 p12 hL2
          rw [hL3] at KK2
          have KTK := Lib.hid KK2
          have P12 := Lib.hid p12
          clear KK2 hL k12 p12 KS
          go_wp2_with fail
          refine KTK.out.mono ?_
          rintro e w13 ⟨rfl, ok4, v5, p13, k13⟩
          have C13 := Lib.hid (C12.out.trans (k13.below C12.out.size (fun k hk => by
            rcases hk with rfl | hk
            · exact p13.hl
            · exact (P12.out.row.lt k hk).1)))
          obtain ⟨ys4, hys4⟩ : ∃ ys, y4.cs = ys := ⟨_, rfl⟩
          rw [hys4]
          have YS4 := Lib.hid hys4
          obtain ⟨w13a, hw13a⟩ : ∃ x, w13.alloc (.cells #[.int .u8 0, .int .u16 0, .int .u8 0, .int .u16 0, .slice none 0 0, .bool false] 45) = x := ⟨_, rfl⟩
          have r13a : w13a.heap[w13.heap.size]? = some (.cells #[.int .u8 0, .int .u16 0, .int .u8 0, .int .u16 0, .slice none 0 0, .bool false] 45 (0, 0)) := by rw [← hw13a]; exact heap_alloc_new _ _
          obtain ⟨w14, hw14⟩ : ∃ x, w13a.setRow w13.heap.size ys4 = x := ⟨_, rfl⟩
          have b14 : Below w13.heap.size w13 w14 := by rw [← hw14, ← hw13a]; exact below_row ((Below.refl _ _).alloc (Nat.le_refl _) _) (Nat.le_refl _) _
          have r14 : w14.heap[w13.heap.size]? = some (.cells ys4 45 (0, 0)) := by rw [← hw14]; exact setRow_heap _ _ _ _ _ _ r13a
          have RA14 := Lib.hid r13a
          have HA14 := Lib.hid hw13a
          have HB14 := Lib.hid hw14
          have RX14 := Lib.hid r14
          clear hw13a r13a hw14 r14
          have C14 := Lib.hid (C13.out.trans (b14.mono C13.out.size))
          have OK4 := Lib.hid (ok4.keep (W' := w14) fun k cur _ _ _ hc => (b14.block k (Array.getElem?_eq_some_iff.1 hc).1).trans hc)
          clear b14 ok4 p13 k13 hys4 KTK
          go_wp2_with (first
              | (rw [HA14.out])
              | (refine wpList_store_row rfl 45 (.tmp 9) (.tmp 72) rfl w13.heap.size ys4 (by rfl) (by rfl) 45 #[.int .u8 0, .int .u16 0, .int .u8 0, .int .u16 0, .slice none 0 0, .bool false] RA14.out (by rw [← YS4.out]; kernel_rfl) (by rw [← YS4.out]; rfl) (by rw [← YS4.out]; simp [Lp.cs, Value.oneCell']) ?_; rw [HB14.out]))
          have lt2 := (Array.getElem?_eq_some_iff.1 R2.out).1
          refine region_heldT (S := fun X => X.heap[w13.heap.size]? = some (.cells ys4 45 (0, 0)) ∧ X.heap[W.heap.size]? = some (.cells cs 36 (0, 0))) 9 (by kernel_rfl) (by decide) (fun inv => ?_)
          change FirstH _ _ _ _ _ _ _ _ _ _ w14.drew
          obtain ⟨w15, hw15⟩ : ∃ X, w14.drew = X := ⟨_, rfl⟩
          have b15 : Below w14.heap.size w14 w15 := by rw [← hw15]; exact (Below.refl _ _).drew
          rw [hw15]
          have C15 := Lib.hid (C14.out.trans (b15.mono C14.out.size))
          have OK5 := Lib.hid (OK4.out.own.at_.below b15 (Nat.le_refl _) b15.size)
          have ry : w15.heap[w13.heap.size]? = some (.cells ys4 45 (0, 0)) := (b15.block _ (Array.getElem?_eq_some_iff.1 RX14.out).1).trans RX14.out
          have rp : w15.heap[W.heap.size]? = some (.cells cs 36 (0, 0)) := (C15.out.block _ lt2).trans R2.out
          have HS : w15.heap[w13.heap.size]? = some (.cells ys4 45 (0, 0)) ∧ w15.heap[W.heap.size]? = some (.cells cs 36 (0, 0)) := ⟨ry, rp⟩
          have LT2 := Lib.hid lt2
          have RY := Lib.hid ry
          clear hw15 b15 ry rp lt2
          refine FirstH.go (i := 0) (v := .int .i64 0) rfl rfl _ rfl _ rfl (by kernel_rfl) (fun _ _ _ h => h) inv (fun X _ => by unfold bareO; go_simp) HS (fun inv => ?_)
          try simp only [Act.put, List.setIfInBounds_toArray, List.set_cons_zero, List.set_cons_succ]
          clear HS
          refine FirstH.only (i := 1) (by kernel_rfl) (by decide) inv (fun inv => wpOp_call (i := 1) rfl rfl 75 rfl _ rfl 14 #[.int .i64 0] (by unfold bareO; go_simp) (numE 0 _) ?_)
          rintro e w16 ⟨rfl, rfl⟩
          have HS : w15.heap[w13.heap.size]? = some (.cells ys4 45 (0, 0)) ∧ w15.heap[W.heap.size]? = some (.cells cs 36 (0, 0)) := ⟨RY.out, (C15.out.block _ LT2.out).trans R2.out⟩
          refine ⟨_, rfl, HS, ?_⟩
          try simp only [Act.put, List.setIfInBounds_toArray, List.set_cons_zero, List.set_cons_succ]
          refine FirstH.go (i := 2) (v := .bool true) rfl rfl _ rfl _ rfl (by kernel_rfl) (fun _ _ _ h => h) inv (fun X _ => by unfold bareO; go_simp) HS (fun inv => ?_)
          try simp only [Act.put, List.setIfInBounds_toArray, List.set_cons_zero, List.set_cons_succ]
          refine FirstH.go (i := 3) (v := .bool true) rfl rfl _ rfl _ rfl (by kernel_rfl) (fun _ _ _ h => h) inv (fun X _ => by unfold bareO; go_simp) HS (fun inv => ?_)
          try simp only [Act.put, List.setIfInBounds_toArray, List.set_cons_zero, List.set_cons_succ]
          refine FirstH.goG (i := 4) (v := .agg ys4) rfl (by kernel_rfl) _ rfl _ rfl (by kernel_rfl) (fun _ _ _ h => h) inv (fun X hS => run_load_row 45 _ _ w13.heap.size rfl _ _ _ _ hS.1 Try.underlying45 rfl (by rw [← YS4.out]; kernel_rfl)) HS (fun inv => ?_)
          try simp only [Act.put, List.setIfInBounds_toArray, List.set_cons_zero, List.set_cons_succ]
          refine FirstH.goG (i := 6) (v := .agg cs) rfl (by kernel_rfl) _ rfl _ rfl (by kernel_rfl) (fun _ _ _ h => h) inv (fun X hS => run_load_row 36 _ _ W.heap.size rfl _ _ _ _ hS.2 Try.underlying36 rfl (by rw [← HCS.out]; kernel_rfl)) HS (fun inv => ?_)
          try simp only [Act.put, List.setIfInBounds_toArray, List.set_cons_zero, List.set_cons_succ]
          clear HS
          have KR := refL y4 w15 OK5.out OK4.out.len OK4.out.nn
          rw [YS4.out] at KR
          refine FirstH.only (i := 5) (by kernel_rfl) (by decide) inv (fun inv => wpOp_callG (i := 5) rfl (by kernel_rfl) 79 rfl _ rfl 16 #[.agg ys4] (by unfold bareO; go_simp) KR ?_)
          rintro e w17 ⟨y5, rfl, hy5, ok5, b17⟩
          have C17 := Lib.hid (C15.out.trans (b17.mono C15.out.size))
          have RY17 := Lib.hid ((b17.block _ (Array.getElem?_eq_some_iff.1 RY.out).1).trans RY.out)
          have HS : w17.heap[w13.heap.size]? = some (.cells ys4 45 (0, 0)) ∧ w17.heap[W.heap.size]? = some (.cells cs 36 (0, 0)) := ⟨RY17.out, (C17.out.block _ LT2.out).trans R2.out⟩
          refine ⟨_, rfl, HS, ?_⟩
          try simp only [Act.put, List.setIfInBounds_toArray, List.set_cons_zero, List.set_cons_succ]
          clear HS
          have KM := sameP y5 x w17 (hy5.trans HY4.out) ok5.own.at_ (X2.out.at_.below C17.out (Nat.le_refl _) C17.out.size)
          rw [HCS.out] at KM
          refine FirstH.only (i := 7) (by kernel_rfl) (by decide) inv (fun inv => wpOp_callG (i := 7) rfl (by kernel_rfl) 81 rfl _ rfl 15 #[.agg y5.cs, .agg cs] (by unfold bareO; go_simp) KM ?_)
          rintro e w18 ⟨rfl, b18⟩
          have C18 := Lib.hid (C17.out.trans (b18.mono C17.out.size))
          have RY18 := Lib.hid ((b18.block _ (Array.getElem?_eq_some_iff.1 RY17.out).1).trans RY17.out)
          have HS : w18.heap[w13.heap.size]? = some (.cells ys4 45 (0, 0)) ∧ w18.heap[W.heap.size]? = some (.cells cs 36 (0, 0)) := ⟨RY18.out, (C18.out.block _ LT2.out).trans R2.out⟩
          refine ⟨_, rfl, HS, ?_⟩
          try simp only [Act.put, List.setIfInBounds_toArray, List.set_cons_zero, List.set_cons_succ]
          refine FirstH.go (i := 8) (v := .bool true) rfl rfl _ rfl _ rfl (by kernel_rfl) (fun _ _ _ h => h) inv (fun X _ => by unfold bareO; go_simp) HS (fun inv => ?_)
          try simp only [Act.put, List.setIfInBounds_toArray, List.set_cons_zero, List.set_cons_succ]
          clear HS
          refine ⟨by kernel_rfl, ?_⟩
          simp only [List.drop_succ_cons, List.drop_zero]
          go_wp2
          go_ret
          exact ⟨rfl, B2.out.trans (C18.out.mono B2.out.size)⟩

end Go.Proofs.Yteaafpgkifmdeaa
