/-
  The document's wheel: Set of a timer that there is room for: by an exact answer. Condition: the wheel lies in memory.
-/
import Derived.Test.YtfekkfphogjpeaaYdl
namespace Go.Proofs.Ytfekkfphogjpeaa
set_option linter.unusedSimpArgs false
set_option linter.unusedVariables false
open Go.RowKit Go.Maps Go.Sort

set_option maxRecDepth 100000 in
set_option maxHeartbeats 0 in
theorem setD_yes (W : World) (r most : Nat) (A : Option Addr) (c : Nat) (T : List Tm) (x : K13) (at_ : Int) (rx : x.Rng) (h : DW W r most A c T) (j0 : Nat) (t0 : Tm) (hj : T[j0]? = some t0) (hk : t0.k = x) :
    Calls Try.prog 13 #[.pointer (some ⟨r, 0, none⟩), .agg x.cs, .int .i64 at_] W fun e W' => e = .returned (.int .i64 0) ∧ ∃ A' c' i, DW W' r most A' c' (insT (outK T x) ⟨at_, x⟩ i) ∧ W.grownBy W' (some r) := by
  obtain ⟨W1, hW1⟩ : ∃ W1, W.alloc (.cells x.cs 38) = W1 := ⟨_, rfl⟩
  have b1 : Below W.heap.size W W1 := by rw [← hW1]; exact (Below.refl _ _).alloc (Nat.le_refl _) _
  have r1 : W1.heap[W.heap.size]? = some (.cells x.cs 38 (0, 0)) := by rw [← hW1]; exact heap_alloc_new _ _
  have h1 := h.below b1
  have hok : (∃ t ∈ T, t.k = x) ∨ T.length < most := .inl ⟨t0, List.mem_of_getElem? hj, hk⟩
  have FEW := Lib.hid (show (insT (outK T x) ⟨at_, x⟩ 0).length ≤ most by rw [ins_len]; exact ins_few h.ap h.few hok)
  obtain ⟨jj, hjj⟩ : ∃ jj : Int, (j0 : Int) = jj := ⟨_, rfl⟩
  have hj0 : ¬ jj < 0 := by omega
  have hj1 : decide (jj < 0) = false := decide_eq_false hj0
  have FQ := fun (X : World) (hX : DW X r most A c T) => findD_yes X r most A c T x hX j0 t0 hj hk
  rw [hjj] at FQ
  obtain ⟨T4, hT4⟩ : ∃ T4, outK T x = T4 := ⟨_, rfl⟩
  obtain ⟨t, ht⟩ : ∃ t : Tm, ⟨at_, x⟩ = t := ⟨_, rfl⟩
  have HT4 := Lib.hid hT4
  have HTT := Lib.hid ht
  have KC := Lib.hid (fun (X : World) (hX : DW X r most A c T) => cancelD X r most A c T x hX)
  rw [hT4] at KC
  rw [hT4, ht]
  unfold K13.cs at FQ KC r1 hW1 ⊢
  have FD := Lib.hid (fun d os => Calls.regrown_of (FQ (grow (redrawn W1 d) os) (h1.below (below_regrown W1 d os))))
  have g0 := cell_regrown (cell_of h1.bag 0 (.slice A T.length c) rfl)
  have g1 := cell_regrown (cell_of h1.bag 1 (.int .i64 most) rfl)
  have p0 := cell_regrown (cell_of r1 0 _ rfl)
  have p1 := cell_regrown (cell_of r1 1 _ rfl)
  have p2 := cell_regrown (cell_of r1 2 _ rfl)
  have p3 := cell_regrown (cell_of r1 3 _ rfl)
  have p4 := cell_regrown (cell_of r1 4 _ rfl)
  have p5 := cell_regrown (cell_of r1 5 _ rfl)
  have p6 := cell_regrown (cell_of r1 6 _ rfl)
  have p7 := cell_regrown (cell_of r1 7 _ rfl)
  have p8 := cell_regrown (cell_of r1 8 _ rfl)
  have p9 := cell_regrown (cell_of r1 9 _ rfl)
  have p10 := cell_regrown (cell_of r1 10 _ rfl)
  have p11 := cell_regrown (cell_of r1 11 _ rfl)
  have p12 := cell_regrown (cell_of r1 12 _ rfl)
  have HP1 := Lib.hid h1
  have HP := Lib.hid h
  have HW := Lib.hid hW1
  have B1 := Lib.hid b1
  have R1 := Lib.hid r1
  have RX0 := Lib.hid rx
  have HZ := Lib.hid (show (Try.prog.info? 38).map (·.size) = some (#[.int .u8 x.k, .int .u8 x.pn, .int .u16 x.pl, .int .u8 x.x.n, .int .u16 x.x.l, .int .u32 x.x.s, .int .u8 x.x.d, .int .u8 x.x.a0, .int .u8 x.x.a1, .int .u8 x.x.b0, .int .u8 x.x.b1, .int .u8 x.x.c0, .int .u8 x.x.c1] : Array Value).size by kernel_rfl)
  generalize hn0 : T.length = n0 at g0
  clear h hW1 b1 r1 h1 FQ hok rx hn0 hT4 ht hj hk hjj
  go_enter Try.func13, Try.ntmps13
  go_wp2_with (rw [HW.out])
  refine wp_region_quiet_below (by kernel_rfl) (by kernel_rfl) ?_
  repeat (go_big_quiet_step (first | (go_at_call 29; with_reducible exact FD.out _ _) | fail))
  refine wpQuiet_nil ?_
  rintro W3 ⟨p, rfl⟩
  have b3 := below_regrown W1 p.d p.os
  generalize grow (redrawn W1 p.d) p.os = W3 at *
  clear g0 g1 p0 p1 p2 p3 p4 p5 p6 p7 p8 p9 p10 p11 p12 FD
  have P3 := Lib.hid (HP1.out.below b3)
  have R3 := Lib.hid ((b3.block _ (Array.getElem?_eq_some_iff.1 R1.out).1).trans R1.out)
  have B3 := Lib.hid (B1.out.trans (b3.mono B1.out.size))
  clear b3
  go_wp2_with (refine wpList_load_row rfl 38 (.tmp 4) rfl W.heap.size (by rfl) 38 #[.int .u8 x.k, .int .u8 x.pn, .int .u16 x.pl, .int .u8 x.x.n, .int .u16 x.x.l, .int .u32 x.x.s, .int .u8 x.x.d, .int .u8 x.x.a0, .int .u8 x.x.a1, .int .u8 x.x.b0, .int .u8 x.x.b1, .int .u8 x.x.c0, .int .u8 x.x.c1] (0, 0) _ R3.out Try.underlying38 rfl HZ.out ?_)
  refine (KC.out _ P3.out).mono ?_
  rintro e W4 ⟨rfl, A4, c4, d4, gr4⟩
  clear KC
  have r4 : W4.heap[W.heap.size]? = some (.cells #[.int .u8 x.k, .int .u8 x.pn, .int .u16 x.pl, .int .u8 x.x.n, .int .u16 x.x.l, .int .u32 x.x.s, .int .u8 x.x.d, .int .u8 x.x.a0, .int .u8 x.x.a1, .int .u8 x.x.b0, .int .u8 x.x.b1, .int .u8 x.x.c0, .int .u8 x.x.c1] 38 (0, 0)) := (gr4.block _ (Array.getElem?_eq_some_iff.1 R3.out).1 (fun e => by cases e; have := HP.out.rl; omega)).trans R3.out
  have R4 := Lib.hid r4
  have P4' := Lib.hid d4
  have G04 := Lib.hid (grown_trans B3.out gr4)
  have hT4 := HT4.out
  have ht := HTT.out
  have hsub : T4.Sublist T := by rw [← hT4]; exact List.filter_sublist
  have hsrt := HP.out.srt.sublist hsub
  have hap := HP.out.ap.sublist hsub
  have hrng : ∀ a ∈ T4, a.k.Rng := fun a ha => HP.out.rng a (hsub.subset ha)
  have hne : ∀ a ∈ T4, a.k ≠ t.k := fun a ha => by rw [← hT4] at ha; rw [← ht]; exact (mem_outK.1 ha).2
  have trng : t.k.Rng := by rw [← ht]; exact RX0.out
  have FEW' : Hid (∀ k, (insT T4 t k).length ≤ most) := Lib.hid fun k => by
    have := FEW.out
    rw [ins_len] at this ⊢
    rw [← hT4]
    exact this
  have RNG' : Hid (∀ k, ∀ a ∈ insT T4 t k, a.k.Rng) := Lib.hid fun k a ha => by
    rcases List.mem_cons.1 ((ins_perm T4 t k).mem_iff.1 ha) with rfl | h2
    · exact trng
    · exact hrng a h2
  have SRT := Lib.hid (fun (k : Nat) (a : ∀ (j : Nat) (a : Tm), j < k → T4[j]? = some a → a.cmp t < 0) (b : ∀ a, T4[k]? = some a → 0 < a.cmp t) => ins_srt hsrt hrng trng a b)
  have AP' : Hid (∀ k, (insT T4 t k).Pairwise fun a b => a.k ≠ b.k) := Lib.hid fun k => ins_ap hap hne
  obtain ⟨n, hn⟩ : ∃ n, T4.length = n := ⟨_, rfl⟩
  have HN := Lib.hid hn
  have P4 := P4'
  clear P4'
  have hn1 : Hid (n ≤ 512) := Lib.hid (by have := P4.out.few; have := P4.out.most; omega)
  have HLE : Hid (n ≤ c4) := Lib.hid (by have := P4.out.le; omega)
  have HADR : Hid ((A4 = none ∧ c4 = 0) ∨ ∃ g o, A4 = some ⟨g, o, none⟩) := Lib.hid (by
    rcases P4.out.adr with ⟨h1, h2, _⟩ | ⟨g, o, _, h1, _⟩
    · exact .inl ⟨h1, h2⟩
    · exact .inr ⟨g, o, h1⟩)
  obtain ⟨W5, hW5⟩ : ∃ X, W4.alloc (.cells #[.int .u8 x.k, .int .u8 x.pn, .int .u16 x.pl, .int .u8 x.x.n, .int .u16 x.x.l, .int .u32 x.x.s, .int .u8 x.x.d, .int .u8 x.x.a0, .int .u8 x.x.a1, .int .u8 x.x.b0, .int .u8 x.x.b1, .int .u8 x.x.c0, .int .u8 x.x.c1, .int .i64 at_] 83) = X := ⟨_, rfl⟩
  have b45 : Below W4.heap.size W4 W5 := by rw [← hW5]; exact (Below.refl _ _).alloc (Nat.le_refl _) _
  have r5 : W5.heap[W4.heap.size]? = some (.cells #[.int .u8 x.k, .int .u8 x.pn, .int .u16 x.pl, .int .u8 x.x.n, .int .u16 x.x.l, .int .u32 x.x.s, .int .u8 x.x.d, .int .u8 x.x.a0, .int .u8 x.x.a1, .int .u8 x.x.b0, .int .u8 x.x.b1, .int .u8 x.x.c0, .int .u8 x.x.c1, .int .i64 at_] 83 (0, 0)) := by rw [← hW5]; exact heap_alloc_new _ _
  have TCS : Hid (#[.int .u8 x.k, .int .u8 x.pn, .int .u16 x.pl, .int .u8 x.x.n, .int .u16 x.x.l, .int .u32 x.x.s, .int .u8 x.x.d, .int .u8 x.x.a0, .int .u8 x.x.a1, .int .u8 x.x.b0, .int .u8 x.x.b1, .int .u8 x.x.c0, .int .u8 x.x.c1, .int .i64 at_] = t.cs) := Lib.hid (by rw [← ht]; rfl)
  have AH := Lib.hid (fun (a : Tm) (ra : a.k.Rng) (X : World) => aheadD a t ra trng X)
  rw [← TCS.out] at AH
  have CNE := Lib.hid (fun (a : Tm) (ha : a ∈ T4) => cmp_ne (hne a ha))
  have HRNG := Lib.hid hrng
  have B45 := Lib.hid b45
  have R5 := Lib.hid r5
  have L5 := Lib.hid (Array.getElem?_eq_some_iff.1 r5).1
  have HW5 := Lib.hid hW5
  clear hsub hsrt hap hrng hne trng hn hW5 b45 r5 r4 d4 gr4 FEW
  clear hT4 ht
  go_wp2_with (first
    | (refine wpList_load_row rfl 38 (.tmp 4) rfl W.heap.size (by rfl) 38 #[.int .u8 x.k, .int .u8 x.pn, .int .u16 x.pl, .int .u8 x.x.n, .int .u16 x.x.l, .int .u32 x.x.s, .int .u8 x.x.d, .int .u8 x.x.a0, .int .u8 x.x.a1, .int .u8 x.x.b0, .int .u8 x.x.b1, .int .u8 x.x.c0, .int .u8 x.x.c1] (0, 0) _ R4.out Try.underlying38 rfl HZ.out ?_)
    | (rw [HW5.out]))
  go_loopw [8] (fun z wx => ∃ k : Nat, z = .int .i64 k ∧ k ≤ n ∧ Hid (∀ (j : Nat) (a : Tm), j < k → T4[j]? = some a → a.cmp t < 0) ∧ Hid (Below W5.heap.size W5 wx)) (fun z _ => n - (intOf z).toNat)
  case atStart => exact ⟨0, rfl, Nat.zero_le _, Lib.hid (fun j a hj => by omega), Lib.hid (Below.refl _ _)⟩
  case round =>
    obtain ⟨k, rfl, hk, H1, BR⟩ := hrel
    have hk2 : Hid (k ≤ n) := Lib.hid hk
    have hkb : k ≤ 512 := by have := hn1.out; omega
    have bag0 := (BR.out.block r (Nat.lt_of_lt_of_le P4.out.rl B45.out.size)).trans ((B45.out.block r P4.out.rl).trans P4.out.bag)
    rw [HN.out] at bag0
    have tr0 := (BR.out.block _ L5.out).trans R5.out
    have RNG := Lib.hid (RNG'.out k)
    have FEW := Lib.hid (FEW'.out k)
    have AP := Lib.hid (AP'.out k)
    by_cases hlt : k < n
    · have h0 : (k : Int) < (n : Int) := by omega
      have hcc : (n : Int) ≤ (c4 : Int) := by have := HLE.out; omega
      have hkl : k < T4.length := by have := HN.out; omega
      have hx2 : T4[k]? = some T4[k] := List.getElem?_eq_getElem hkl
      have row0 : RowT wr A4 T4 := (P4.out.below (B45.out.trans (BR.out.mono B45.out.size))).row
      obtain ⟨g, o, hA4, KT⟩ := row0.at_ hx2
      have hmem : T4[k] ∈ T4 := List.getElem_mem hkl
      obtain ⟨a, ha⟩ : ∃ a, T4[k] = a := ⟨_, rfl⟩
      rw [ha] at hx2 KT hmem
      have HX := Lib.hid hx2
      have ra := HRNG.out a hmem
      have anz := CNE.out a hmem
      have AQ := fun (X : World) => AH.out a ra X
      unfold Tm.cs at AQ KT
      have AD := Lib.hid (fun d os => Calls.regrown_of (AQ (grow (redrawn wr d) os)))
      rw [hA4] at bag0
      have g0 := cell_regrown (cell_of bag0 0 _ rfl)
      have q0 := cell_regrown (show wr.cell? ⟨g, o + k * 14, none⟩ = _ from KT 0 _ rfl)
      have q1 := cell_regrown (show wr.cell? ⟨g, o + k * 14 + 1, none⟩ = _ from KT 1 _ rfl)
      have q2 := cell_regrown (show wr.cell? ⟨g, o + k * 14 + 2, none⟩ = _ from KT 2 _ rfl)
      have q3 := cell_regrown (show wr.cell? ⟨g, o + k * 14 + 3, none⟩ = _ from KT 3 _ rfl)
      have q4 := cell_regrown (show wr.cell? ⟨g, o + k * 14 + 4, none⟩ = _ from KT 4 _ rfl)
      have q5 := cell_regrown (show wr.cell? ⟨g, o + k * 14 + 5, none⟩ = _ from KT 5 _ rfl)
      have q6 := cell_regrown (show wr.cell? ⟨g, o + k * 14 + 6, none⟩ = _ from KT 6 _ rfl)
      have q7 := cell_regrown (show wr.cell? ⟨g, o + k * 14 + 7, none⟩ = _ from KT 7 _ rfl)
      have q8 := cell_regrown (show wr.cell? ⟨g, o + k * 14 + 8, none⟩ = _ from KT 8 _ rfl)
      have q9 := cell_regrown (show wr.cell? ⟨g, o + k * 14 + 9, none⟩ = _ from KT 9 _ rfl)
      have q10 := cell_regrown (show wr.cell? ⟨g, o + k * 14 + 10, none⟩ = _ from KT 10 _ rfl)
      have q11 := cell_regrown (show wr.cell? ⟨g, o + k * 14 + 11, none⟩ = _ from KT 11 _ rfl)
      have q12 := cell_regrown (show wr.cell? ⟨g, o + k * 14 + 12, none⟩ = _ from KT 12 _ rfl)
      have q13 := cell_regrown (show wr.cell? ⟨g, o + k * 14 + 13, none⟩ = _ from KT 13 _ rfl)
      have p0 := cell_regrown (cell_of tr0 0 _ rfl)
      have p1 := cell_regrown (cell_of tr0 1 _ rfl)
      have p2 := cell_regrown (cell_of tr0 2 _ rfl)
      have p3 := cell_regrown (cell_of tr0 3 _ rfl)
      have p4 := cell_regrown (cell_of tr0 4 _ rfl)
      have p5 := cell_regrown (cell_of tr0 5 _ rfl)
      have p6 := cell_regrown (cell_of tr0 6 _ rfl)
      have p7 := cell_regrown (cell_of tr0 7 _ rfl)
      have p8 := cell_regrown (cell_of tr0 8 _ rfl)
      have p9 := cell_regrown (cell_of tr0 9 _ rfl)
      have p10 := cell_regrown (cell_of tr0 10 _ rfl)
      have p11 := cell_regrown (cell_of tr0 11 _ rfl)
      have p12 := cell_regrown (cell_of tr0 12 _ rfl)
      have p13 := cell_regrown (cell_of tr0 13 _ rfl)
      have k0 : (0 : Int) ≤ (k : Int) := by omega
      have HA4 := Lib.hid hA4
      have ANZ := Lib.hid anz
      obtain ⟨dv, hdv⟩ : ∃ dv, decide (a.cmp t < 0) = dv := ⟨_, rfl⟩
      rw [hdv] at AD
      have HDV := Lib.hid hdv
      clear KT hx2 row0 ra anz AQ bag0 tr0 hA4 ha hmem hkl hdv
      by_cases hd : dv = true
      · subst hd
        go_wp2
        refine wp_region_quiet_below (by kernel_rfl) (by kernel_rfl) ?_
        repeat (go_big_quiet_step (first | (go_at_call 30; with_reducible exact AD.out _ _) | fail))
        refine wpQuiet_nil ?_
        rintro WE ⟨p, rfl⟩
        have bE := below_regrown wr p.d p.os
        generalize grow (redrawn wr p.d) p.os = WE at *
        clear g0 q0 p0 q1 p1 q2 p2 q3 p3 q4 p4 q5 p5 q6 p6 q7 p7 q8 p8 q9 p9 q10 p10 q11 p11 q12 p12 q13 p13 AD
        have BE := Lib.hid (BR.out.trans (bE.mono BR.out.size))
        have NEW : Hid (∀ (j : Nat) (b : Tm), j < k + 1 → T4[j]? = some b → b.cmp t < 0) := Lib.hid fun j b hj hb => by
          rcases Nat.lt_or_eq_of_le (Nat.le_of_lt_succ hj) with h3 | h3
          · exact H1.out j b h3 hb
          · subst h3
            have e := HX.out
            rw [hb] at e
            cases e
            simpa using HDV.out
        clear bE
        go_wp2
        go_roundw
        case rel => exact ⟨k + 1, by go_num, by omega, NEW, BE⟩
        case measure => simp [intOf]; omega
      · obtain rfl : dv = false := by simpa using hd
        clear hd
        go_wp2
        refine wp_region_quiet_below (by kernel_rfl) (by kernel_rfl) ?_
        repeat (go_big_quiet_step (first | (go_at_call 30; with_reducible exact AD.out _ _) | fail))
        refine wpQuiet_nil ?_
        rintro WE ⟨p, rfl⟩
        have bE := below_regrown wr p.d p.os
        generalize grow (redrawn wr p.d) p.os = WE at *
        clear g0 q0 p0 q1 p1 q2 p2 q3 p3 q4 p4 q5 p5 q6 p6 q7 p7 q8 p8 q9 p9 q10 p10 q11 p11 q12 p12 q13 p13 AD
        have BE := Lib.hid (BR.out.trans (bE.mono BR.out.size))
        have H2 : Hid (∀ b, T4[k]? = some b → 0 < b.cmp t) := Lib.hid fun b hb => by
          have e := HX.out
          rw [hb] at e
          cases e
          have h3 := HDV.out
          have h4 := ANZ.out
          simp at h3
          omega
        clear bE h0 hcc k0
        go_wp2
        obtain ⟨W6, hW6⟩ : ∃ X, WE.drew = X := ⟨_, rfl⟩
        have b6 : Below W5.heap.size W5 W6 := by rw [← hW6]; exact BE.out.drew
        have B46 := Lib.hid (B45.out.trans (b6.mono B45.out.size))
        have DW6 := Lib.hid (P4.out.below B46.out)
        have HB6 := Lib.hid (show W6.heap[r]? = some (.cells #[.slice A4 n c4, .int .i64 most] 78 (0, 0)) ∧ W6.heap[W4.heap.size]? = some (.cells #[.int .u8 x.k, .int .u8 x.pn, .int .u16 x.pl, .int .u8 x.x.n, .int .u16 x.x.l, .int .u32 x.x.s, .int .u8 x.x.d, .int .u8 x.x.a0, .int .u8 x.x.a1, .int .u8 x.x.b0, .int .u8 x.x.b1, .int .u8 x.x.c0, .int .u8 x.x.c1, .int .i64 at_] 83 (0, 0)) from ⟨HN.out ▸ DW6.out.bag, (b6.block _ L5.out).trans R5.out⟩)
        have BW6 := Lib.hid (Below.refl W6.heap.size W6)
        have HW6 := Lib.hid hW6
        obtain ⟨A5, h5, h5A⟩ := slFrom A4 n c4 k hk2.out HLE.out HADR.out
        have H5 := Lib.hid h5
        have HT := Lib.hid (slTo A4 n c4 k hk2.out HLE.out HADR.out)
        have HTK : Hid (k = (T4.take k).length) := Lib.hid (by rw [List.length_take, HN.out]; have := hk2.out; omega)
        have HDK : Hid (n - k = (T4.drop k).length) := Lib.hid (by rw [List.length_drop, HN.out])
        have HA0 : Hid (A4 = none → k = 0 ∧ c4 = 0) := Lib.hid (fun e => by
          rcases HADR.out with ⟨_, h2⟩ | ⟨g, o, h2⟩
          · have := HLE.out
            have := hk2.out
            omega
          · rw [e] at h2
            cases h2)
        have HA5 : Hid (A5 = none → n - k = 0 ∧ c4 - k = 0) := Lib.hid (fun e => by
          rcases h5A with ⟨_, h2⟩ | ⟨g, o, o2, _, h2, _⟩
          · have := HLE.out
            omega
          · rw [e] at h2
            cases h2)
        have DROP : Hid (∀ X : World, RowT X A4 T4 → RowT X A5 (T4.drop k)) := Lib.hid fun X hX => by
          rcases h5A with ⟨_, h2⟩ | ⟨g, o, o2, hA, h2, h3⟩
          · intro hne
            exact absurd (List.drop_eq_nil_of_le (by have := HLE.out; have := HN.out; omega)) hne
          · rw [h2]
            rw [hA] at hX
            exact hX.drop k (by rw [HN.out]; exact h3)
        clear hW6 b6 h5 h5A
        refine region_heldT (S := fun X => X.heap[r]? = some (.cells #[.slice A4 n c4, .int .i64 most] 78 (0, 0)) ∧ X.heap[W4.heap.size]? = some (.cells #[.int .u8 x.k, .int .u8 x.pn, .int .u16 x.pl, .int .u8 x.x.n, .int .u16 x.x.l, .int .u32 x.x.s, .int .u8 x.x.d, .int .u8 x.x.a0, .int .u8 x.x.a1, .int .u8 x.x.b0, .int .u8 x.x.b1, .int .u8 x.x.c0, .int .u8 x.x.c1, .int .i64 at_] 83 (0, 0))) 19 (by kernel_rfl) (by decide) (fun inv => ?_)
        change FirstH _ _ _ _ _ _ _ _ _ _ WE.drew
        rw [HW6.out]
        have HS := HB6.out
        try simp only [Act.put, List.setIfInBounds_toArray, List.set_cons_zero, List.set_cons_succ]
        refine FirstH.go (i := 0) (v := .pointer (some ⟨r, 0, none⟩)) rfl rfl _ rfl _ rfl (by kernel_rfl) (fun _ _ _ h => h) inv (fun X _ => by unfold bareO; go_simp) HS (fun inv => ?_)
        try simp only [Act.put, List.setIfInBounds_toArray, List.set_cons_zero, List.set_cons_succ]
        refine FirstH.go (i := 2) (v := .pointer (some ⟨r, 0, none⟩)) rfl rfl _ rfl _ rfl (by kernel_rfl) (fun _ _ _ h => h) inv (fun X _ => by unfold bareO; go_simp) HS (fun inv => ?_)
        try simp only [Act.put, List.setIfInBounds_toArray, List.set_cons_zero, List.set_cons_succ]
        refine FirstH.go (i := 3) (v := .pointer (some ⟨r, 0, none⟩)) rfl rfl _ rfl _ rfl (by kernel_rfl) (fun _ _ _ h => h) inv (fun X _ => by unfold bareO; go_simp) HS (fun inv => ?_)
        try simp only [Act.put, List.setIfInBounds_toArray, List.set_cons_zero, List.set_cons_succ]
        refine FirstH.go (i := 4) (v := .pointer (some ⟨r, 0, none⟩)) rfl rfl _ rfl _ rfl (by kernel_rfl) (fun _ _ _ h => h) inv (fun X _ => by unfold bareO; go_simp) HS (fun inv => ?_)
        try simp only [Act.put, List.setIfInBounds_toArray, List.set_cons_zero, List.set_cons_succ]
        refine FirstH.go (i := 5) (v := .slice A4 n c4) rfl rfl _ rfl _ rfl (by kernel_rfl) (fun _ _ _ h => h) inv (fun X hS => by have c1 := cell_of hS.1 0 (.slice A4 n c4) rfl; unfold bareO; go_simp) HS (fun inv => ?_)
        try simp only [Act.put, List.setIfInBounds_toArray, List.set_cons_zero, List.set_cons_succ]
        refine FirstH.go (i := 6) (v := .int .i64 k) rfl rfl _ rfl _ rfl (by kernel_rfl) (fun _ _ _ h => h) inv (fun X _ => by unfold bareO; go_simp) HS (fun inv => ?_)
        try simp only [Act.put, List.setIfInBounds_toArray, List.set_cons_zero, List.set_cons_succ]
        refine FirstH.go (i := 7) (v := .slice A4 k c4) rfl rfl _ rfl _ rfl (by kernel_rfl) (fun _ _ _ h => h) inv (fun X _ => run_slB rfl rfl rfl (HT.out X)) HS (fun inv => ?_)
        try simp only [Act.put, List.setIfInBounds_toArray, List.set_cons_zero, List.set_cons_succ]
        refine FirstH.go (i := 9) (v := .agg #[.int .u8 x.k, .int .u8 x.pn, .int .u16 x.pl, .int .u8 x.x.n, .int .u16 x.x.l, .int .u32 x.x.s, .int .u8 x.x.d, .int .u8 x.x.a0, .int .u8 x.x.a1, .int .u8 x.x.b0, .int .u8 x.x.b1, .int .u8 x.x.c0, .int .u8 x.x.c1, .int .i64 at_]) rfl rfl _ rfl _ rfl (by kernel_rfl) (fun _ _ _ h => h) inv (fun X hS => run_load_row 83 _ _ W4.heap.size rfl _ _ _ _ hS.2 Try.underlying83 rfl (by kernel_rfl)) HS (fun inv => ?_)
        try simp only [Act.put, List.setIfInBounds_toArray, List.set_cons_zero, List.set_cons_succ]
        refine FirstH.go (i := 12) (v := .pointer (some ⟨r, 0, none⟩)) rfl rfl _ rfl _ rfl (by kernel_rfl) (fun _ _ _ h => h) inv (fun X _ => by unfold bareO; go_simp) HS (fun inv => ?_)
        try simp only [Act.put, List.setIfInBounds_toArray, List.set_cons_zero, List.set_cons_succ]
        refine FirstH.go (i := 13) (v := .pointer (some ⟨r, 0, none⟩)) rfl rfl _ rfl _ rfl (by kernel_rfl) (fun _ _ _ h => h) inv (fun X _ => by unfold bareO; go_simp) HS (fun inv => ?_)
        try simp only [Act.put, List.setIfInBounds_toArray, List.set_cons_zero, List.set_cons_succ]
        refine FirstH.go (i := 14) (v := .pointer (some ⟨r, 0, none⟩)) rfl rfl _ rfl _ rfl (by kernel_rfl) (fun _ _ _ h => h) inv (fun X _ => by unfold bareO; go_simp) HS (fun inv => ?_)
        try simp only [Act.put, List.setIfInBounds_toArray, List.set_cons_zero, List.set_cons_succ]
        refine FirstH.go (i := 15) (v := .slice A4 n c4) rfl rfl _ rfl _ rfl (by kernel_rfl) (fun _ _ _ h => h) inv (fun X hS => by have c1 := cell_of hS.1 0 (.slice A4 n c4) rfl; unfold bareO; go_simp) HS (fun inv => ?_)
        try simp only [Act.put, List.setIfInBounds_toArray, List.set_cons_zero, List.set_cons_succ]
        refine FirstH.go (i := 16) (v := .int .i64 k) rfl rfl _ rfl _ rfl (by kernel_rfl) (fun _ _ _ h => h) inv (fun X _ => by unfold bareO; go_simp) HS (fun inv => ?_)
        try simp only [Act.put, List.setIfInBounds_toArray, List.set_cons_zero, List.set_cons_succ]
        refine FirstH.go (i := 17) (v := .slice A5 (n - k) (c4 - k)) rfl rfl _ rfl _ rfl (by kernel_rfl) (fun _ _ _ h => h) inv (fun X _ => run_slB rfl rfl rfl (H5.out X)) HS (fun inv => ?_)
        try simp only [Act.put, List.setIfInBounds_toArray, List.set_cons_zero, List.set_cons_succ]
        clear HS
        refine FirstH.two (i := 1) (j := 10) (by kernel_rfl) (by decide) (by decide) inv (fun inv => ?_) (fun inv => ?_)
        · refine wpOp_vl (i := 1) (v := .slice (some ⟨W6.heap.size, 0, none⟩) 0 0) (w' := W6.alloc (.cells #[] 83)) rfl rfl 52 rfl _ rfl (by unfold bareO; go_simp) ?_
          obtain ⟨W7, hW7⟩ : ∃ zz, W6.alloc (.cells #[] 83) = zz := ⟨_, rfl⟩
          have oW7 : W7.ownsRow W6.heap.size 83 14 (.slice (some ⟨W6.heap.size, 0, none⟩) 0 0) 0 [] := by rw [← hW7]; exact ⟨rfl, .inr ⟨W6.heap.size, 0, #[], rfl, BW6.out.size, heap_alloc_new _ _, Nat.le_refl _, by unfold maxLen; omega, rfl, rfl⟩⟩
          have lW7 : W6.heap.size < W7.heap.size := by rw [← hW7]; simp
          have cW7 : Below W6.heap.size W6 W7 := by rw [← hW7]; exact (Below.refl _ _).alloc (Nat.le_refl _) _
          have bW7 : Below W6.heap.size W6 W7 := BW6.out.trans (cW7.mono BW6.out.size)
          rw [hW7]
          refine ⟨⟨(bW7.block _ (Array.getElem?_eq_some_iff.1 HB6.out.1).1).trans HB6.out.1, (bW7.block _ (Array.getElem?_eq_some_iff.1 HB6.out.2).1).trans HB6.out.2⟩, ?_⟩
          have O1 := Lib.hid oW7
          have L1 := Lib.hid lW7
          have BW7 := Lib.hid bW7
          clear oW7 lW7 cW7 bW7 hW7
          try simp only [Act.put, List.setIfInBounds_toArray, List.set_cons_zero, List.set_cons_succ]
          refine FirstH.two (i := 8) (j := 10) (by kernel_rfl) (by decide) (by decide) inv (fun inv => ?_) (fun inv => ?_)
          · refine wpOp_appT (i := 8) rfl rfl 59 rfl (.tmp 52) (.tmp 58) rfl W6.heap.size (.slice (some ⟨W6.heap.size, 0, none⟩) 0 0) 0 [] rfl O1.out A4 (T4.take k) k c4 rfl HTK.out HA0.out ((DW6.out.below BW7.out).row.take k) (by rw [← HTK.out]; have := hk2.out; have := hn1.out; omega) BW7.out.size ?_
            intro v8 W8 oW8 gW8
            have bW8 : Below W6.heap.size W6 W8 := below_grown BW7.out gW8 (fun k e => (O1.out.lt k e).1)
            refine ⟨⟨(bW8.block _ (Array.getElem?_eq_some_iff.1 HB6.out.1).1).trans HB6.out.1, (bW8.block _ (Array.getElem?_eq_some_iff.1 HB6.out.2).1).trans HB6.out.2⟩, ?_⟩
            have O8 := Lib.hid oW8
            have BW8 := Lib.hid bW8
            clear oW8 gW8 bW8 O1
            try simp only [Act.put, List.setIfInBounds_toArray, List.set_cons_zero, List.set_cons_succ]
            refine FirstH.only (i := 10) (by kernel_rfl) (by decide) inv (fun inv => wpOp_vl (i := 10) (v := .slice (some ⟨W8.heap.size, 0, none⟩) 1 1) (w' := W8.alloc (.cells #[.int .u8 x.k, .int .u8 x.pn, .int .u16 x.pl, .int .u8 x.x.n, .int .u16 x.x.l, .int .u32 x.x.s, .int .u8 x.x.d, .int .u8 x.x.a0, .int .u8 x.x.a1, .int .u8 x.x.b0, .int .u8 x.x.b1, .int .u8 x.x.c0, .int .u8 x.x.c1, .int .i64 at_] 83)) rfl rfl 61 rfl _ rfl (by unfold bareO; go_simp) ?_)
            obtain ⟨W9, hW9⟩ : ∃ zz, W8.alloc (.cells #[.int .u8 x.k, .int .u8 x.pn, .int .u16 x.pl, .int .u8 x.x.n, .int .u16 x.x.l, .int .u32 x.x.s, .int .u8 x.x.d, .int .u8 x.x.a0, .int .u8 x.x.a1, .int .u8 x.x.b0, .int .u8 x.x.b1, .int .u8 x.x.c0, .int .u8 x.x.c1, .int .i64 at_] 83) = zz := ⟨_, rfl⟩
            have rW9 : W9.heap[W8.heap.size]? = some (.cells #[.int .u8 x.k, .int .u8 x.pn, .int .u16 x.pl, .int .u8 x.x.n, .int .u16 x.x.l, .int .u32 x.x.s, .int .u8 x.x.d, .int .u8 x.x.a0, .int .u8 x.x.a1, .int .u8 x.x.b0, .int .u8 x.x.b1, .int .u8 x.x.c0, .int .u8 x.x.c1, .int .i64 at_] 83 (0, 0)) := by rw [← hW9]; exact heap_alloc_new _ _
            have cW9 : Below W8.heap.size W8 W9 := by rw [← hW9]; exact (Below.refl _ _).alloc (Nat.le_refl _) _
            have bW9 : Below W6.heap.size W6 W9 := BW8.out.trans (cW9.mono BW8.out.size)
            rw [hW9]
            refine ⟨⟨(bW9.block _ (Array.getElem?_eq_some_iff.1 HB6.out.1).1).trans HB6.out.1, (bW9.block _ (Array.getElem?_eq_some_iff.1 HB6.out.2).1).trans HB6.out.2⟩, ?_⟩
            have RX := Lib.hid rW9
            have LX := Lib.hid (show W8.heap.size < W9.heap.size by rw [← hW9]; simp)
            have BW9 := Lib.hid bW9
            have O8' := Lib.hid (own_below O8.out cW9)
            clear O8
            have O8 := O8'
            clear O8'
            clear rW9 cW9 bW9 hW9
            try simp only [Act.put, List.setIfInBounds_toArray, List.set_cons_zero, List.set_cons_succ]
            refine FirstH.only (i := 11) (by kernel_rfl) (by decide) inv (fun inv => wpOp_appT (i := 11) rfl rfl 62 rfl (.tmp 59) (.tmp 61) rfl W6.heap.size v8 (0 + (T4.take k).length) _ rfl O8.out (some ⟨W8.heap.size, 0, none⟩) [t] 1 1 rfl rfl (fun e => by cases e) (rowT_one (TCS.out ▸ RX.out)) (by rw [← HTK.out]; have := hk2.out; have := hn1.out; show 0 + k + 1 ≤ _; omega) BW9.out.size ?_)
            intro v11 W10 oW10 gW10
            have bW10 : Below W6.heap.size W6 W10 := below_grown BW9.out gW10 (fun k e => (O8.out.lt k e).1)
            refine ⟨⟨(bW10.block _ (Array.getElem?_eq_some_iff.1 HB6.out.1).1).trans HB6.out.1, (bW10.block _ (Array.getElem?_eq_some_iff.1 HB6.out.2).1).trans HB6.out.2⟩, ?_⟩
            have O11 := Lib.hid oW10
            have BW10 := Lib.hid bW10
            clear oW10 gW10 bW10 O8 RX
            try simp only [Act.put, List.setIfInBounds_toArray, List.set_cons_zero, List.set_cons_succ]
            refine FirstH.only (i := 18) (by kernel_rfl) (by decide) inv (fun inv => wpOp_appT (i := 18) rfl rfl 69 rfl (.tmp 62) (.tmp 68) rfl W6.heap.size v11 (0 + (T4.take k).length + [t].length) _ rfl O11.out A5 (T4.drop k) (n - k) (c4 - k) rfl HDK.out HA5.out (DROP.out _ (DW6.out.below BW10.out).row) (by rw [← HTK.out, ← HDK.out]; have := hk2.out; have := hn1.out; show 0 + k + 1 + (n - k) ≤ _; omega) BW10.out.size ?_)
            intro v18 W11 oW11 gW11
            have bW11 : Below W6.heap.size W6 W11 := below_grown BW10.out gW11 (fun k e => (O11.out.lt k e).1)
            have l8 := (bW11.block _ (Array.getElem?_eq_some_iff.1 HB6.out.1).1).trans HB6.out.1
            refine ⟨⟨(bW11.block _ (Array.getElem?_eq_some_iff.1 HB6.out.1).1).trans HB6.out.1, (bW11.block _ (Array.getElem?_eq_some_iff.1 HB6.out.2).1).trans HB6.out.2⟩, ?_⟩
            have o8' : W11.ownsRow W6.heap.size 83 14 v18 (insT T4 t k).length (cellsT (insT T4 t k)) := by
              unfold insT
              rw [cellsT_append, List.length_append, show t :: List.drop k T4 = [t] ++ List.drop k T4 from rfl, cellsT_append, List.length_append, ← List.append_assoc, ← Nat.add_assoc]
              simpa using oW11
            obtain ⟨A8, c8, rfl, D8, G8⟩ := P4.out.laid B46.out bW11 o8' FEW.out RNG.out (SRT.out k H1.out H2.out) AP.out
            have DD := Lib.hid D8
            have GG := Lib.hid (G04.out.trans G8)
            obtain ⟨q, hq⟩ : ∃ q, (insT T4 t k).length = q := ⟨_, rfl⟩
            rw [hq] at DD GG ⊢
            have c1 := cell_of l8 0 (.slice A4 n c4) rfl
            have z1 := frz_row 0 l8
            clear oW11 o8' gW11 bW11 l8 D8 G8 hq
            try simp only [Act.put, List.setIfInBounds_toArray, List.set_cons_zero, List.set_cons_succ]
            refine ⟨by kernel_rfl, ?_⟩
            simp only [List.drop_succ_cons, List.drop_zero]
            go_wp2
            go_ret
            exact ⟨rfl, A8, c8, k, DD.out, GG.out⟩

          · refine wpOp_vl (i := 10) (v := .slice (some ⟨W7.heap.size, 0, none⟩) 1 1) (w' := W7.alloc (.cells #[.int .u8 x.k, .int .u8 x.pn, .int .u16 x.pl, .int .u8 x.x.n, .int .u16 x.x.l, .int .u32 x.x.s, .int .u8 x.x.d, .int .u8 x.x.a0, .int .u8 x.x.a1, .int .u8 x.x.b0, .int .u8 x.x.b1, .int .u8 x.x.c0, .int .u8 x.x.c1, .int .i64 at_] 83)) rfl rfl 61 rfl _ rfl (by unfold bareO; go_simp) ?_
            obtain ⟨W8, hW8⟩ : ∃ zz, W7.alloc (.cells #[.int .u8 x.k, .int .u8 x.pn, .int .u16 x.pl, .int .u8 x.x.n, .int .u16 x.x.l, .int .u32 x.x.s, .int .u8 x.x.d, .int .u8 x.x.a0, .int .u8 x.x.a1, .int .u8 x.x.b0, .int .u8 x.x.b1, .int .u8 x.x.c0, .int .u8 x.x.c1, .int .i64 at_] 83) = zz := ⟨_, rfl⟩
            have rW8 : W8.heap[W7.heap.size]? = some (.cells #[.int .u8 x.k, .int .u8 x.pn, .int .u16 x.pl, .int .u8 x.x.n, .int .u16 x.x.l, .int .u32 x.x.s, .int .u8 x.x.d, .int .u8 x.x.a0, .int .u8 x.x.a1, .int .u8 x.x.b0, .int .u8 x.x.b1, .int .u8 x.x.c0, .int .u8 x.x.c1, .int .i64 at_] 83 (0, 0)) := by rw [← hW8]; exact heap_alloc_new _ _
            have cW8 : Below W7.heap.size W7 W8 := by rw [← hW8]; exact (Below.refl _ _).alloc (Nat.le_refl _) _
            have bW8 : Below W6.heap.size W6 W8 := BW7.out.trans (cW8.mono BW7.out.size)
            rw [hW8]
            refine ⟨⟨(bW8.block _ (Array.getElem?_eq_some_iff.1 HB6.out.1).1).trans HB6.out.1, (bW8.block _ (Array.getElem?_eq_some_iff.1 HB6.out.2).1).trans HB6.out.2⟩, ?_⟩
            have RX := Lib.hid rW8
            have LX := Lib.hid (show W7.heap.size < W8.heap.size by rw [← hW8]; simp)
            have BW8 := Lib.hid bW8
            have O1' := Lib.hid (own_below O1.out cW8)
            clear O1
            have O1 := O1'
            clear O1'
            clear rW8 cW8 bW8 hW8
            try simp only [Act.put, List.setIfInBounds_toArray, List.set_cons_zero, List.set_cons_succ]
            refine FirstH.only (i := 8) (by kernel_rfl) (by decide) inv (fun inv => wpOp_appT (i := 8) rfl rfl 59 rfl (.tmp 52) (.tmp 58) rfl W6.heap.size (.slice (some ⟨W6.heap.size, 0, none⟩) 0 0) 0 [] rfl O1.out A4 (T4.take k) k c4 rfl HTK.out HA0.out ((DW6.out.below BW8.out).row.take k) (by rw [← HTK.out]; have := hk2.out; have := hn1.out; omega) BW8.out.size ?_)
            intro v8 W9 oW9 gW9
            have bW9 : Below W6.heap.size W6 W9 := below_grown BW8.out gW9 (fun k e => (O1.out.lt k e).1)
            refine ⟨⟨(bW9.block _ (Array.getElem?_eq_some_iff.1 HB6.out.1).1).trans HB6.out.1, (bW9.block _ (Array.getElem?_eq_some_iff.1 HB6.out.2).1).trans HB6.out.2⟩, ?_⟩
            have O8 := Lib.hid oW9
            have BW9 := Lib.hid bW9
            have RX' := Lib.hid ((gW9.block _ (Array.getElem?_eq_some_iff.1 RX.out).1 (fun e => by simp [Value.ownBlock] at e; have := L1.out; have := LX.out; omega)).trans RX.out)
            clear RX
            have RX := RX'
            clear RX'
            clear oW9 gW9 bW9 O1
            try simp only [Act.put, List.setIfInBounds_toArray, List.set_cons_zero, List.set_cons_succ]
            refine FirstH.only (i := 11) (by kernel_rfl) (by decide) inv (fun inv => wpOp_appT (i := 11) rfl rfl 62 rfl (.tmp 59) (.tmp 61) rfl W6.heap.size v8 (0 + (T4.take k).length) _ rfl O8.out (some ⟨W7.heap.size, 0, none⟩) [t] 1 1 rfl rfl (fun e => by cases e) (rowT_one (TCS.out ▸ RX.out)) (by rw [← HTK.out]; have := hk2.out; have := hn1.out; show 0 + k + 1 ≤ _; omega) BW9.out.size ?_)
            intro v11 W10 oW10 gW10
            have bW10 : Below W6.heap.size W6 W10 := below_grown BW9.out gW10 (fun k e => (O8.out.lt k e).1)
            refine ⟨⟨(bW10.block _ (Array.getElem?_eq_some_iff.1 HB6.out.1).1).trans HB6.out.1, (bW10.block _ (Array.getElem?_eq_some_iff.1 HB6.out.2).1).trans HB6.out.2⟩, ?_⟩
            have O11 := Lib.hid oW10
            have BW10 := Lib.hid bW10
            clear oW10 gW10 bW10 O8 RX
            try simp only [Act.put, List.setIfInBounds_toArray, List.set_cons_zero, List.set_cons_succ]
            refine FirstH.only (i := 18) (by kernel_rfl) (by decide) inv (fun inv => wpOp_appT (i := 18) rfl rfl 69 rfl (.tmp 62) (.tmp 68) rfl W6.heap.size v11 (0 + (T4.take k).length + [t].length) _ rfl O11.out A5 (T4.drop k) (n - k) (c4 - k) rfl HDK.out HA5.out (DROP.out _ (DW6.out.below BW10.out).row) (by rw [← HTK.out, ← HDK.out]; have := hk2.out; have := hn1.out; show 0 + k + 1 + (n - k) ≤ _; omega) BW10.out.size ?_)
            intro v18 W11 oW11 gW11
            have bW11 : Below W6.heap.size W6 W11 := below_grown BW10.out gW11 (fun k e => (O11.out.lt k e).1)
            have l8 := (bW11.block _ (Array.getElem?_eq_some_iff.1 HB6.out.1).1).trans HB6.out.1
            refine ⟨⟨(bW11.block _ (Array.getElem?_eq_some_iff.1 HB6.out.1).1).trans HB6.out.1, (bW11.block _ (Array.getElem?_eq_some_iff.1 HB6.out.2).1).trans HB6.out.2⟩, ?_⟩
            have o8' : W11.ownsRow W6.heap.size 83 14 v18 (insT T4 t k).length (cellsT (insT T4 t k)) := by
              unfold insT
              rw [cellsT_append, List.length_append, show t :: List.drop k T4 = [t] ++ List.drop k T4 from rfl, cellsT_append, List.length_append, ← List.append_assoc, ← Nat.add_assoc]
              simpa using oW11
            obtain ⟨A8, c8, rfl, D8, G8⟩ := P4.out.laid B46.out bW11 o8' FEW.out RNG.out (SRT.out k H1.out H2.out) AP.out
            have DD := Lib.hid D8
            have GG := Lib.hid (G04.out.trans G8)
            obtain ⟨q, hq⟩ : ∃ q, (insT T4 t k).length = q := ⟨_, rfl⟩
            rw [hq] at DD GG ⊢
            have c1 := cell_of l8 0 (.slice A4 n c4) rfl
            have z1 := frz_row 0 l8
            clear oW11 o8' gW11 bW11 l8 D8 G8 hq
            try simp only [Act.put, List.setIfInBounds_toArray, List.set_cons_zero, List.set_cons_succ]
            refine ⟨by kernel_rfl, ?_⟩
            simp only [List.drop_succ_cons, List.drop_zero]
            go_wp2
            go_ret
            exact ⟨rfl, A8, c8, k, DD.out, GG.out⟩


        · refine wpOp_vl (i := 10) (v := .slice (some ⟨W6.heap.size, 0, none⟩) 1 1) (w' := W6.alloc (.cells #[.int .u8 x.k, .int .u8 x.pn, .int .u16 x.pl, .int .u8 x.x.n, .int .u16 x.x.l, .int .u32 x.x.s, .int .u8 x.x.d, .int .u8 x.x.a0, .int .u8 x.x.a1, .int .u8 x.x.b0, .int .u8 x.x.b1, .int .u8 x.x.c0, .int .u8 x.x.c1, .int .i64 at_] 83)) rfl rfl 61 rfl _ rfl (by unfold bareO; go_simp) ?_
          obtain ⟨W7, hW7⟩ : ∃ zz, W6.alloc (.cells #[.int .u8 x.k, .int .u8 x.pn, .int .u16 x.pl, .int .u8 x.x.n, .int .u16 x.x.l, .int .u32 x.x.s, .int .u8 x.x.d, .int .u8 x.x.a0, .int .u8 x.x.a1, .int .u8 x.x.b0, .int .u8 x.x.b1, .int .u8 x.x.c0, .int .u8 x.x.c1, .int .i64 at_] 83) = zz := ⟨_, rfl⟩
          have rW7 : W7.heap[W6.heap.size]? = some (.cells #[.int .u8 x.k, .int .u8 x.pn, .int .u16 x.pl, .int .u8 x.x.n, .int .u16 x.x.l, .int .u32 x.x.s, .int .u8 x.x.d, .int .u8 x.x.a0, .int .u8 x.x.a1, .int .u8 x.x.b0, .int .u8 x.x.b1, .int .u8 x.x.c0, .int .u8 x.x.c1, .int .i64 at_] 83 (0, 0)) := by rw [← hW7]; exact heap_alloc_new _ _
          have cW7 : Below W6.heap.size W6 W7 := by rw [← hW7]; exact (Below.refl _ _).alloc (Nat.le_refl _) _
          have bW7 : Below W6.heap.size W6 W7 := BW6.out.trans (cW7.mono BW6.out.size)
          rw [hW7]
          refine ⟨⟨(bW7.block _ (Array.getElem?_eq_some_iff.1 HB6.out.1).1).trans HB6.out.1, (bW7.block _ (Array.getElem?_eq_some_iff.1 HB6.out.2).1).trans HB6.out.2⟩, ?_⟩
          have RX := Lib.hid rW7
          have LX := Lib.hid (show W6.heap.size < W7.heap.size by rw [← hW7]; simp)
          have BW7 := Lib.hid bW7
          clear rW7 cW7 bW7 hW7
          try simp only [Act.put, List.setIfInBounds_toArray, List.set_cons_zero, List.set_cons_succ]
          refine FirstH.only (i := 1) (by kernel_rfl) (by decide) inv (fun inv => wpOp_vl (i := 1) (v := .slice (some ⟨W7.heap.size, 0, none⟩) 0 0) (w' := W7.alloc (.cells #[] 83)) rfl rfl 52 rfl _ rfl (by unfold bareO; go_simp) ?_)
          obtain ⟨W8, hW8⟩ : ∃ zz, W7.alloc (.cells #[] 83) = zz := ⟨_, rfl⟩
          have oW8 : W8.ownsRow W6.heap.size 83 14 (.slice (some ⟨W7.heap.size, 0, none⟩) 0 0) 0 [] := by rw [← hW8]; exact ⟨rfl, .inr ⟨W7.heap.size, 0, #[], rfl, BW7.out.size, heap_alloc_new _ _, Nat.le_refl _, by unfold maxLen; omega, rfl, rfl⟩⟩
          have lW8 : W7.heap.size < W8.heap.size := by rw [← hW8]; simp
          have cW8 : Below W7.heap.size W7 W8 := by rw [← hW8]; exact (Below.refl _ _).alloc (Nat.le_refl _) _
          have bW8 : Below W6.heap.size W6 W8 := BW7.out.trans (cW8.mono BW7.out.size)
          rw [hW8]
          refine ⟨⟨(bW8.block _ (Array.getElem?_eq_some_iff.1 HB6.out.1).1).trans HB6.out.1, (bW8.block _ (Array.getElem?_eq_some_iff.1 HB6.out.2).1).trans HB6.out.2⟩, ?_⟩
          have O1 := Lib.hid oW8
          have L1 := Lib.hid lW8
          have BW8 := Lib.hid bW8
          have RX' := Lib.hid ((cW8.block _ (Array.getElem?_eq_some_iff.1 RX.out).1).trans RX.out)
          clear RX
          have RX := RX'
          clear RX'
          clear oW8 lW8 cW8 bW8 hW8
          try simp only [Act.put, List.setIfInBounds_toArray, List.set_cons_zero, List.set_cons_succ]
          refine FirstH.only (i := 8) (by kernel_rfl) (by decide) inv (fun inv => wpOp_appT (i := 8) rfl rfl 59 rfl (.tmp 52) (.tmp 58) rfl W6.heap.size (.slice (some ⟨W7.heap.size, 0, none⟩) 0 0) 0 [] rfl O1.out A4 (T4.take k) k c4 rfl HTK.out HA0.out ((DW6.out.below BW8.out).row.take k) (by rw [← HTK.out]; have := hk2.out; have := hn1.out; omega) BW8.out.size ?_)
          intro v8 W9 oW9 gW9
          have bW9 : Below W6.heap.size W6 W9 := below_grown BW8.out gW9 (fun k e => (O1.out.lt k e).1)
          refine ⟨⟨(bW9.block _ (Array.getElem?_eq_some_iff.1 HB6.out.1).1).trans HB6.out.1, (bW9.block _ (Array.getElem?_eq_some_iff.1 HB6.out.2).1).trans HB6.out.2⟩, ?_⟩
          have O8 := Lib.hid oW9
          have BW9 := Lib.hid bW9
          have RX' := Lib.hid ((gW9.block _ (Array.getElem?_eq_some_iff.1 RX.out).1 (fun e => by simp [Value.ownBlock] at e; have := L1.out; have := LX.out; omega)).trans RX.out)
          clear RX
          have RX := RX'
          clear RX'
          clear oW9 gW9 bW9 O1
          try simp only [Act.put, List.setIfInBounds_toArray, List.set_cons_zero, List.set_cons_succ]
          refine FirstH.only (i := 11) (by kernel_rfl) (by decide) inv (fun inv => wpOp_appT (i := 11) rfl rfl 62 rfl (.tmp 59) (.tmp 61) rfl W6.heap.size v8 (0 + (T4.take k).length) _ rfl O8.out (some ⟨W6.heap.size, 0, none⟩) [t] 1 1 rfl rfl (fun e => by cases e) (rowT_one (TCS.out ▸ RX.out)) (by rw [← HTK.out]; have := hk2.out; have := hn1.out; show 0 + k + 1 ≤ _; omega) BW9.out.size ?_)
          intro v11 W10 oW10 gW10
          have bW10 : Below W6.heap.size W6 W10 := below_grown BW9.out gW10 (fun k e => (O8.out.lt k e).1)
          refine ⟨⟨(bW10.block _ (Array.getElem?_eq_some_iff.1 HB6.out.1).1).trans HB6.out.1, (bW10.block _ (Array.getElem?_eq_some_iff.1 HB6.out.2).1).trans HB6.out.2⟩, ?_⟩
          have O11 := Lib.hid oW10
          have BW10 := Lib.hid bW10
          clear oW10 gW10 bW10 O8 RX
          try simp only [Act.put, List.setIfInBounds_toArray, List.set_cons_zero, List.set_cons_succ]
          refine FirstH.only (i := 18) (by kernel_rfl) (by decide) inv (fun inv => wpOp_appT (i := 18) rfl rfl 69 rfl (.tmp 62) (.tmp 68) rfl W6.heap.size v11 (0 + (T4.take k).length + [t].length) _ rfl O11.out A5 (T4.drop k) (n - k) (c4 - k) rfl HDK.out HA5.out (DROP.out _ (DW6.out.below BW10.out).row) (by rw [← HTK.out, ← HDK.out]; have := hk2.out; have := hn1.out; show 0 + k + 1 + (n - k) ≤ _; omega) BW10.out.size ?_)
          intro v18 W11 oW11 gW11
          have bW11 : Below W6.heap.size W6 W11 := below_grown BW10.out gW11 (fun k e => (O11.out.lt k e).1)
          have l8 := (bW11.block _ (Array.getElem?_eq_some_iff.1 HB6.out.1).1).trans HB6.out.1
          refine ⟨⟨(bW11.block _ (Array.getElem?_eq_some_iff.1 HB6.out.1).1).trans HB6.out.1, (bW11.block _ (Array.getElem?_eq_some_iff.1 HB6.out.2).1).trans HB6.out.2⟩, ?_⟩
          have o8' : W11.ownsRow W6.heap.size 83 14 v18 (insT T4 t k).length (cellsT (insT T4 t k)) := by
            unfold insT
            rw [cellsT_append, List.length_append, show t :: List.drop k T4 = [t] ++ List.drop k T4 from rfl, cellsT_append, List.length_append, ← List.append_assoc, ← Nat.add_assoc]
            simpa using oW11
          obtain ⟨A8, c8, rfl, D8, G8⟩ := P4.out.laid B46.out bW11 o8' FEW.out RNG.out (SRT.out k H1.out H2.out) AP.out
          have DD := Lib.hid D8
          have GG := Lib.hid (G04.out.trans G8)
          obtain ⟨q, hq⟩ : ∃ q, (insT T4 t k).length = q := ⟨_, rfl⟩
          rw [hq] at DD GG ⊢
          have c1 := cell_of l8 0 (.slice A4 n c4) rfl
          have z1 := frz_row 0 l8
          clear oW11 o8' gW11 bW11 l8 D8 G8 hq
          try simp only [Act.put, List.setIfInBounds_toArray, List.set_cons_zero, List.set_cons_succ]
          refine ⟨by kernel_rfl, ?_⟩
          simp only [List.drop_succ_cons, List.drop_zero]
          go_wp2
          go_ret
          exact ⟨rfl, A8, c8, k, DD.out, GG.out⟩


    · obtain rfl : k = n := by omega
      have g0 := cell_of bag0 0 _ rfl
      have g0 := cell_regrown g0
      have H2 : Hid (∀ b, T4[k]? = some b → 0 < b.cmp t) := Lib.hid fun b hb => by
        have := (List.getElem?_eq_some_iff.1 hb).1
        have := HN.out
        omega
      clear tr0 bag0
      go_wp2
      refine wp_region_quiet_below (by kernel_rfl) (by kernel_rfl) ?_
      repeat (go_big_quiet_step (fail))
      refine wpQuiet_nil ?_
      rintro WE ⟨p, rfl⟩
      have bE := below_regrown wr p.d p.os
      generalize grow (redrawn wr p.d) p.os = WE at *
      clear g0
      have BE := Lib.hid (BR.out.trans (bE.mono BR.out.size))
      clear bE hlt
      go_wp2
      obtain ⟨W6, hW6⟩ : ∃ X, WE.drew = X := ⟨_, rfl⟩
      have b6 : Below W5.heap.size W5 W6 := by rw [← hW6]; exact BE.out.drew
      have B46 := Lib.hid (B45.out.trans (b6.mono B45.out.size))
      have DW6 := Lib.hid (P4.out.below B46.out)
      have HB6 := Lib.hid (show W6.heap[r]? = some (.cells #[.slice A4 k c4, .int .i64 most] 78 (0, 0)) ∧ W6.heap[W4.heap.size]? = some (.cells #[.int .u8 x.k, .int .u8 x.pn, .int .u16 x.pl, .int .u8 x.x.n, .int .u16 x.x.l, .int .u32 x.x.s, .int .u8 x.x.d, .int .u8 x.x.a0, .int .u8 x.x.a1, .int .u8 x.x.b0, .int .u8 x.x.b1, .int .u8 x.x.c0, .int .u8 x.x.c1, .int .i64 at_] 83 (0, 0)) from ⟨HN.out ▸ DW6.out.bag, (b6.block _ L5.out).trans R5.out⟩)
      have BW6 := Lib.hid (Below.refl W6.heap.size W6)
      have HW6 := Lib.hid hW6
      obtain ⟨A5, h5, h5A⟩ := slFrom A4 k c4 k hk2.out HLE.out HADR.out
      have H5 := Lib.hid h5
      have HT := Lib.hid (slTo A4 k c4 k hk2.out HLE.out HADR.out)
      have HTK : Hid (k = (T4.take k).length) := Lib.hid (by rw [List.length_take, HN.out]; have := hk2.out; omega)
      have HDK : Hid (k - k = (T4.drop k).length) := Lib.hid (by rw [List.length_drop, HN.out])
      have HA0 : Hid (A4 = none → k = 0 ∧ c4 = 0) := Lib.hid (fun e => by
        rcases HADR.out with ⟨_, h2⟩ | ⟨g, o, h2⟩
        · have := HLE.out
          have := hk2.out
          omega
        · rw [e] at h2
          cases h2)
      have HA5 : Hid (A5 = none → k - k = 0 ∧ c4 - k = 0) := Lib.hid (fun e => by
        rcases h5A with ⟨_, h2⟩ | ⟨g, o, o2, _, h2, _⟩
        · have := HLE.out
          omega
        · rw [e] at h2
          cases h2)
      have DROP : Hid (∀ X : World, RowT X A4 T4 → RowT X A5 (T4.drop k)) := Lib.hid fun X hX => by
        rcases h5A with ⟨_, h2⟩ | ⟨g, o, o2, hA, h2, h3⟩
        · intro hne
          exact absurd (List.drop_eq_nil_of_le (by have := HLE.out; have := HN.out; omega)) hne
        · rw [h2]
          rw [hA] at hX
          exact hX.drop k (by rw [HN.out]; exact h3)
      clear hW6 b6 h5 h5A
      refine region_heldT (S := fun X => X.heap[r]? = some (.cells #[.slice A4 k c4, .int .i64 most] 78 (0, 0)) ∧ X.heap[W4.heap.size]? = some (.cells #[.int .u8 x.k, .int .u8 x.pn, .int .u16 x.pl, .int .u8 x.x.n, .int .u16 x.x.l, .int .u32 x.x.s, .int .u8 x.x.d, .int .u8 x.x.a0, .int .u8 x.x.a1, .int .u8 x.x.b0, .int .u8 x.x.b1, .int .u8 x.x.c0, .int .u8 x.x.c1, .int .i64 at_] 83 (0, 0))) 19 (by kernel_rfl) (by decide) (fun inv => ?_)
      change FirstH _ _ _ _ _ _ _ _ _ _ WE.drew
      rw [HW6.out]
      have HS := HB6.out
      try simp only [Act.put, List.setIfInBounds_toArray, List.set_cons_zero, List.set_cons_succ]
      refine FirstH.go (i := 0) (v := .pointer (some ⟨r, 0, none⟩)) rfl rfl _ rfl _ rfl (by kernel_rfl) (fun _ _ _ h => h) inv (fun X _ => by unfold bareO; go_simp) HS (fun inv => ?_)
      try simp only [Act.put, List.setIfInBounds_toArray, List.set_cons_zero, List.set_cons_succ]
      refine FirstH.go (i := 2) (v := .pointer (some ⟨r, 0, none⟩)) rfl rfl _ rfl _ rfl (by kernel_rfl) (fun _ _ _ h => h) inv (fun X _ => by unfold bareO; go_simp) HS (fun inv => ?_)
      try simp only [Act.put, List.setIfInBounds_toArray, List.set_cons_zero, List.set_cons_succ]
      refine FirstH.go (i := 3) (v := .pointer (some ⟨r, 0, none⟩)) rfl rfl _ rfl _ rfl (by kernel_rfl) (fun _ _ _ h => h) inv (fun X _ => by unfold bareO; go_simp) HS (fun inv => ?_)
      try simp only [Act.put, List.setIfInBounds_toArray, List.set_cons_zero, List.set_cons_succ]
      refine FirstH.go (i := 4) (v := .pointer (some ⟨r, 0, none⟩)) rfl rfl _ rfl _ rfl (by kernel_rfl) (fun _ _ _ h => h) inv (fun X _ => by unfold bareO; go_simp) HS (fun inv => ?_)
      try simp only [Act.put, List.setIfInBounds_toArray, List.set_cons_zero, List.set_cons_succ]
      refine FirstH.go (i := 5) (v := .slice A4 k c4) rfl rfl _ rfl _ rfl (by kernel_rfl) (fun _ _ _ h => h) inv (fun X hS => by have c1 := cell_of hS.1 0 (.slice A4 k c4) rfl; unfold bareO; go_simp) HS (fun inv => ?_)
      try simp only [Act.put, List.setIfInBounds_toArray, List.set_cons_zero, List.set_cons_succ]
      refine FirstH.go (i := 6) (v := .int .i64 k) rfl rfl _ rfl _ rfl (by kernel_rfl) (fun _ _ _ h => h) inv (fun X _ => by unfold bareO; go_simp) HS (fun inv => ?_)
      try simp only [Act.put, List.setIfInBounds_toArray, List.set_cons_zero, List.set_cons_succ]
      refine FirstH.go (i := 7) (v := .slice A4 k c4) rfl rfl _ rfl _ rfl (by kernel_rfl) (fun _ _ _ h => h) inv (fun X _ => run_slB rfl rfl rfl (HT.out X)) HS (fun inv => ?_)
      try simp only [Act.put, List.setIfInBounds_toArray, List.set_cons_zero, List.set_cons_succ]
      refine FirstH.go (i := 9) (v := .agg #[.int .u8 x.k, .int .u8 x.pn, .int .u16 x.pl, .int .u8 x.x.n, .int .u16 x.x.l, .int .u32 x.x.s, .int .u8 x.x.d, .int .u8 x.x.a0, .int .u8 x.x.a1, .int .u8 x.x.b0, .int .u8 x.x.b1, .int .u8 x.x.c0, .int .u8 x.x.c1, .int .i64 at_]) rfl rfl _ rfl _ rfl (by kernel_rfl) (fun _ _ _ h => h) inv (fun X hS => run_load_row 83 _ _ W4.heap.size rfl _ _ _ _ hS.2 Try.underlying83 rfl (by kernel_rfl)) HS (fun inv => ?_)
      try simp only [Act.put, List.setIfInBounds_toArray, List.set_cons_zero, List.set_cons_succ]
      refine FirstH.go (i := 12) (v := .pointer (some ⟨r, 0, none⟩)) rfl rfl _ rfl _ rfl (by kernel_rfl) (fun _ _ _ h => h) inv (fun X _ => by unfold bareO; go_simp) HS (fun inv => ?_)
      try simp only [Act.put, List.setIfInBounds_toArray, List.set_cons_zero, List.set_cons_succ]
      refine FirstH.go (i := 13) (v := .pointer (some ⟨r, 0, none⟩)) rfl rfl _ rfl _ rfl (by kernel_rfl) (fun _ _ _ h => h) inv (fun X _ => by unfold bareO; go_simp) HS (fun inv => ?_)
      try simp only [Act.put, List.setIfInBounds_toArray, List.set_cons_zero, List.set_cons_succ]
      refine FirstH.go (i := 14) (v := .pointer (some ⟨r, 0, none⟩)) rfl rfl _ rfl _ rfl (by kernel_rfl) (fun _ _ _ h => h) inv (fun X _ => by unfold bareO; go_simp) HS (fun inv => ?_)
      try simp only [Act.put, List.setIfInBounds_toArray, List.set_cons_zero, List.set_cons_succ]
      refine FirstH.go (i := 15) (v := .slice A4 k c4) rfl rfl _ rfl _ rfl (by kernel_rfl) (fun _ _ _ h => h) inv (fun X hS => by have c1 := cell_of hS.1 0 (.slice A4 k c4) rfl; unfold bareO; go_simp) HS (fun inv => ?_)
      try simp only [Act.put, List.setIfInBounds_toArray, List.set_cons_zero, List.set_cons_succ]
      refine FirstH.go (i := 16) (v := .int .i64 k) rfl rfl _ rfl _ rfl (by kernel_rfl) (fun _ _ _ h => h) inv (fun X _ => by unfold bareO; go_simp) HS (fun inv => ?_)
      try simp only [Act.put, List.setIfInBounds_toArray, List.set_cons_zero, List.set_cons_succ]
      refine FirstH.go (i := 17) (v := .slice A5 (k - k) (c4 - k)) rfl rfl _ rfl _ rfl (by kernel_rfl) (fun _ _ _ h => h) inv (fun X _ => run_slB rfl rfl rfl (H5.out X)) HS (fun inv => ?_)
      try simp only [Act.put, List.setIfInBounds_toArray, List.set_cons_zero, List.set_cons_succ]
      clear HS
      refine FirstH.two (i := 1) (j := 10) (by kernel_rfl) (by decide) (by decide) inv (fun inv => ?_) (fun inv => ?_)
      · refine wpOp_vl (i := 1) (v := .slice (some ⟨W6.heap.size, 0, none⟩) 0 0) (w' := W6.alloc (.cells #[] 83)) rfl rfl 52 rfl _ rfl (by unfold bareO; go_simp) ?_
        obtain ⟨W7, hW7⟩ : ∃ zz, W6.alloc (.cells #[] 83) = zz := ⟨_, rfl⟩
        have oW7 : W7.ownsRow W6.heap.size 83 14 (.slice (some ⟨W6.heap.size, 0, none⟩) 0 0) 0 [] := by rw [← hW7]; exact ⟨rfl, .inr ⟨W6.heap.size, 0, #[], rfl, BW6.out.size, heap_alloc_new _ _, Nat.le_refl _, by unfold maxLen; omega, rfl, rfl⟩⟩
        have lW7 : W6.heap.size < W7.heap.size := by rw [← hW7]; simp
        have cW7 : Below W6.heap.size W6 W7 := by rw [← hW7]; exact (Below.refl _ _).alloc (Nat.le_refl _) _
        have bW7 : Below W6.heap.size W6 W7 := BW6.out.trans (cW7.mono BW6.out.size)
        rw [hW7]
        refine ⟨⟨(bW7.block _ (Array.getElem?_eq_some_iff.1 HB6.out.1).1).trans HB6.out.1, (bW7.block _ (Array.getElem?_eq_some_iff.1 HB6.out.2).1).trans HB6.out.2⟩, ?_⟩
        have O1 := Lib.hid oW7
        have L1 := Lib.hid lW7
        have BW7 := Lib.hid bW7
        clear oW7 lW7 cW7 bW7 hW7
        try simp only [Act.put, List.setIfInBounds_toArray, List.set_cons_zero, List.set_cons_succ]
        refine FirstH.two (i := 8) (j := 10) (by kernel_rfl) (by decide) (by decide) inv (fun inv => ?_) (fun inv => ?_)
        · refine wpOp_appT (i := 8) rfl rfl 59 rfl (.tmp 52) (.tmp 58) rfl W6.heap.size (.slice (some ⟨W6.heap.size, 0, none⟩) 0 0) 0 [] rfl O1.out A4 (T4.take k) k c4 rfl HTK.out HA0.out ((DW6.out.below BW7.out).row.take k) (by rw [← HTK.out]; have := hk2.out; have := hn1.out; omega) BW7.out.size ?_
          intro v8 W8 oW8 gW8
          have bW8 : Below W6.heap.size W6 W8 := below_grown BW7.out gW8 (fun k e => (O1.out.lt k e).1)
          refine ⟨⟨(bW8.block _ (Array.getElem?_eq_some_iff.1 HB6.out.1).1).trans HB6.out.1, (bW8.block _ (Array.getElem?_eq_some_iff.1 HB6.out.2).1).trans HB6.out.2⟩, ?_⟩
          have O8 := Lib.hid oW8
          have BW8 := Lib.hid bW8
          clear oW8 gW8 bW8 O1
          try simp only [Act.put, List.setIfInBounds_toArray, List.set_cons_zero, List.set_cons_succ]
          refine FirstH.only (i := 10) (by kernel_rfl) (by decide) inv (fun inv => wpOp_vl (i := 10) (v := .slice (some ⟨W8.heap.size, 0, none⟩) 1 1) (w' := W8.alloc (.cells #[.int .u8 x.k, .int .u8 x.pn, .int .u16 x.pl, .int .u8 x.x.n, .int .u16 x.x.l, .int .u32 x.x.s, .int .u8 x.x.d, .int .u8 x.x.a0, .int .u8 x.x.a1, .int .u8 x.x.b0, .int .u8 x.x.b1, .int .u8 x.x.c0, .int .u8 x.x.c1, .int .i64 at_] 83)) rfl rfl 61 rfl _ rfl (by unfold bareO; go_simp) ?_)
          obtain ⟨W9, hW9⟩ : ∃ zz, W8.alloc (.cells #[.int .u8 x.k, .int .u8 x.pn, .int .u16 x.pl, .int .u8 x.x.n, .int .u16 x.x.l, .int .u32 x.x.s, .int .u8 x.x.d, .int .u8 x.x.a0, .int .u8 x.x.a1, .int .u8 x.x.b0, .int .u8 x.x.b1, .int .u8 x.x.c0, .int .u8 x.x.c1, .int .i64 at_] 83) = zz := ⟨_, rfl⟩
          have rW9 : W9.heap[W8.heap.size]? = some (.cells #[.int .u8 x.k, .int .u8 x.pn, .int .u16 x.pl, .int .u8 x.x.n, .int .u16 x.x.l, .int .u32 x.x.s, .int .u8 x.x.d, .int .u8 x.x.a0, .int .u8 x.x.a1, .int .u8 x.x.b0, .int .u8 x.x.b1, .int .u8 x.x.c0, .int .u8 x.x.c1, .int .i64 at_] 83 (0, 0)) := by rw [← hW9]; exact heap_alloc_new _ _
          have cW9 : Below W8.heap.size W8 W9 := by rw [← hW9]; exact (Below.refl _ _).alloc (Nat.le_refl _) _
          have bW9 : Below W6.heap.size W6 W9 := BW8.out.trans (cW9.mono BW8.out.size)
          rw [hW9]
          refine ⟨⟨(bW9.block _ (Array.getElem?_eq_some_iff.1 HB6.out.1).1).trans HB6.out.1, (bW9.block _ (Array.getElem?_eq_some_iff.1 HB6.out.2).1).trans HB6.out.2⟩, ?_⟩
          have RX := Lib.hid rW9
          have LX := Lib.hid (show W8.heap.size < W9.heap.size by rw [← hW9]; simp)
          have BW9 := Lib.hid bW9
          have O8' := Lib.hid (own_below O8.out cW9)
          clear O8
          have O8 := O8'
          clear O8'
          clear rW9 cW9 bW9 hW9
          try simp only [Act.put, List.setIfInBounds_toArray, List.set_cons_zero, List.set_cons_succ]
          refine FirstH.only (i := 11) (by kernel_rfl) (by decide) inv (fun inv => wpOp_appT (i := 11) rfl rfl 62 rfl (.tmp 59) (.tmp 61) rfl W6.heap.size v8 (0 + (T4.take k).length) _ rfl O8.out (some ⟨W8.heap.size, 0, none⟩) [t] 1 1 rfl rfl (fun e => by cases e) (rowT_one (TCS.out ▸ RX.out)) (by rw [← HTK.out]; have := hk2.out; have := hn1.out; show 0 + k + 1 ≤ _; omega) BW9.out.size ?_)
          intro v11 W10 oW10 gW10
          have bW10 : Below W6.heap.size W6 W10 := below_grown BW9.out gW10 (fun k e => (O8.out.lt k e).1)
          refine ⟨⟨(bW10.block _ (Array.getElem?_eq_some_iff.1 HB6.out.1).1).trans HB6.out.1, (bW10.block _ (Array.getElem?_eq_some_iff.1 HB6.out.2).1).trans HB6.out.2⟩, ?_⟩
          have O11 := Lib.hid oW10
          have BW10 := Lib.hid bW10
          clear oW10 gW10 bW10 O8 RX
          try simp only [Act.put, List.setIfInBounds_toArray, List.set_cons_zero, List.set_cons_succ]
          refine FirstH.only (i := 18) (by kernel_rfl) (by decide) inv (fun inv => wpOp_appT (i := 18) rfl rfl 69 rfl (.tmp 62) (.tmp 68) rfl W6.heap.size v11 (0 + (T4.take k).length + [t].length) _ rfl O11.out A5 (T4.drop k) (k - k) (c4 - k) rfl HDK.out HA5.out (DROP.out _ (DW6.out.below BW10.out).row) (by rw [← HTK.out, ← HDK.out]; have := hk2.out; have := hn1.out; show 0 + k + 1 + (k - k) ≤ _; omega) BW10.out.size ?_)
          intro v18 W11 oW11 gW11
          have bW11 : Below W6.heap.size W6 W11 := below_grown BW10.out gW11 (fun k e => (O11.out.lt k e).1)
          have l8 := (bW11.block _ (Array.getElem?_eq_some_iff.1 HB6.out.1).1).trans HB6.out.1
          refine ⟨⟨(bW11.block _ (Array.getElem?_eq_some_iff.1 HB6.out.1).1).trans HB6.out.1, (bW11.block _ (Array.getElem?_eq_some_iff.1 HB6.out.2).1).trans HB6.out.2⟩, ?_⟩
          have o8' : W11.ownsRow W6.heap.size 83 14 v18 (insT T4 t k).length (cellsT (insT T4 t k)) := by
            unfold insT
            rw [cellsT_append, List.length_append, show t :: List.drop k T4 = [t] ++ List.drop k T4 from rfl, cellsT_append, List.length_append, ← List.append_assoc, ← Nat.add_assoc]
            simpa using oW11
          obtain ⟨A8, c8, rfl, D8, G8⟩ := P4.out.laid B46.out bW11 o8' FEW.out RNG.out (SRT.out k H1.out H2.out) AP.out
          have DD := Lib.hid D8
          have GG := Lib.hid (G04.out.trans G8)
          obtain ⟨q, hq⟩ : ∃ q, (insT T4 t k).length = q := ⟨_, rfl⟩
          rw [hq] at DD GG ⊢
          have c1 := cell_of l8 0 (.slice A4 k c4) rfl
          have z1 := frz_row 0 l8
          clear oW11 o8' gW11 bW11 l8 D8 G8 hq
          try simp only [Act.put, List.setIfInBounds_toArray, List.set_cons_zero, List.set_cons_succ]
          refine ⟨by kernel_rfl, ?_⟩
          simp only [List.drop_succ_cons, List.drop_zero]
          go_wp2
          go_ret
          exact ⟨rfl, A8, c8, k, DD.out, GG.out⟩

        · refine wpOp_vl (i := 10) (v := .slice (some ⟨W7.heap.size, 0, none⟩) 1 1) (w' := W7.alloc (.cells #[.int .u8 x.k, .int .u8 x.pn, .int .u16 x.pl, .int .u8 x.x.n, .int .u16 x.x.l, .int .u32 x.x.s, .int .u8 x.x.d, .int .u8 x.x.a0, .int .u8 x.x.a1, .int .u8 x.x.b0, .int .u8 x.x.b1, .int .u8 x.x.c0, .int .u8 x.x.c1, .int .i64 at_] 83)) rfl rfl 61 rfl _ rfl (by unfold bareO; go_simp) ?_
          obtain ⟨W8, hW8⟩ : ∃ zz, W7.alloc (.cells #[.int .u8 x.k, .int .u8 x.pn, .int .u16 x.pl, .int .u8 x.x.n, .int .u16 x.x.l, .int .u32 x.x.s, .int .u8 x.x.d, .int .u8 x.x.a0, .int .u8 x.x.a1, .int .u8 x.x.b0, .int .u8 x.x.b1, .int .u8 x.x.c0, .int .u8 x.x.c1, .int .i64 at_] 83) = zz := ⟨_, rfl⟩
          have rW8 : W8.heap[W7.heap.size]? = some (.cells #[.int .u8 x.k, .int .u8 x.pn, .int .u16 x.pl, .int .u8 x.x.n, .int .u16 x.x.l, .int .u32 x.x.s, .int .u8 x.x.d, .int .u8 x.x.a0, .int .u8 x.x.a1, .int .u8 x.x.b0, .int .u8 x.x.b1, .int .u8 x.x.c0, .int .u8 x.x.c1, .int .i64 at_] 83 (0, 0)) := by rw [← hW8]; exact heap_alloc_new _ _
          have cW8 : Below W7.heap.size W7 W8 := by rw [← hW8]; exact (Below.refl _ _).alloc (Nat.le_refl _) _
          have bW8 : Below W6.heap.size W6 W8 := BW7.out.trans (cW8.mono BW7.out.size)
          rw [hW8]
          refine ⟨⟨(bW8.block _ (Array.getElem?_eq_some_iff.1 HB6.out.1).1).trans HB6.out.1, (bW8.block _ (Array.getElem?_eq_some_iff.1 HB6.out.2).1).trans HB6.out.2⟩, ?_⟩
          have RX := Lib.hid rW8
          have LX := Lib.hid (show W7.heap.size < W8.heap.size by rw [← hW8]; simp)
          have BW8 := Lib.hid bW8
          have O1' := Lib.hid (own_below O1.out cW8)
          clear O1
          have O1 := O1'
          clear O1'
          clear rW8 cW8 bW8 hW8
          try simp only [Act.put, List.setIfInBounds_toArray, List.set_cons_zero, List.set_cons_succ]
          refine FirstH.only (i := 8) (by kernel_rfl) (by decide) inv (fun inv => wpOp_appT (i := 8) rfl rfl 59 rfl (.tmp 52) (.tmp 58) rfl W6.heap.size (.slice (some ⟨W6.heap.size, 0, none⟩) 0 0) 0 [] rfl O1.out A4 (T4.take k) k c4 rfl HTK.out HA0.out ((DW6.out.below BW8.out).row.take k) (by rw [← HTK.out]; have := hk2.out; have := hn1.out; omega) BW8.out.size ?_)
          intro v8 W9 oW9 gW9
          have bW9 : Below W6.heap.size W6 W9 := below_grown BW8.out gW9 (fun k e => (O1.out.lt k e).1)
          refine ⟨⟨(bW9.block _ (Array.getElem?_eq_some_iff.1 HB6.out.1).1).trans HB6.out.1, (bW9.block _ (Array.getElem?_eq_some_iff.1 HB6.out.2).1).trans HB6.out.2⟩, ?_⟩
          have O8 := Lib.hid oW9
          have BW9 := Lib.hid bW9
          have RX' := Lib.hid ((gW9.block _ (Array.getElem?_eq_some_iff.1 RX.out).1 (fun e => by simp [Value.ownBlock] at e; have := L1.out; have := LX.out; omega)).trans RX.out)
          clear RX
          have RX := RX'
          clear RX'
          clear oW9 gW9 bW9 O1
          try simp only [Act.put, List.setIfInBounds_toArray, List.set_cons_zero, List.set_cons_succ]
          refine FirstH.only (i := 11) (by kernel_rfl) (by decide) inv (fun inv => wpOp_appT (i := 11) rfl rfl 62 rfl (.tmp 59) (.tmp 61) rfl W6.heap.size v8 (0 + (T4.take k).length) _ rfl O8.out (some ⟨W7.heap.size, 0, none⟩) [t] 1 1 rfl rfl (fun e => by cases e) (rowT_one (TCS.out ▸ RX.out)) (by rw [← HTK.out]; have := hk2.out; have := hn1.out; show 0 + k + 1 ≤ _; omega) BW9.out.size ?_)
          intro v11 W10 oW10 gW10
          have bW10 : Below W6.heap.size W6 W10 := below_grown BW9.out gW10 (fun k e => (O8.out.lt k e).1)
          refine ⟨⟨(bW10.block _ (Array.getElem?_eq_some_iff.1 HB6.out.1).1).trans HB6.out.1, (bW10.block _ (Array.getElem?_eq_some_iff.1 HB6.out.2).1).trans HB6.out.2⟩, ?_⟩
          have O11 := Lib.hid oW10
          have BW10 := Lib.hid bW10
          clear oW10 gW10 bW10 O8 RX
          try simp only [Act.put, List.setIfInBounds_toArray, List.set_cons_zero, List.set_cons_succ]
          refine FirstH.only (i := 18) (by kernel_rfl) (by decide) inv (fun inv => wpOp_appT (i := 18) rfl rfl 69 rfl (.tmp 62) (.tmp 68) rfl W6.heap.size v11 (0 + (T4.take k).length + [t].length) _ rfl O11.out A5 (T4.drop k) (k - k) (c4 - k) rfl HDK.out HA5.out (DROP.out _ (DW6.out.below BW10.out).row) (by rw [← HTK.out, ← HDK.out]; have := hk2.out; have := hn1.out; show 0 + k + 1 + (k - k) ≤ _; omega) BW10.out.size ?_)
          intro v18 W11 oW11 gW11
          have bW11 : Below W6.heap.size W6 W11 := below_grown BW10.out gW11 (fun k e => (O11.out.lt k e).1)
          have l8 := (bW11.block _ (Array.getElem?_eq_some_iff.1 HB6.out.1).1).trans HB6.out.1
          refine ⟨⟨(bW11.block _ (Array.getElem?_eq_some_iff.1 HB6.out.1).1).trans HB6.out.1, (bW11.block _ (Array.getElem?_eq_some_iff.1 HB6.out.2).1).trans HB6.out.2⟩, ?_⟩
          have o8' : W11.ownsRow W6.heap.size 83 14 v18 (insT T4 t k).length (cellsT (insT T4 t k)) := by
            unfold insT
            rw [cellsT_append, List.length_append, show t :: List.drop k T4 = [t] ++ List.drop k T4 from rfl, cellsT_append, List.length_append, ← List.append_assoc, ← Nat.add_assoc]
            simpa using oW11
          obtain ⟨A8, c8, rfl, D8, G8⟩ := P4.out.laid B46.out bW11 o8' FEW.out RNG.out (SRT.out k H1.out H2.out) AP.out
          have DD := Lib.hid D8
          have GG := Lib.hid (G04.out.trans G8)
          obtain ⟨q, hq⟩ : ∃ q, (insT T4 t k).length = q := ⟨_, rfl⟩
          rw [hq] at DD GG ⊢
          have c1 := cell_of l8 0 (.slice A4 k c4) rfl
          have z1 := frz_row 0 l8
          clear oW11 o8' gW11 bW11 l8 D8 G8 hq
          try simp only [Act.put, List.setIfInBounds_toArray, List.set_cons_zero, List.set_cons_succ]
          refine ⟨by kernel_rfl, ?_⟩
          simp only [List.drop_succ_cons, List.drop_zero]
          go_wp2
          go_ret
          exact ⟨rfl, A8, c8, k, DD.out, GG.out⟩


      · refine wpOp_vl (i := 10) (v := .slice (some ⟨W6.heap.size, 0, none⟩) 1 1) (w' := W6.alloc (.cells #[.int .u8 x.k, .int .u8 x.pn, .int .u16 x.pl, .int .u8 x.x.n, .int .u16 x.x.l, .int .u32 x.x.s, .int .u8 x.x.d, .int .u8 x.x.a0, .int .u8 x.x.a1, .int .u8 x.x.b0, .int .u8 x.x.b1, .int .u8 x.x.c0, .int .u8 x.x.c1, .int .i64 at_] 83)) rfl rfl 61 rfl _ rfl (by unfold bareO; go_simp) ?_
        obtain ⟨W7, hW7⟩ : ∃ zz, W6.alloc (.cells #[.int .u8 x.k, .int .u8 x.pn, .int .u16 x.pl, .int .u8 x.x.n, .int .u16 x.x.l, .int .u32 x.x.s, .int .u8 x.x.d, .int .u8 x.x.a0, .int .u8 x.x.a1, .int .u8 x.x.b0, .int .u8 x.x.b1, .int .u8 x.x.c0, .int .u8 x.x.c1, .int .i64 at_] 83) = zz := ⟨_, rfl⟩
        have rW7 : W7.heap[W6.heap.size]? = some (.cells #[.int .u8 x.k, .int .u8 x.pn, .int .u16 x.pl, .int .u8 x.x.n, .int .u16 x.x.l, .int .u32 x.x.s, .int .u8 x.x.d, .int .u8 x.x.a0, .int .u8 x.x.a1, .int .u8 x.x.b0, .int .u8 x.x.b1, .int .u8 x.x.c0, .int .u8 x.x.c1, .int .i64 at_] 83 (0, 0)) := by rw [← hW7]; exact heap_alloc_new _ _
        have cW7 : Below W6.heap.size W6 W7 := by rw [← hW7]; exact (Below.refl _ _).alloc (Nat.le_refl _) _
        have bW7 : Below W6.heap.size W6 W7 := BW6.out.trans (cW7.mono BW6.out.size)
        rw [hW7]
        refine ⟨⟨(bW7.block _ (Array.getElem?_eq_some_iff.1 HB6.out.1).1).trans HB6.out.1, (bW7.block _ (Array.getElem?_eq_some_iff.1 HB6.out.2).1).trans HB6.out.2⟩, ?_⟩
        have RX := Lib.hid rW7
        have LX := Lib.hid (show W6.heap.size < W7.heap.size by rw [← hW7]; simp)
        have BW7 := Lib.hid bW7
        clear rW7 cW7 bW7 hW7
        try simp only [Act.put, List.setIfInBounds_toArray, List.set_cons_zero, List.set_cons_succ]
        refine FirstH.only (i := 1) (by kernel_rfl) (by decide) inv (fun inv => wpOp_vl (i := 1) (v := .slice (some ⟨W7.heap.size, 0, none⟩) 0 0) (w' := W7.alloc (.cells #[] 83)) rfl rfl 52 rfl _ rfl (by unfold bareO; go_simp) ?_)
        obtain ⟨W8, hW8⟩ : ∃ zz, W7.alloc (.cells #[] 83) = zz := ⟨_, rfl⟩
        have oW8 : W8.ownsRow W6.heap.size 83 14 (.slice (some ⟨W7.heap.size, 0, none⟩) 0 0) 0 [] := by rw [← hW8]; exact ⟨rfl, .inr ⟨W7.heap.size, 0, #[], rfl, BW7.out.size, heap_alloc_new _ _, Nat.le_refl _, by unfold maxLen; omega, rfl, rfl⟩⟩
        have lW8 : W7.heap.size < W8.heap.size := by rw [← hW8]; simp
        have cW8 : Below W7.heap.size W7 W8 := by rw [← hW8]; exact (Below.refl _ _).alloc (Nat.le_refl _) _
        have bW8 : Below W6.heap.size W6 W8 := BW7.out.trans (cW8.mono BW7.out.size)
        rw [hW8]
        refine ⟨⟨(bW8.block _ (Array.getElem?_eq_some_iff.1 HB6.out.1).1).trans HB6.out.1, (bW8.block _ (Array.getElem?_eq_some_iff.1 HB6.out.2).1).trans HB6.out.2⟩, ?_⟩
        have O1 := Lib.hid oW8
        have L1 := Lib.hid lW8
        have BW8 := Lib.hid bW8
        have RX' := Lib.hid ((cW8.block _ (Array.getElem?_eq_some_iff.1 RX.out).1).trans RX.out)
        clear RX
        have RX := RX'
        clear RX'
        clear oW8 lW8 cW8 bW8 hW8
        try simp only [Act.put, List.setIfInBounds_toArray, List.set_cons_zero, List.set_cons_succ]
        refine FirstH.only (i := 8) (by kernel_rfl) (by decide) inv (fun inv => wpOp_appT (i := 8) rfl rfl 59 rfl (.tmp 52) (.tmp 58) rfl W6.heap.size (.slice (some ⟨W7.heap.size, 0, none⟩) 0 0) 0 [] rfl O1.out A4 (T4.take k) k c4 rfl HTK.out HA0.out ((DW6.out.below BW8.out).row.take k) (by rw [← HTK.out]; have := hk2.out; have := hn1.out; omega) BW8.out.size ?_)
        intro v8 W9 oW9 gW9
        have bW9 : Below W6.heap.size W6 W9 := below_grown BW8.out gW9 (fun k e => (O1.out.lt k e).1)
        refine ⟨⟨(bW9.block _ (Array.getElem?_eq_some_iff.1 HB6.out.1).1).trans HB6.out.1, (bW9.block _ (Array.getElem?_eq_some_iff.1 HB6.out.2).1).trans HB6.out.2⟩, ?_⟩
        have O8 := Lib.hid oW9
        have BW9 := Lib.hid bW9
        have RX' := Lib.hid ((gW9.block _ (Array.getElem?_eq_some_iff.1 RX.out).1 (fun e => by simp [Value.ownBlock] at e; have := L1.out; have := LX.out; omega)).trans RX.out)
        clear RX
        have RX := RX'
        clear RX'
        clear oW9 gW9 bW9 O1
        try simp only [Act.put, List.setIfInBounds_toArray, List.set_cons_zero, List.set_cons_succ]
        refine FirstH.only (i := 11) (by kernel_rfl) (by decide) inv (fun inv => wpOp_appT (i := 11) rfl rfl 62 rfl (.tmp 59) (.tmp 61) rfl W6.heap.size v8 (0 + (T4.take k).length) _ rfl O8.out (some ⟨W6.heap.size, 0, none⟩) [t] 1 1 rfl rfl (fun e => by cases e) (rowT_one (TCS.out ▸ RX.out)) (by rw [← HTK.out]; have := hk2.out; have := hn1.out; show 0 + k + 1 ≤ _; omega) BW9.out.size ?_)
        intro v11 W10 oW10 gW10
        have bW10 : Below W6.heap.size W6 W10 := below_grown BW9.out gW10 (fun k e => (O8.out.lt k e).1)
        refine ⟨⟨(bW10.block _ (Array.getElem?_eq_some_iff.1 HB6.out.1).1).trans HB6.out.1, (bW10.block _ (Array.getElem?_eq_some_iff.1 HB6.out.2).1).trans HB6.out.2⟩, ?_⟩
        have O11 := Lib.hid oW10
        have BW10 := Lib.hid bW10
        clear oW10 gW10 bW10 O8 RX
        try simp only [Act.put, List.setIfInBounds_toArray, List.set_cons_zero, List.set_cons_succ]
        refine FirstH.only (i := 18) (by kernel_rfl) (by decide) inv (fun inv => wpOp_appT (i := 18) rfl rfl 69 rfl (.tmp 62) (.tmp 68) rfl W6.heap.size v11 (0 + (T4.take k).length + [t].length) _ rfl O11.out A5 (T4.drop k) (k - k) (c4 - k) rfl HDK.out HA5.out (DROP.out _ (DW6.out.below BW10.out).row) (by rw [← HTK.out, ← HDK.out]; have := hk2.out; have := hn1.out; show 0 + k + 1 + (k - k) ≤ _; omega) BW10.out.size ?_)
        intro v18 W11 oW11 gW11
        have bW11 : Below W6.heap.size W6 W11 := below_grown BW10.out gW11 (fun k e => (O11.out.lt k e).1)
        have l8 := (bW11.block _ (Array.getElem?_eq_some_iff.1 HB6.out.1).1).trans HB6.out.1
        refine ⟨⟨(bW11.block _ (Array.getElem?_eq_some_iff.1 HB6.out.1).1).trans HB6.out.1, (bW11.block _ (Array.getElem?_eq_some_iff.1 HB6.out.2).1).trans HB6.out.2⟩, ?_⟩
        have o8' : W11.ownsRow W6.heap.size 83 14 v18 (insT T4 t k).length (cellsT (insT T4 t k)) := by
          unfold insT
          rw [cellsT_append, List.length_append, show t :: List.drop k T4 = [t] ++ List.drop k T4 from rfl, cellsT_append, List.length_append, ← List.append_assoc, ← Nat.add_assoc]
          simpa using oW11
        obtain ⟨A8, c8, rfl, D8, G8⟩ := P4.out.laid B46.out bW11 o8' FEW.out RNG.out (SRT.out k H1.out H2.out) AP.out
        have DD := Lib.hid D8
        have GG := Lib.hid (G04.out.trans G8)
        obtain ⟨q, hq⟩ : ∃ q, (insT T4 t k).length = q := ⟨_, rfl⟩
        rw [hq] at DD GG ⊢
        have c1 := cell_of l8 0 (.slice A4 k c4) rfl
        have z1 := frz_row 0 l8
        clear oW11 o8' gW11 bW11 l8 D8 G8 hq
        try simp only [Act.put, List.setIfInBounds_toArray, List.set_cons_zero, List.set_cons_succ]
        refine ⟨by kernel_rfl, ?_⟩
        simp only [List.drop_succ_cons, List.drop_zero]
        go_wp2
        go_ret
        exact ⟨rfl, A8, c8, k, DD.out, GG.out⟩

end Go.Proofs.Ytfekkfphogjpeaa
