/-
  The walk of the law BagTrue. Condition: the acts lie in memory.
-/
import Derived.Test.YteaafpgkifmdeaaBt0
import Derived.Test.YteaafpgkifmdeaaBpl
import Derived.Deep.QuietTactic
import Derived.BigQuiet
import Derived.Lib.QuietBelow
namespace Go.Proofs.Yteaafpgkifmdeaa
set_option linter.unusedSimpArgs false
set_option linter.unusedVariables false
open Go.RowKit Go.Sort

theorem refProcB (n l : Int) (w : World) :
    Calls Try.prog 23 #[.agg #[.int .u8 n, .int .u16 l]] w fun e w' => e = .returned (.agg #[.int .u8 n, .int .u16 l]) ∧ Below w.heap.size w w' := by
  refine (refProc n l w).mono ?_
  rintro e w' ⟨rfl, rfl⟩
  exact ⟨rfl, ((Below.refl _ _).alloc (Nat.le_refl _) _).alloc (by simp) _⟩

set_option maxRecDepth 100000 in
set_option maxHeartbeats 16000000 in
theorem walkTrue (ab ao c n : Nat) (AL : List Ac) (W : World) (hn : AL.length = n) (hr : RowsB W ab ao AL) (hc : n ≤ c) (hm : c ≤ maxLen) :
    Calls Try.prog 4 #[.slice (some ⟨ab, ao, none⟩) n c] W fun e W' => e = .returned (.bool true) ∧ Below W.heap.size W W' := by
  have KLI := Lib.hid (lightIs ab ao c AL W hr hm (by omega))
  rw [hn] at KLI
  have KK0 := Lib.hid (fun w => knowsB w)
  have HR := Lib.hid hr
  have HN := Lib.hid hn
  obtain ⟨base, hbase⟩ : ∃ x, W.heap.size = x := ⟨_, rfl⟩
  have HAB : Hid (ab < base) := Lib.hid (by rw [← hbase]; exact hr.1)
  rw [hbase]
  have HSZ : Hid (W.heap.size ≤ base) := Lib.hid (by omega)
  have HB : Hid (base ≤ W.heap.size) := Lib.hid (by omega)
  clear hr hm hn hc hbase
  cases hlb : lightB AL with
  | false =>
    have HLB := Lib.hid hlb
    rw [hlb] at KLI
    clear hlb
    go_enter Try.func4, Try.ntmps4
    go_wp2_with fail
    refine KLI.out.mono ?_
    rintro e w1 ⟨rfl, rfl⟩
    go_wp2_with fail
    refine (KK0.out _).mono ?_
    rintro e w2 ⟨rfl, b2⟩
    have B2 := Lib.hid (b2.mono HB.out)
    clear b2
    go_wp2
    go_ret
    exact ⟨rfl, B2.out⟩
  | true =>
    have HLT := Lib.hid (lightB_each hlb).2
    have hn100 : n ≤ 100 := by have := (lightB_each hlb).1; rw [HN.out] at this; exact this
    rw [hlb] at KLI
    clear hlb
    go_enter Try.func4, Try.ntmps4
    go_wp2_with fail
    refine KLI.out.mono ?_
    rintro e w1 ⟨rfl, rfl⟩
    go_wp2_with fail
    refine (KK0.out _).mono ?_
    rintro e w2 ⟨rfl, b2⟩
    have B2 := Lib.hid (b2.mono HB.out)
    have HB2 := Lib.hid (Nat.le_trans HB.out b2.size)
    have KN := Lib.hid (newB 200 w2 base HB2.out)
    clear b2
    go_wp2_with fail
    refine KN.out.mono ?_
    rintro e w3 ⟨b, l, rfl, p3, b3⟩
    have J3 : Hid (JT base b l 0 (.slice none 0 0) w3) := Lib.hid ⟨_, [], [], p3, (fun p hp => by cases hp), ⟨rfl, World.ownsRow_nil _ _ _ _, fun q hq => by cases hq⟩⟩
    have B3 := Lib.hid (B2.out.trans (b3.mono HB2.out))
    clear p3 b3 KN
    go_wp2_with fail
    go_loopw [4, 5] (fun vq z wx => ∃ k m : Nat, z = .int .i64 k ∧ k ≤ n ∧ m ≤ k ∧ Hid (JT base b l m vq wx) ∧ Hid (Below base W wx)) (fun _ z _ => n - (intOf z).toNat)
    case atStart => exact ⟨0, 0, rfl, by omega, by omega, J3, B3⟩
    case round =>
      obtain ⟨k, m, rfl, hk, hmk, JJ, BB⟩ := hrel
      by_cases hkn : k < n
      · have HKN := Lib.hid hkn
        have hm100 : m ≤ 100 := by omega
        have hk1 : (k : Int) < (n : Int) := by omega
        have hk0 : (0 : Int) ≤ (k : Int) := by omega
        obtain ⟨u, hu⟩ : ∃ z : World, z = wr := ⟨_, rfl⟩
        subst hu
        obtain ⟨a, hx⟩ : ∃ a, AL[k]? = some a := ⟨_, List.getElem?_eq_getElem (by rw [HN.out]; exact hkn)⟩
        obtain ⟨hcell, hin, hok⟩ := HR.out.2 k _ hx
        have hlen := HLT.out a (List.mem_of_getElem? hx)
        obtain ⟨kd, ai, aat, am, ⟨⟨fn, fl, tn, tl, B, bad⟩, A1, xc⟩⟩ := a
        obtain ⟨q1, hq⟩ : ∃ q, B.length = q := ⟨_, rfl⟩
        have hrl : (Ac.mk kd ai aat am ⟨⟨fn, fl, tn, tl, B, bad⟩, A1, xc⟩).cs = (#[.int .i64 kd, .int .i64 ai, .int .i64 aat, .int .u32 am, .int .u8 fn, .int .u16 fl, .int .u8 tn, .int .u16 tl, .slice A1 q1 xc, .bool bad] : Array Value).toList := by unfold Ac.cs; simp only [hq]
        rw [hrl] at hcell
        have HBW : Hid (base ≤ u.heap.size) := Lib.hid (Nat.le_trans HB.out BB.out.size)
        have cst : ∀ j v, (#[.int .i64 kd, .int .i64 ai, .int .i64 aat, .int .u32 am, .int .u8 fn, .int .u16 fl, .int .u8 tn, .int .u16 tl, .slice A1 q1 xc, .bool bad] : Array Value).toList[j]? = some v → u.cell? ⟨ab, ao + k * 10 + j, none⟩ = some v := fun j v hj => (BB.out.cell (p := ⟨ab, _, none⟩) HAB.out).trans (hcell j v hj)
        have tt0 : u.cell? ⟨ab, ao + k * 10, none⟩ = some (.int .i64 kd) := cst 0 _ rfl
        have tt1 : u.cell? ⟨ab, ao + k * 10 + 1, none⟩ = some (.int .i64 ai) := cst 1 _ rfl
        have tt2 : u.cell? ⟨ab, ao + k * 10 + 2, none⟩ = some (.int .i64 aat) := cst 2 _ rfl
        have tt3 : u.cell? ⟨ab, ao + k * 10 + 3, none⟩ = some (.int .u32 am) := cst 3 _ rfl
        have tt4 : u.cell? ⟨ab, ao + k * 10 + 4, none⟩ = some (.int .u8 fn) := cst 4 _ rfl
        have tt5 : u.cell? ⟨ab, ao + k * 10 + 5, none⟩ = some (.int .u16 fl) := cst 5 _ rfl
        have tt6 : u.cell? ⟨ab, ao + k * 10 + 6, none⟩ = some (.int .u8 tn) := cst 6 _ rfl
        have tt7 : u.cell? ⟨ab, ao + k * 10 + 7, none⟩ = some (.int .u16 tl) := cst 7 _ rfl
        have tt8 : u.cell? ⟨ab, ao + k * 10 + 8, none⟩ = some (.slice A1 q1 xc) := cst 8 _ rfl
        have tt9 : u.cell? ⟨ab, ao + k * 10 + 9, none⟩ = some (.bool bad) := cst 9 _ rfl
        obtain ⟨w3, hw3⟩ : ∃ X, u.alloc (.cells #[.int .i64 kd, .int .i64 ai, .int .i64 aat, .int .u32 am, .int .u8 fn, .int .u16 fl, .int .u8 tn, .int .u16 tl, .slice A1 q1 xc, .bool false] 38) = X := ⟨_, rfl⟩
        have r3 : w3.heap[u.heap.size]? = some (.cells #[.int .i64 kd, .int .i64 ai, .int .i64 aat, .int .u32 am, .int .u8 fn, .int .u16 fl, .int .u8 tn, .int .u16 tl, .slice A1 q1 xc, .bool false] 38 (0, 0)) := by rw [← hw3]; exact heap_alloc_new _ _
        have s3 : Below u.heap.size u w3 := by rw [← hw3]; exact (Below.refl _ _).alloc (Nat.le_refl _) _
        have z3 : w3.heap.size = u.heap.size + 1 := by rw [← hw3]; simp
        obtain ⟨w4, hw4⟩ : ∃ X, w3.alloc (.cells #[.int .u8 0, .int .u16 0, .int .u8 0, .int .u16 0, .slice none 0 0, .bool false] 45) = X := ⟨_, rfl⟩
        have r4 : w4.heap[u.heap.size + 1]? = some (.cells #[.int .u8 0, .int .u16 0, .int .u8 0, .int .u16 0, .slice none 0 0, .bool false] 45 (0, 0)) := by rw [← hw4, ← z3]; exact heap_alloc_new _ _
        have s4 : Below w3.heap.size w3 w4 := by rw [← hw4]; exact (Below.refl _ _).alloc (Nat.le_refl _) _
        have q4 := (s4.block _ (Array.getElem?_eq_some_iff.1 r3).1).trans r3
        obtain ⟨v, L, Q, p0, t0, j0⟩ := JJ.out
        have P0 := Lib.hid p0
        have P4 := Lib.hid ((p0.below s3).below s4)
        have T4 := Lib.hid t0
        have J4 := Lib.hid ((j0.below s3 HBW.out).below s4 (Nat.le_trans HBW.out s3.size))
        have B4 := Lib.hid (BB.out.trans ((s3.mono HBW.out).trans (s4.mono (Nat.le_trans HBW.out s3.size))))
        have HB4 := Lib.hid (Nat.le_trans HB.out B4.out.size)
        have R4 := Lib.hid r4
        have Q4 := Lib.hid q4
        have HW4 : Hid ((u.alloc (.cells #[.int .i64 kd, .int .i64 ai, .int .i64 aat, .int .u32 am, .int .u8 fn, .int .u16 fl, .int .u8 tn, .int .u16 tl, .slice A1 q1 xc, .bool false] 38)).alloc (.cells #[.int .u8 0, .int .u16 0, .int .u8 0, .int .u16 0, .slice none 0 0, .bool false] 45) = w4) := Lib.hid (by rw [hw3]; exact hw4)
        have HOK := Lib.hid hok
        have HIN := Lib.hid (show BytesAt W base A1 B from hin.at_.up HSZ.out)
        have HNN := Lib.hid (show A1 = none → B.length = 0 ∧ xc = 0 from hin.nn)
        have HLEN := Lib.hid (show B.length ≤ 6000 from hlen)
        have HQ := Lib.hid hq
        clear hx hcell hin hok hlen hrl hq cst r3 r4 q4 s3 s4 z3 hw3 hw4 p0 t0 j0 hkn
        by_cases h01 : kd = 0 ∨ kd = 1
        · have KO := ownL (Lp.mk ⟨fn, fl, tn, tl, B, false⟩ A1 xc) w4 ((HIN.out.below B4.out (Nat.le_refl _) (Nat.le_refl _)).up HB4.out) (by show B.length ≤ _; have := HLEN.out; omega) HNN.out
          have hxf : (Lp.mk ⟨fn, fl, tn, tl, B, false⟩ A1 xc).cs = #[.int .u8 fn, .int .u16 fl, .int .u8 tn, .int .u16 tl, .slice A1 q1 xc, .bool false] := by unfold Lp.cs; simp only [HQ.out]
          rw [hxf] at KO
          have HXF := Lib.hid hxf
          have KO' := Lib.hid KO
          have c4 := cell_of Q4.out 4 (.int .u8 fn) rfl
          have c5 := cell_of Q4.out 5 (.int .u16 fl) rfl
          have c6 := cell_of Q4.out 6 (.int .u8 tn) rfl
          have c7 := cell_of Q4.out 7 (.int .u16 tl) rfl
          have c8 := cell_of Q4.out 8 (.slice A1 q1 xc) rfl
          have c9 := cell_of Q4.out 9 (.bool false) rfl
          clear KO hxf
          rcases h01 with rfl | rfl
          all_goals
            go_wp2_with fail
            rw [HW4.out]
            refine KO'.out.mono ?_
            rintro e w5 ⟨y, rfl, hy, ok5, b5⟩
            have P5 := Lib.hid (P4.out.below b5)
            have J5 := Lib.hid (J4.out.below b5 HB4.out)
            have B5 := Lib.hid (B4.out.trans (b5.mono HB4.out))
            have HB5 := Lib.hid (Nat.le_trans HB.out B5.out.size)
            have Q5 := Lib.hid ((b5.block _ (Array.getElem?_eq_some_iff.1 Q4.out).1).trans Q4.out)
            have KP := Lib.hid (putP y P5.out ok5.rd ok5.le ok5.mx)
            obtain ⟨ys, hys⟩ : ∃ ys, y.cs = ys := ⟨_, rfl⟩
            rw [hys] at KP ⊢
            obtain ⟨z, hz⟩ : ∃ z, (fPut 200 y.p (L.map Lp.p)).2 = z := ⟨_, rfl⟩
            rw [hz] at KP
            have HY := Lib.hid hy
            clear KO' hy ok5 b5 hys hz c4 c5 c6 c7 c8 c9
            go_wp2_with fail
            refine KP.out.mono ?_
            rintro e w6 ⟨rfl, v6, L6, p6, m6, -, k6⟩
            have hf := P5.out.far k6 HB5.out
            have P6 := Lib.hid p6
            have J6 := Lib.hid (J5.out.keep hf.1 fun k c hk => hf.2 k c _ hk (by decide) (by decide) (by decide))
            have B6 := Lib.hid (B5.out.trans hf.1)
            have HB6 := Lib.hid (Nat.le_trans HB.out B6.out.size)
            have Q6 := Lib.hid (hf.2 _ _ _ Q5.out (by decide) (by decide) (by decide))
            have T6 : Hid (Told (L6.map Lp.p) (Q ++ [Lp.mk ⟨fn, fl, tn, tl, B, false⟩ A1 xc])) := Lib.hid (by
              rw [m6, HY.out]
              exact T4.out.put (Lp.mk ⟨fn, fl, tn, tl, B, false⟩ A1 xc) rfl)
            have d4 := cell_of Q6.out 4 (.int .u8 fn) rfl
            have d5 := cell_of Q6.out 5 (.int .u16 fl) rfl
            have d6 := cell_of Q6.out 6 (.int .u8 tn) rfl
            have d7 := cell_of Q6.out 7 (.int .u16 tl) rfl
            have d8 := cell_of Q6.out 8 (.slice A1 q1 xc) rfl
            have d9 := cell_of Q6.out 9 (.bool false) rfl
            obtain ⟨w7, hw7⟩ : ∃ X, w6.alloc (.cells #[.int .u8 fn, .int .u16 fl, .int .u8 tn, .int .u16 tl, .slice A1 q1 xc, .bool false] 36) = X := ⟨_, rfl⟩
            have r7 : w7.heap[w6.heap.size]? = some (.cells #[.int .u8 fn, .int .u16 fl, .int .u8 tn, .int .u16 tl, .slice A1 q1 xc, .bool false] 36 (0, 0)) := by rw [← hw7]; exact heap_alloc_new _ _
            have b7 : Below w6.heap.size w6 w7 := by rw [← hw7]; exact (Below.refl _ _).alloc (Nat.le_refl _) _
            have P7 := Lib.hid (P6.out.below b7)
            have J7 := Lib.hid (J6.out.below b7 HB6.out)
            have B7 := Lib.hid (B6.out.trans (b7.mono HB6.out))
            have HB7 := Lib.hid (Nat.le_trans HB.out B7.out.size)
            have HW7 := Lib.hid hw7
            have HCELL : Hid (∀ j v, (cellsL [Lp.mk ⟨fn, fl, tn, tl, B, false⟩ A1 xc])[j]? = some v → w7.cell? ((⟨w6.heap.size, 0, none⟩ : Addr).add j) = some v) := Lib.hid (fun j v hu => by
              rw [addr_add, Nat.zero_add, cell_of_row _ _ j _ _ _ r7, ← HXF.out]
              simpa [cellsL] using hu)
            clear KP p6 m6 k6 hf r7 b7 hw7
            go_wp2_with (first
              | (rw [HW7.out])
              | (at_builtin
                 refine wpList_appD rfl 54 rfl (.tmp 50) (.tmp 53) rfl base _ m (cellsL Q) rfl J7.out.row ⟨w6.heap.size, 0, none⟩ [Lp.mk ⟨fn, fl, tn, tl, B, false⟩ A1 xc] 1 1 rfl rfl HCELL.out (by show m + 1 ≤ _; omega) HB7.out ?_
                 intro v8 w8 o8 g8
                 have js := jt_put P7.out T6.out J7.out HB7.out o8 g8 ⟨HIN.out.below B7.out (Nat.le_refl _) (Nat.le_refl _), HLEN.out⟩
                 have J8 := Lib.hid js.1
                 have B8 := Lib.hid (B7.out.trans js.2)
                 clear js o8 g8))
            go_roundw
            case rel => exact ⟨k + 1, m + 1, by go_num, by have := HKN.out; omega, by omega, J8, B8⟩
            case measure => have := HKN.out; simp [intOf]; omega
        by_cases h3 : kd = 3
        · subst h3
          have KT := Lib.hid (takeT ai P4.out HB4.out)
          have c1 := cell_of Q4.out 1 (.int .i64 ai) rfl
          obtain ⟨A9, c9, hvq⟩ := J4.out.slice
          subst hvq
          clear h01
          go_wp2_with fail
          rw [HW4.out]
          refine KT.out.mono ?_
          rintro e w5 ⟨y, z, v5, L5, rfl, hz, oky, p5, hsub, hown, k5⟩
          have hf := P4.out.far k5 HB4.out
          have r5 := (k5.block (u.heap.size + 1) (Array.getElem?_eq_some_iff.1 R4.out).1 fun hp => by have := P0.out.PS_lt hp; omega).trans R4.out
          have hvn : v5.ownBlock ≠ some (u.heap.size + 1) := fun e => by
            rw [hown] at e
            have := (P0.out.row.lt _ e).2
            omega
          obtain ⟨ys, hys⟩ : ∃ ys, y.cs = ys := ⟨_, rfl⟩
          rw [hys]
          have YS := Lib.hid hys
          obtain ⟨w6, hw6⟩ : ∃ X, w5.setRow (u.heap.size + 1) ys = X := ⟨_, rfl⟩
          have P6 : Hid (PB base w6 b l 200 v5 L5) := Lib.hid (by rw [← hw6]; exact p5.setBox r5 hvn ys)
          have B5 := Lib.hid (B4.out.trans hf.1)
          have hw3b : base ≤ u.heap.size + 1 := by have := HBW.out; omega
          have S6 : Hid (Below base w5 w6) := Lib.hid (by rw [← hw6]; exact below_row (Below.refl _ _) hw3b ys)
          have B6 := Lib.hid (B5.out.trans S6.out)
          have HB6 := Lib.hid (Nat.le_trans HB.out B6.out.size)
          have J6 := Lib.hid ((J4.out.keep hf.1 fun k c hk => hf.2 k c _ hk (by decide) (by decide) (by decide)).keep S6.out fun k c hk => by
            rw [← hw6]
            exact setRow_at hk (apart_of hk r5 (by decide)) _)
          have OY6 : Hid (y.Ok w6 base) := Lib.hid (oky.keep fun k cur _ _ _ hc => by
            rw [← hw6]
            exact setRow_at hc (apart_of hc r5 (by decide)) _)
          have RX6 : Hid (w6.heap[u.heap.size + 1]? = some (.cells ys 45 (0, 0))) := Lib.hid (by rw [← hw6]; exact setRow_heap _ _ _ _ _ _ r5)
          have R5 := Lib.hid r5
          have HW6 := Lib.hid hw6
          have T6 := Lib.hid (T4.out.sub hsub)
          have J6T : Hid (JT base b l m (.slice A9 m c9) w6) := Lib.hid ⟨v5, L5, Q, P6.out, T6.out, J6.out⟩
          clear KT oky p5 hsub hown k5 hf r5 hvn hys hw6 hw3b c1
          rcases hz with ⟨rfl, hmem⟩ | rfl
          · have hex : ∃ j0, ∃ h : j0 < Q.length, Like y.p Q[j0].p := by
              obtain ⟨q, hq, hl⟩ := T4.out _ hmem
              obtain ⟨j0, h, rfl⟩ := List.getElem_of_mem hq
              exact ⟨j0, h, hl⟩
            obtain ⟨j0, hj0, hlike⟩ := hex
            have HL := Lib.hid hlike
            have HJ0 := Lib.hid (show j0 < m by rw [← J6.out.len]; exact hj0)
            clear hmem
            go_wp2_with (refine wpList_store_row rfl 45 (.tmp 7) (.tmp 62) rfl (u.heap.size + 1) ys (by rfl) (by rfl) 45 #[.int .u8 0, .int .u16 0, .int .u8 0, .int .u16 0, .slice none 0 0, .bool false] R5.out (by rw [← YS.out]; kernel_rfl) (by rw [← YS.out]; rfl) (by rw [← YS.out]; simp [Lp.cs, Value.oneCell']) ?_; rw [HW6.out])
            refine (numE 0 _).mono ?_
            rintro e w' ⟨rfl, rfl⟩
            go_wp2_with fail
            go_loopw [9, 10] (fun f q wx => ∃ (fb : Bool) (j : Nat), f = .bool fb ∧ q = .int .i64 j ∧ j ≤ m ∧ Hid (fb = false → j ≤ j0) ∧ Hid (Below w6.heap.size w6 wx)) (fun _ q _ => m - (intOf q).toNat)
            case atStart => exact ⟨false, 0, rfl, rfl, by omega, Lib.hid fun _ => by omega, Lib.hid (Below.refl _ _)⟩
            case round =>
              obtain ⟨fb, j, rfl, rfl, hj, HJ, B7⟩ := hrel
              cases fb with
              | true =>
                have J7 := Lib.hid (J6T.out.below B7.out HB6.out)
                have B7a := Lib.hid (B6.out.trans (B7.out.mono HB6.out))
                by_cases hjm : j < m
                · have hj1 : (j : Int) < (m : Int) := by omega
                  clear hjm
                  go_wp2_with fail
                  go_roundw
                  case rel => exact ⟨k + 1, m, by go_num, by have := HKN.out; omega, by omega, J7, B7a⟩
                  case measure => have := HKN.out; simp [intOf]; omega
                · have hj1 : ¬ (j : Int) < (m : Int) := by omega
                  clear hjm
                  go_wp2_with fail
                  go_roundw
                  case rel => exact ⟨k + 1, m, by go_num, by have := HKN.out; omega, by omega, J7, B7a⟩
                  case measure => have := HKN.out; simp [intOf]; omega
              | false =>
                have hjm : j < m := by have h1 := HJ.out (by simp); have h2 := HJ0.out; omega
                have hj1 : (j : Int) < (m : Int) := by omega
                have hj2 : (0 : Int) ≤ (j : Int) := by omega
                have hjQ : j < Q.length := by rw [J6.out.len]; exact hjm
                obtain ⟨w7, hw7⟩ : ∃ X, wr.drew = X := ⟨_, rfl⟩
                have b7 : Below w6.heap.size w6 w7 := by rw [← hw7]; exact B7.out.drew
                have HW7 := Lib.hid hw7
                obtain ⟨gq, cq, hvq, six, hgl⟩ := (J6.out.below b7 HB6.out).at_ hjQ
                obtain ⟨rfl, rfl⟩ : A9 = some ⟨gq, 0, none⟩ ∧ c9 = cq := by simp at hvq; exact hvq
                have each := J6.out.each _ (List.getElem_mem hjQ)
                have hnl : j = j0 → Like y.p Q[j].p := fun e => by subst e; exact HL.out
                obtain ⟨qj, hqj⟩ : ∃ x, Q[j] = x := ⟨_, rfl⟩
                rw [hqj] at six each hnl
                have ey : BytesAt w7 w7.heap.size y.A y.p.B := (OY6.out.below b7).own.at_
                have eyl := OY6.out.len
                have eq7 : BytesAt w7 w7.heap.size qj.A qj.p.B := (each.1.below (b7.mono HB6.out) (Nat.le_refl _) (Nat.le_refl _)).up (Nat.le_trans HB6.out b7.size)
                have KD := Lib.hid (differsB qj.A y.A qj.p.B y.p.B qj.c y.c w7 eq7 ey each.2 eyl)
                obtain ⟨⟨g1, g2, g3, g4, YB, d1⟩, A5, x5⟩ := y
                obtain ⟨⟨f5, f6, f7, f8, QB, d2⟩, A2, x2⟩ := qj
                obtain ⟨q5, hq5⟩ : ∃ q, YB.length = q := ⟨_, rfl⟩
                obtain ⟨q2, hq2⟩ : ∃ q, QB.length = q := ⟨_, rfl⟩
                have hyr : ys = #[.int .u8 g1, .int .u16 g2, .int .u8 g3, .int .u16 g4, .slice A5 q5 x5, .bool d1] := by rw [← YS.out]; unfold Lp.cs; simp only [hq5]
                have hqr : (Lp.mk ⟨f5, f6, f7, f8, QB, d2⟩ A2 x2).cs = #[.int .u8 f5, .int .u16 f6, .int .u8 f7, .int .u16 f8, .slice A2 q2 x2, .bool d2] := by unfold Lp.cs; simp only [hq2]
                rw [hqr] at six
                simp only [hq5, hq2] at KD
                have rx7 := (b7.block _ (Array.getElem?_eq_some_iff.1 RX6.out).1).trans RX6.out
                rw [hyr] at rx7
                have HS : Six w7 gq (j * 6) #[.int .u8 f5, .int .u16 f6, .int .u8 f7, .int .u16 f8, .slice A2 q2 x2, .bool d2] ∧ w7.heap[u.heap.size + 1]? = some (.cells #[.int .u8 g1, .int .u16 g2, .int .u8 g3, .int .u16 g4, .slice A5 q5 x5, .bool d1] 45 (0, 0)) := ⟨six, rx7⟩
                have HS7 := Lib.hid HS
                have HNL := Lib.hid hnl
                have B7h := Lib.hid b7
                have HGL := Lib.hid hgl
                clear hw7 b7 six each hnl hqj ey eyl eq7 hyr hqr rx7 hvq hjQ hq5 hq2 hgl
                go_wp2_with fail
                refine region_heldT (S := fun X => Six X gq (j * 6) #[.int .u8 f5, .int .u16 f6, .int .u8 f7, .int .u16 f8, .slice A2 q2 x2, .bool d2] ∧ X.heap[u.heap.size + 1]? = some (.cells #[.int .u8 g1, .int .u16 g2, .int .u8 g3, .int .u16 g4, .slice A5 q5 x5, .bool d1] 45 (0, 0))) 8 (by kernel_rfl) (by decide) (fun inv => ?_)
                change FirstH _ _ _ _ _ _ _ _ _ _ wr.drew
                rw [HW7.out]
                refine FirstH.go (i := 0) (v := .slice (some ⟨gq, 0, none⟩) m c9) rfl rfl _ rfl _ rfl (by kernel_rfl) (fun _ _ _ h => h) inv (fun X _ => by unfold bareO; go_simp) HS (fun inv => ?_)
                try simp only [Act.put, List.setIfInBounds_toArray, List.set_cons_zero, List.set_cons_succ]
                refine FirstH.go (i := 1) (v := .int .i64 j) rfl rfl _ rfl _ rfl (by kernel_rfl) (fun _ _ _ h => h) inv (fun X _ => by unfold bareO; go_simp) HS (fun inv => ?_)
                try simp only [Act.put, List.setIfInBounds_toArray, List.set_cons_zero, List.set_cons_succ]
                refine FirstH.go (i := 2) (v := .pointer (some ⟨gq, j * 6, none⟩)) rfl rfl _ rfl _ rfl (by kernel_rfl) (fun _ _ _ h => h) inv (fun X _ => by unfold bareO; go_simp) HS (fun inv => ?_)
                try simp only [Act.put, List.setIfInBounds_toArray, List.set_cons_zero, List.set_cons_succ]
                refine FirstH.go (i := 3) (v := .pointer (some ⟨gq, j * 6 + 4, none⟩)) rfl rfl _ rfl _ rfl (by kernel_rfl) (fun _ _ _ h => h) inv (fun X _ => by unfold bareO; go_simp) HS (fun inv => ?_)
                try simp only [Act.put, List.setIfInBounds_toArray, List.set_cons_zero, List.set_cons_succ]
                refine FirstH.go (i := 4) (v := .slice A2 q2 x2) rfl rfl _ rfl _ rfl (by kernel_rfl) (fun _ _ _ h => h) inv (fun X hS => by obtain ⟨⟨e0, e1, e2, e3, e4, e5⟩, ry⟩ := hS; simp only [List.getElem?_toArray, List.getElem?_cons_zero, List.getElem?_cons_succ] at e0 e1 e2 e3 e4 e5; unfold bareO; go_simp) HS (fun inv => ?_)
                try simp only [Act.put, List.setIfInBounds_toArray, List.set_cons_zero, List.set_cons_succ]
                refine FirstH.go (i := 5) (v := .pointer (some ⟨u.heap.size + 1, 4, none⟩)) rfl rfl _ rfl _ rfl (by kernel_rfl) (fun _ _ _ h => h) inv (fun X _ => by unfold bareO; go_simp) HS (fun inv => ?_)
                try simp only [Act.put, List.setIfInBounds_toArray, List.set_cons_zero, List.set_cons_succ]
                refine FirstH.go (i := 6) (v := .slice A5 q5 x5) rfl rfl _ rfl _ rfl (by kernel_rfl) (fun _ _ _ h => h) inv (fun X hS => by have t4 := cell_of hS.2 4 (.slice A5 q5 x5) rfl; unfold bareO; go_simp) HS (fun inv => ?_)
                try simp only [Act.put, List.setIfInBounds_toArray, List.set_cons_zero, List.set_cons_succ]
                clear HS
                refine FirstH.only (i := 7) (by kernel_rfl) (by decide) inv (fun inv => wpOp_call (i := 7) rfl rfl 100 rfl _ rfl 22 #[.slice A2 q2 x2, .slice A5 q5 x5] (by unfold bareO; go_simp) KD.out ?_)
                rintro e w8 ⟨d, rfl, hd, b8⟩
                have b78 := B7h.out.trans (b8.mono B7h.out.size)
                have HS : Six w8 gq (j * 6) #[.int .u8 f5, .int .u16 f6, .int .u8 f7, .int .u16 f8, .slice A2 q2 x2, .bool d2] ∧ w8.heap[u.heap.size + 1]? = some (.cells #[.int .u8 g1, .int .u16 g2, .int .u8 g3, .int .u16 g4, .slice A5 q5 x5, .bool d1] 45 (0, 0)) := ⟨HS7.out.1.below b8 HGL.out, (b8.block _ (Array.getElem?_eq_some_iff.1 HS7.out.2).1).trans HS7.out.2⟩
                refine ⟨_, rfl, HS, ?_⟩
                try simp only [Act.put, List.setIfInBounds_toArray, List.set_cons_zero, List.set_cons_succ]
                refine ⟨by kernel_rfl, ?_⟩
                simp only [List.drop_succ_cons, List.drop_zero]
                have B8 := Lib.hid b78
                have HF : Hid (j = j0 → g1 = f5 ∧ g2 = f6 ∧ g3 = f7 ∧ g4 = f8 ∧ ((d = 0 ∧ d1 = false) ∨ (1 ≤ d ∧ d ≤ 4 ∧ d1 = true))) := Lib.hid fun e => like_facts (HNL.out e) hd
                have hdl : -1 ≤ d := hd.1
                have hdu : d ≤ 7000 := hd.2.1
                obtain ⟨⟨e0, e1, e2, e3, e4, e5⟩, rx8⟩ := HS
                simp only [List.getElem?_toArray, List.getElem?_cons_zero, List.getElem?_cons_succ] at e0 e1 e2 e3 e4 e5
                have k0 := cell_regrown e0
                have k1 := cell_regrown e1
                have k2 := cell_regrown e2
                have k3 := cell_regrown e3
                have y0 := cell_regrown (cell_of rx8 0 (.int .u8 g1) rfl)
                have y1 := cell_regrown (cell_of rx8 1 (.int .u16 g2) rfl)
                have y2 := cell_regrown (cell_of rx8 2 (.int .u8 g3) rfl)
                have y3 := cell_regrown (cell_of rx8 3 (.int .u16 g4) rfl)
                have y5 := cell_regrown (cell_of rx8 5 (.bool d1) rfl)
                have hE1 := fun w => eqRefPr g1 g2 f5 f6 w
                have hE2 := fun w => eqRefPr g3 g4 f7 f8 w
                obtain ⟨b1, hb1⟩ : ∃ x, (((g1 : Int) == f5) && ((g2 : Int) == f6)) = x := ⟨_, rfl⟩
                obtain ⟨b2, hb2⟩ : ∃ x, (((g3 : Int) == f7) && ((g4 : Int) == f8)) = x := ⟨_, rfl⟩
                rw [hb1] at hE1
                rw [hb2] at hE2
                have HB1 := Lib.hid hb1
                have HB2 := Lib.hid hb2
                clear hb1 hb2 e0 e1 e2 e3 e4 e5 rx8 hd b8 b78 HS7
                cases b1 with
                | false =>
                  go_wp2_with fail
                  refine wp_region_quiet_below (by kernel_rfl) (by kernel_rfl) ?_
                  repeat (go_big_quiet_step (first | (exact Calls.regrown_of (refProcB _ _ _)) | fail))
                  refine wpQuiet_nil ?_
                  intro W9 hW
                  obtain ⟨p9, rfl⟩ := hW
                  go_wp2
                  go_roundw
                  case rel => exact ⟨false, j + 1, rfl, by go_num, by omega, Lib.hid (fun _ => by have h1 := HJ.out (by simp); have h2 : ¬ j = j0 := (fun e => by obtain ⟨rfl, rfl, -⟩ := HF.out e; have := HB1.out; simp at this); omega), Lib.hid (B8.out.trans ((below_regrown _ _ _).mono B8.out.size))⟩
                  case measure => simp [intOf]; omega
                | true =>
                  cases b2 with
                  | false =>
                    go_wp2_with fail
                    refine wp_region_quiet_below (by kernel_rfl) (by kernel_rfl) ?_
                    repeat (go_big_quiet_step (first | (exact Calls.regrown_of (refProcB _ _ _)) | fail))
                    refine wpQuiet_nil ?_
                    intro W9 hW
                    obtain ⟨p9, rfl⟩ := hW
                    go_wp2
                    go_roundw
                    case rel => exact ⟨false, j + 1, rfl, by go_num, by omega, Lib.hid (fun _ => by have h1 := HJ.out (by simp); have h2 : ¬ j = j0 := (fun e => by obtain ⟨-, -, rfl, rfl, -⟩ := HF.out e; have := HB2.out; simp at this); omega), Lib.hid (B8.out.trans ((below_regrown _ _ _).mono B8.out.size))⟩
                    case measure => simp [intOf]; omega
                  | true =>
                    by_cases hd0 : d = 0
                    · subst hd0
                      cases d1 with
                      | false =>
                        go_wp2_with fail
                        refine wp_region_quiet_below (by kernel_rfl) (by kernel_rfl) ?_
                        repeat (go_big_quiet_step (first | (exact Calls.regrown_of (refProcB _ _ _)) | fail))
                        refine wpQuiet_nil ?_
                        intro W9 hW
                        obtain ⟨p9, rfl⟩ := hW
                        go_wp2
                        go_roundw
                        case rel => exact ⟨true, j + 1, rfl, by go_num, by omega, Lib.hid (fun h => by cases h), Lib.hid (B8.out.trans ((below_regrown _ _ _).mono B8.out.size))⟩
                        case measure => simp [intOf]; omega
                      | true =>
                        go_wp2_with fail
                        refine wp_region_quiet_below (by kernel_rfl) (by kernel_rfl) ?_
                        repeat (go_big_quiet_step (first | (exact Calls.regrown_of (refProcB _ _ _)) | fail))
                        refine wpQuiet_nil ?_
                        intro W9 hW
                        obtain ⟨p9, rfl⟩ := hW
                        go_wp2
                        go_roundw
                        case rel => exact ⟨false, j + 1, rfl, by go_num, by omega, Lib.hid (fun _ => by have h1 := HJ.out (by simp); have h2 : ¬ j = j0 := (fun e => by have := (HF.out e).2.2.2.2; simp at this); omega), Lib.hid (B8.out.trans ((below_regrown _ _ _).mono B8.out.size))⟩
                        case measure => simp [intOf]; omega
                    · have zz0 : (d == 0) = false := by simpa using hd0
                      have zz1 : decide (d = 0) = false := by simpa using hd0
                      by_cases hd1 : 1 ≤ d
                      · have zz2 : decide (1 ≤ d) = true := by simpa using hd1
                        have zz3 : decide (d ≥ 1) = true := by simpa using hd1
                        by_cases hd4 : d ≤ 4
                        · have zz4 : decide (d ≤ 4) = true := by simpa using hd4
                          cases d1 with
                          | false =>
                            go_wp2_with fail
                            refine wp_region_quiet_below (by kernel_rfl) (by kernel_rfl) ?_
                            repeat (go_big_quiet_step (first | (exact Calls.regrown_of (refProcB _ _ _)) | fail))
                            refine wpQuiet_nil ?_
                            intro W9 hW
                            obtain ⟨p9, rfl⟩ := hW
                            go_wp2
                            go_roundw
                            case rel => exact ⟨false, j + 1, rfl, by go_num, by omega, Lib.hid (fun _ => by have h1 := HJ.out (by simp); have h2 : ¬ j = j0 := (fun e => by have := (HF.out e).2.2.2.2; rcases this with h | h <;> simp at h; exact hd0 h); omega), Lib.hid (B8.out.trans ((below_regrown _ _ _).mono B8.out.size))⟩
                            case measure => simp [intOf]; omega
                          | true =>
                            go_wp2_with fail
                            refine wp_region_quiet_below (by kernel_rfl) (by kernel_rfl) ?_
                            repeat (go_big_quiet_step (first | (exact Calls.regrown_of (refProcB _ _ _)) | fail))
                            refine wpQuiet_nil ?_
                            intro W9 hW
                            obtain ⟨p9, rfl⟩ := hW
                            go_wp2
                            go_roundw
                            case rel => exact ⟨true, j + 1, rfl, by go_num, by omega, Lib.hid (fun h => by cases h), Lib.hid (B8.out.trans ((below_regrown _ _ _).mono B8.out.size))⟩
                            case measure => simp [intOf]; omega
                        · have hd5 : (4 : Int) < d := by omega
                          have zz4 : decide (d ≤ 4) = false := by simpa using hd5
                          go_wp2_with fail
                          refine wp_region_quiet_below (by kernel_rfl) (by kernel_rfl) ?_
                          repeat (go_big_quiet_step (first | (exact Calls.regrown_of (refProcB _ _ _)) | fail))
                          refine wpQuiet_nil ?_
                          intro W9 hW
                          obtain ⟨p9, rfl⟩ := hW
                          go_wp2
                          go_roundw
                          case rel => exact ⟨false, j + 1, rfl, by go_num, by omega, Lib.hid (fun _ => by have h1 := HJ.out (by simp); have h2 : ¬ j = j0 := (fun e => by have := (HF.out e).2.2.2.2; omega); omega), Lib.hid (B8.out.trans ((below_regrown _ _ _).mono B8.out.size))⟩
                          case measure => simp [intOf]; omega
                      · have hd6 : d < 1 := by omega
                        have zz2 : decide (1 ≤ d) = false := by simpa using hd6
                        have zz3 : decide (d ≥ 1) = false := by simpa using hd6
                        go_wp2_with fail
                        refine wp_region_quiet_below (by kernel_rfl) (by kernel_rfl) ?_
                        repeat (go_big_quiet_step (first | (exact Calls.regrown_of (refProcB _ _ _)) | fail))
                        refine wpQuiet_nil ?_
                        intro W9 hW
                        obtain ⟨p9, rfl⟩ := hW
                        go_wp2
                        go_roundw
                        case rel => exact ⟨false, j + 1, rfl, by go_num, by omega, Lib.hid (fun _ => by have h1 := HJ.out (by simp); have h2 : ¬ j = j0 := (fun e => by have := (HF.out e).2.2.2.2; omega); omega), Lib.hid (B8.out.trans ((below_regrown _ _ _).mono B8.out.size))⟩
                        case measure => simp [intOf]; omega
          · clear OY6
            have hm01 : m = 0 ∨ 0 < m := by omega
            go_wp2_with (refine wpList_store_row rfl 45 (.tmp 7) (.tmp 62) rfl (u.heap.size + 1) ys (by rfl) (by rfl) 45 #[.int .u8 0, .int .u16 0, .int .u8 0, .int .u16 0, .slice none 0 0, .bool false] R5.out (by rw [← YS.out]; kernel_rfl) (by rw [← YS.out]; rfl) (by rw [← YS.out]; simp [Lp.cs, Value.oneCell']) ?_; rw [HW6.out])
            refine (numE 3 _).mono ?_
            rintro e w' ⟨rfl, rfl⟩
            go_wp2_with fail
            go_loopw [9, 10] (fun f q wx => f = .bool true ∧ q = .int .i64 0 ∧ w6 = wx) (fun _ _ _ => 0)
            case atStart => exact ⟨rfl, rfl, rfl⟩
            case round =>
              obtain ⟨rfl, rfl, rfl⟩ := hrel
              rcases hm01 with rfl | hm01
              · go_wp2_with fail
                go_roundw
                case rel => exact ⟨k + 1, 0, by go_num, by have := HKN.out; omega, by omega, J6T, B6⟩
                case measure => have := HKN.out; simp [intOf]; omega
              · have hm02 : (0 : Int) < (m : Int) := by omega
                go_wp2_with fail
                go_roundw
                case rel => exact ⟨k + 1, m, by go_num, by have := HKN.out; omega, by omega, J6T, B6⟩
                case measure => have := HKN.out; simp [intOf]; omega
        by_cases h4 : kd = 4
        · subst h4
          have KT := Lib.hid (twiceP ai P4.out)
          have c1 := cell_of Q4.out 1 (.int .i64 ai) rfl
          clear h01 h3
          go_wp2_with fail
          rw [HW4.out]
          refine KT.out.mono ?_
          rintro e w5 ⟨rfl, s5⟩
          have js := jt_step P4.out s5 (T4.out.twice ai) J4.out HB4.out
          have J5 := Lib.hid js.1
          have B5 := Lib.hid (B4.out.trans js.2)
          clear js s5 KT c1
          go_wp2_with fail
          go_roundw
          case rel => exact ⟨k + 1, m, by go_num, by have := HKN.out; omega, by omega, J5, B5⟩
          case measure => have := HKN.out; simp [intOf]; omega
        by_cases h5 : kd = 5
        · subst h5
          have KT := Lib.hid (spoilP ai aat am P4.out HOK.out.2.2 HOK.out.2.1.1 HOK.out.2.1.2)
          have c1 := cell_of Q4.out 1 (.int .i64 ai) rfl
          have c2 := cell_of Q4.out 2 (.int .i64 aat) rfl
          have c3 := cell_of Q4.out 3 (.int .u32 am) rfl
          clear h01 h3 h4
          go_wp2_with fail
          rw [HW4.out]
          refine KT.out.mono ?_
          rintro e w5 ⟨rfl, s5⟩
          have js := jt_step P4.out s5 (T4.out.spoil ai aat am HOK.out.2.2) J4.out HB4.out
          have J5 := Lib.hid js.1
          have B5 := Lib.hid (B4.out.trans js.2)
          clear js s5 KT c1 c2 c3
          go_wp2_with fail
          go_roundw
          case rel => exact ⟨k + 1, m, by go_num, by have := HKN.out; omega, by omega, J5, B5⟩
          case measure => have := HKN.out; simp [intOf]; omega
        have h0 : ¬ kd = 0 := fun h => h01 (.inl h)
        have h1 : ¬ kd = 1 := fun h => h01 (.inr h)
        clear h01
        have KT := Lib.hid (lookT ai P4.out HB4.out)
        have c1 := cell_of Q4.out 1 (.int .i64 ai) rfl
        obtain ⟨A9, c9, hvq⟩ := J4.out.slice
        subst hvq
        go_wp2_with fail
        rw [HW4.out]
        refine KT.out.mono ?_
        rintro e w5 ⟨y, z, v5, L5, rfl, hz, oky, p5, hsub, hown, k5⟩
        have hf := P4.out.far k5 HB4.out
        have r5 := (k5.block (u.heap.size + 1) (Array.getElem?_eq_some_iff.1 R4.out).1 fun hp => by have := P0.out.PS_lt hp; omega).trans R4.out
        have hvn : v5.ownBlock ≠ some (u.heap.size + 1) := fun e => by
          rw [hown] at e
          have := (P0.out.row.lt _ e).2
          omega
        obtain ⟨ys, hys⟩ : ∃ ys, y.cs = ys := ⟨_, rfl⟩
        rw [hys]
        have YS := Lib.hid hys
        obtain ⟨w6, hw6⟩ : ∃ X, w5.setRow (u.heap.size + 1) ys = X := ⟨_, rfl⟩
        have P6 : Hid (PB base w6 b l 200 v5 L5) := Lib.hid (by rw [← hw6]; exact p5.setBox r5 hvn ys)
        have B5 := Lib.hid (B4.out.trans hf.1)
        have hw3b : base ≤ u.heap.size + 1 := by have := HBW.out; omega
        have S6 : Hid (Below base w5 w6) := Lib.hid (by rw [← hw6]; exact below_row (Below.refl _ _) hw3b ys)
        have B6 := Lib.hid (B5.out.trans S6.out)
        have HB6 := Lib.hid (Nat.le_trans HB.out B6.out.size)
        have J6 := Lib.hid ((J4.out.keep hf.1 fun k c hk => hf.2 k c _ hk (by decide) (by decide) (by decide)).keep S6.out fun k c hk => by
          rw [← hw6]
          exact setRow_at hk (apart_of hk r5 (by decide)) _)
        have OY6 : Hid (y.Ok w6 base) := Lib.hid (oky.keep fun k cur _ _ _ hc => by
          rw [← hw6]
          exact setRow_at hc (apart_of hc r5 (by decide)) _)
        have RX6 : Hid (w6.heap[u.heap.size + 1]? = some (.cells ys 45 (0, 0))) := Lib.hid (by rw [← hw6]; exact setRow_heap _ _ _ _ _ _ r5)
        have R5 := Lib.hid r5
        have HW6 := Lib.hid hw6
        have T6 := Lib.hid (T4.out.sub hsub)
        have J6T : Hid (JT base b l m (.slice A9 m c9) w6) := Lib.hid ⟨v5, L5, Q, P6.out, T6.out, J6.out⟩
        clear KT oky p5 hsub hown k5 hf r5 hvn hys hw6 hw3b c1
        rcases hz with ⟨rfl, hmem⟩ | rfl
        · have hex : ∃ j0, ∃ h : j0 < Q.length, Like y.p Q[j0].p := by
            obtain ⟨q, hq, hl⟩ := T4.out _ hmem
            obtain ⟨j0, h, rfl⟩ := List.getElem_of_mem hq
            exact ⟨j0, h, hl⟩
          obtain ⟨j0, hj0, hlike⟩ := hex
          have HL := Lib.hid hlike
          have HJ0 := Lib.hid (show j0 < m by rw [← J6.out.len]; exact hj0)
          clear hmem
          go_wp2_with (refine wpList_store_row rfl 45 (.tmp 7) (.tmp 40) rfl (u.heap.size + 1) ys (by rfl) (by rfl) 45 #[.int .u8 0, .int .u16 0, .int .u8 0, .int .u16 0, .slice none 0 0, .bool false] R5.out (by rw [← YS.out]; kernel_rfl) (by rw [← YS.out]; rfl) (by rw [← YS.out]; simp [Lp.cs, Value.oneCell']) ?_; rw [HW6.out])
          refine (numE 0 _).mono ?_
          rintro e w' ⟨rfl, rfl⟩
          go_wp2_with fail
          go_loopw [9, 10] (fun f q wx => ∃ (fb : Bool) (j : Nat), f = .bool fb ∧ q = .int .i64 j ∧ j ≤ m ∧ Hid (fb = false → j ≤ j0) ∧ Hid (Below w6.heap.size w6 wx)) (fun _ q _ => m - (intOf q).toNat)
          case atStart => exact ⟨false, 0, rfl, rfl, by omega, Lib.hid fun _ => by omega, Lib.hid (Below.refl _ _)⟩
          case round =>
            obtain ⟨fb, j, rfl, rfl, hj, HJ, B7⟩ := hrel
            cases fb with
            | true =>
              have J7 := Lib.hid (J6T.out.below B7.out HB6.out)
              have B7a := Lib.hid (B6.out.trans (B7.out.mono HB6.out))
              by_cases hjm : j < m
              · have hj1 : (j : Int) < (m : Int) := by omega
                clear hjm
                go_wp2_with fail
                go_roundw
                case rel => exact ⟨k + 1, m, by go_num, by have := HKN.out; omega, by omega, J7, B7a⟩
                case measure => have := HKN.out; simp [intOf]; omega
              · have hj1 : ¬ (j : Int) < (m : Int) := by omega
                clear hjm
                go_wp2_with fail
                go_roundw
                case rel => exact ⟨k + 1, m, by go_num, by have := HKN.out; omega, by omega, J7, B7a⟩
                case measure => have := HKN.out; simp [intOf]; omega
            | false =>
              have hjm : j < m := by have h1 := HJ.out (by simp); have h2 := HJ0.out; omega
              have hj1 : (j : Int) < (m : Int) := by omega
              have hj2 : (0 : Int) ≤ (j : Int) := by omega
              have hjQ : j < Q.length := by rw [J6.out.len]; exact hjm
              obtain ⟨w7, hw7⟩ : ∃ X, wr.drew = X := ⟨_, rfl⟩
              have b7 : Below w6.heap.size w6 w7 := by rw [← hw7]; exact B7.out.drew
              have HW7 := Lib.hid hw7
              obtain ⟨gq, cq, hvq, six, hgl⟩ := (J6.out.below b7 HB6.out).at_ hjQ
              obtain ⟨rfl, rfl⟩ : A9 = some ⟨gq, 0, none⟩ ∧ c9 = cq := by simp at hvq; exact hvq
              have each := J6.out.each _ (List.getElem_mem hjQ)
              have hnl : j = j0 → Like y.p Q[j].p := fun e => by subst e; exact HL.out
              obtain ⟨qj, hqj⟩ : ∃ x, Q[j] = x := ⟨_, rfl⟩
              rw [hqj] at six each hnl
              have ey : BytesAt w7 w7.heap.size y.A y.p.B := (OY6.out.below b7).own.at_
              have eyl := OY6.out.len
              have eq7 : BytesAt w7 w7.heap.size qj.A qj.p.B := (each.1.below (b7.mono HB6.out) (Nat.le_refl _) (Nat.le_refl _)).up (Nat.le_trans HB6.out b7.size)
              have KD := Lib.hid (differsB qj.A y.A qj.p.B y.p.B qj.c y.c w7 eq7 ey each.2 eyl)
              obtain ⟨⟨g1, g2, g3, g4, YB, d1⟩, A5, x5⟩ := y
              obtain ⟨⟨f5, f6, f7, f8, QB, d2⟩, A2, x2⟩ := qj
              obtain ⟨q5, hq5⟩ : ∃ q, YB.length = q := ⟨_, rfl⟩
              obtain ⟨q2, hq2⟩ : ∃ q, QB.length = q := ⟨_, rfl⟩
              have hyr : ys = #[.int .u8 g1, .int .u16 g2, .int .u8 g3, .int .u16 g4, .slice A5 q5 x5, .bool d1] := by rw [← YS.out]; unfold Lp.cs; simp only [hq5]
              have hqr : (Lp.mk ⟨f5, f6, f7, f8, QB, d2⟩ A2 x2).cs = #[.int .u8 f5, .int .u16 f6, .int .u8 f7, .int .u16 f8, .slice A2 q2 x2, .bool d2] := by unfold Lp.cs; simp only [hq2]
              rw [hqr] at six
              simp only [hq5, hq2] at KD
              have rx7 := (b7.block _ (Array.getElem?_eq_some_iff.1 RX6.out).1).trans RX6.out
              rw [hyr] at rx7
              have HS : Six w7 gq (j * 6) #[.int .u8 f5, .int .u16 f6, .int .u8 f7, .int .u16 f8, .slice A2 q2 x2, .bool d2] ∧ w7.heap[u.heap.size + 1]? = some (.cells #[.int .u8 g1, .int .u16 g2, .int .u8 g3, .int .u16 g4, .slice A5 q5 x5, .bool d1] 45 (0, 0)) := ⟨six, rx7⟩
              have HS7 := Lib.hid HS
              have HNL := Lib.hid hnl
              have B7h := Lib.hid b7
              have HGL := Lib.hid hgl
              clear hw7 b7 six each hnl hqj ey eyl eq7 hyr hqr rx7 hvq hjQ hq5 hq2 hgl
              go_wp2_with fail
              refine region_heldT (S := fun X => Six X gq (j * 6) #[.int .u8 f5, .int .u16 f6, .int .u8 f7, .int .u16 f8, .slice A2 q2 x2, .bool d2] ∧ X.heap[u.heap.size + 1]? = some (.cells #[.int .u8 g1, .int .u16 g2, .int .u8 g3, .int .u16 g4, .slice A5 q5 x5, .bool d1] 45 (0, 0))) 8 (by kernel_rfl) (by decide) (fun inv => ?_)
              change FirstH _ _ _ _ _ _ _ _ _ _ wr.drew
              rw [HW7.out]
              refine FirstH.go (i := 0) (v := .slice (some ⟨gq, 0, none⟩) m c9) rfl rfl _ rfl _ rfl (by kernel_rfl) (fun _ _ _ h => h) inv (fun X _ => by unfold bareO; go_simp) HS (fun inv => ?_)
              try simp only [Act.put, List.setIfInBounds_toArray, List.set_cons_zero, List.set_cons_succ]
              refine FirstH.go (i := 1) (v := .int .i64 j) rfl rfl _ rfl _ rfl (by kernel_rfl) (fun _ _ _ h => h) inv (fun X _ => by unfold bareO; go_simp) HS (fun inv => ?_)
              try simp only [Act.put, List.setIfInBounds_toArray, List.set_cons_zero, List.set_cons_succ]
              refine FirstH.go (i := 2) (v := .pointer (some ⟨gq, j * 6, none⟩)) rfl rfl _ rfl _ rfl (by kernel_rfl) (fun _ _ _ h => h) inv (fun X _ => by unfold bareO; go_simp) HS (fun inv => ?_)
              try simp only [Act.put, List.setIfInBounds_toArray, List.set_cons_zero, List.set_cons_succ]
              refine FirstH.go (i := 3) (v := .pointer (some ⟨gq, j * 6 + 4, none⟩)) rfl rfl _ rfl _ rfl (by kernel_rfl) (fun _ _ _ h => h) inv (fun X _ => by unfold bareO; go_simp) HS (fun inv => ?_)
              try simp only [Act.put, List.setIfInBounds_toArray, List.set_cons_zero, List.set_cons_succ]
              refine FirstH.go (i := 4) (v := .slice A2 q2 x2) rfl rfl _ rfl _ rfl (by kernel_rfl) (fun _ _ _ h => h) inv (fun X hS => by obtain ⟨⟨e0, e1, e2, e3, e4, e5⟩, ry⟩ := hS; simp only [List.getElem?_toArray, List.getElem?_cons_zero, List.getElem?_cons_succ] at e0 e1 e2 e3 e4 e5; unfold bareO; go_simp) HS (fun inv => ?_)
              try simp only [Act.put, List.setIfInBounds_toArray, List.set_cons_zero, List.set_cons_succ]
              refine FirstH.go (i := 5) (v := .pointer (some ⟨u.heap.size + 1, 4, none⟩)) rfl rfl _ rfl _ rfl (by kernel_rfl) (fun _ _ _ h => h) inv (fun X _ => by unfold bareO; go_simp) HS (fun inv => ?_)
              try simp only [Act.put, List.setIfInBounds_toArray, List.set_cons_zero, List.set_cons_succ]
              refine FirstH.go (i := 6) (v := .slice A5 q5 x5) rfl rfl _ rfl _ rfl (by kernel_rfl) (fun _ _ _ h => h) inv (fun X hS => by have t4 := cell_of hS.2 4 (.slice A5 q5 x5) rfl; unfold bareO; go_simp) HS (fun inv => ?_)
              try simp only [Act.put, List.setIfInBounds_toArray, List.set_cons_zero, List.set_cons_succ]
              clear HS
              refine FirstH.only (i := 7) (by kernel_rfl) (by decide) inv (fun inv => wpOp_call (i := 7) rfl rfl 100 rfl _ rfl 22 #[.slice A2 q2 x2, .slice A5 q5 x5] (by unfold bareO; go_simp) KD.out ?_)
              rintro e w8 ⟨d, rfl, hd, b8⟩
              have b78 := B7h.out.trans (b8.mono B7h.out.size)
              have HS : Six w8 gq (j * 6) #[.int .u8 f5, .int .u16 f6, .int .u8 f7, .int .u16 f8, .slice A2 q2 x2, .bool d2] ∧ w8.heap[u.heap.size + 1]? = some (.cells #[.int .u8 g1, .int .u16 g2, .int .u8 g3, .int .u16 g4, .slice A5 q5 x5, .bool d1] 45 (0, 0)) := ⟨HS7.out.1.below b8 HGL.out, (b8.block _ (Array.getElem?_eq_some_iff.1 HS7.out.2).1).trans HS7.out.2⟩
              refine ⟨_, rfl, HS, ?_⟩
              try simp only [Act.put, List.setIfInBounds_toArray, List.set_cons_zero, List.set_cons_succ]
              refine ⟨by kernel_rfl, ?_⟩
              simp only [List.drop_succ_cons, List.drop_zero]
              have B8 := Lib.hid b78
              have HF : Hid (j = j0 → g1 = f5 ∧ g2 = f6 ∧ g3 = f7 ∧ g4 = f8 ∧ ((d = 0 ∧ d1 = false) ∨ (1 ≤ d ∧ d ≤ 4 ∧ d1 = true))) := Lib.hid fun e => like_facts (HNL.out e) hd
              have hdl : -1 ≤ d := hd.1
              have hdu : d ≤ 7000 := hd.2.1
              obtain ⟨⟨e0, e1, e2, e3, e4, e5⟩, rx8⟩ := HS
              simp only [List.getElem?_toArray, List.getElem?_cons_zero, List.getElem?_cons_succ] at e0 e1 e2 e3 e4 e5
              have k0 := cell_regrown e0
              have k1 := cell_regrown e1
              have k2 := cell_regrown e2
              have k3 := cell_regrown e3
              have y0 := cell_regrown (cell_of rx8 0 (.int .u8 g1) rfl)
              have y1 := cell_regrown (cell_of rx8 1 (.int .u16 g2) rfl)
              have y2 := cell_regrown (cell_of rx8 2 (.int .u8 g3) rfl)
              have y3 := cell_regrown (cell_of rx8 3 (.int .u16 g4) rfl)
              have y5 := cell_regrown (cell_of rx8 5 (.bool d1) rfl)
              have hE1 := fun w => eqRefPr g1 g2 f5 f6 w
              have hE2 := fun w => eqRefPr g3 g4 f7 f8 w
              obtain ⟨b1, hb1⟩ : ∃ x, (((g1 : Int) == f5) && ((g2 : Int) == f6)) = x := ⟨_, rfl⟩
              obtain ⟨b2, hb2⟩ : ∃ x, (((g3 : Int) == f7) && ((g4 : Int) == f8)) = x := ⟨_, rfl⟩
              rw [hb1] at hE1
              rw [hb2] at hE2
              have HB1 := Lib.hid hb1
              have HB2 := Lib.hid hb2
              clear hb1 hb2 e0 e1 e2 e3 e4 e5 rx8 hd b8 b78 HS7
              cases b1 with
              | false =>
                go_wp2_with fail
                refine wp_region_quiet_below (by kernel_rfl) (by kernel_rfl) ?_
                repeat (go_big_quiet_step (first | (exact Calls.regrown_of (refProcB _ _ _)) | fail))
                refine wpQuiet_nil ?_
                intro W9 hW
                obtain ⟨p9, rfl⟩ := hW
                go_wp2
                go_roundw
                case rel => exact ⟨false, j + 1, rfl, by go_num, by omega, Lib.hid (fun _ => by have h1 := HJ.out (by simp); have h2 : ¬ j = j0 := (fun e => by obtain ⟨rfl, rfl, -⟩ := HF.out e; have := HB1.out; simp at this); omega), Lib.hid (B8.out.trans ((below_regrown _ _ _).mono B8.out.size))⟩
                case measure => simp [intOf]; omega
              | true =>
                cases b2 with
                | false =>
                  go_wp2_with fail
                  refine wp_region_quiet_below (by kernel_rfl) (by kernel_rfl) ?_
                  repeat (go_big_quiet_step (first | (exact Calls.regrown_of (refProcB _ _ _)) | fail))
                  refine wpQuiet_nil ?_
                  intro W9 hW
                  obtain ⟨p9, rfl⟩ := hW
                  go_wp2
                  go_roundw
                  case rel => exact ⟨false, j + 1, rfl, by go_num, by omega, Lib.hid (fun _ => by have h1 := HJ.out (by simp); have h2 : ¬ j = j0 := (fun e => by obtain ⟨-, -, rfl, rfl, -⟩ := HF.out e; have := HB2.out; simp at this); omega), Lib.hid (B8.out.trans ((below_regrown _ _ _).mono B8.out.size))⟩
                  case measure => simp [intOf]; omega
                | true =>
                  by_cases hd0 : d = 0
                  · subst hd0
                    cases d1 with
                    | false =>
                      go_wp2_with fail
                      refine wp_region_quiet_below (by kernel_rfl) (by kernel_rfl) ?_
                      repeat (go_big_quiet_step (first | (exact Calls.regrown_of (refProcB _ _ _)) | fail))
                      refine wpQuiet_nil ?_
                      intro W9 hW
                      obtain ⟨p9, rfl⟩ := hW
                      go_wp2
                      go_roundw
                      case rel => exact ⟨true, j + 1, rfl, by go_num, by omega, Lib.hid (fun h => by cases h), Lib.hid (B8.out.trans ((below_regrown _ _ _).mono B8.out.size))⟩
                      case measure => simp [intOf]; omega
                    | true =>
                      go_wp2_with fail
                      refine wp_region_quiet_below (by kernel_rfl) (by kernel_rfl) ?_
                      repeat (go_big_quiet_step (first | (exact Calls.regrown_of (refProcB _ _ _)) | fail))
                      refine wpQuiet_nil ?_
                      intro W9 hW
                      obtain ⟨p9, rfl⟩ := hW
                      go_wp2
                      go_roundw
                      case rel => exact ⟨false, j + 1, rfl, by go_num, by omega, Lib.hid (fun _ => by have h1 := HJ.out (by simp); have h2 : ¬ j = j0 := (fun e => by have := (HF.out e).2.2.2.2; simp at this); omega), Lib.hid (B8.out.trans ((below_regrown _ _ _).mono B8.out.size))⟩
                      case measure => simp [intOf]; omega
                  · have zz0 : (d == 0) = false := by simpa using hd0
                    have zz1 : decide (d = 0) = false := by simpa using hd0
                    by_cases hd1 : 1 ≤ d
                    · have zz2 : decide (1 ≤ d) = true := by simpa using hd1
                      have zz3 : decide (d ≥ 1) = true := by simpa using hd1
                      by_cases hd4 : d ≤ 4
                      · have zz4 : decide (d ≤ 4) = true := by simpa using hd4
                        cases d1 with
                        | false =>
                          go_wp2_with fail
                          refine wp_region_quiet_below (by kernel_rfl) (by kernel_rfl) ?_
                          repeat (go_big_quiet_step (first | (exact Calls.regrown_of (refProcB _ _ _)) | fail))
                          refine wpQuiet_nil ?_
                          intro W9 hW
                          obtain ⟨p9, rfl⟩ := hW
                          go_wp2
                          go_roundw
                          case rel => exact ⟨false, j + 1, rfl, by go_num, by omega, Lib.hid (fun _ => by have h1 := HJ.out (by simp); have h2 : ¬ j = j0 := (fun e => by have := (HF.out e).2.2.2.2; rcases this with h | h <;> simp at h; exact hd0 h); omega), Lib.hid (B8.out.trans ((below_regrown _ _ _).mono B8.out.size))⟩
                          case measure => simp [intOf]; omega
                        | true =>
                          go_wp2_with fail
                          refine wp_region_quiet_below (by kernel_rfl) (by kernel_rfl) ?_
                          repeat (go_big_quiet_step (first | (exact Calls.regrown_of (refProcB _ _ _)) | fail))
                          refine wpQuiet_nil ?_
                          intro W9 hW
                          obtain ⟨p9, rfl⟩ := hW
                          go_wp2
                          go_roundw
                          case rel => exact ⟨true, j + 1, rfl, by go_num, by omega, Lib.hid (fun h => by cases h), Lib.hid (B8.out.trans ((below_regrown _ _ _).mono B8.out.size))⟩
                          case measure => simp [intOf]; omega
                      · have hd5 : (4 : Int) < d := by omega
                        have zz4 : decide (d ≤ 4) = false := by simpa using hd5
                        go_wp2_with fail
                        refine wp_region_quiet_below (by kernel_rfl) (by kernel_rfl) ?_
                        repeat (go_big_quiet_step (first | (exact Calls.regrown_of (refProcB _ _ _)) | fail))
                        refine wpQuiet_nil ?_
                        intro W9 hW
                        obtain ⟨p9, rfl⟩ := hW
                        go_wp2
                        go_roundw
                        case rel => exact ⟨false, j + 1, rfl, by go_num, by omega, Lib.hid (fun _ => by have h1 := HJ.out (by simp); have h2 : ¬ j = j0 := (fun e => by have := (HF.out e).2.2.2.2; omega); omega), Lib.hid (B8.out.trans ((below_regrown _ _ _).mono B8.out.size))⟩
                        case measure => simp [intOf]; omega
                    · have hd6 : d < 1 := by omega
                      have zz2 : decide (1 ≤ d) = false := by simpa using hd6
                      have zz3 : decide (d ≥ 1) = false := by simpa using hd6
                      go_wp2_with fail
                      refine wp_region_quiet_below (by kernel_rfl) (by kernel_rfl) ?_
                      repeat (go_big_quiet_step (first | (exact Calls.regrown_of (refProcB _ _ _)) | fail))
                      refine wpQuiet_nil ?_
                      intro W9 hW
                      obtain ⟨p9, rfl⟩ := hW
                      go_wp2
                      go_roundw
                      case rel => exact ⟨false, j + 1, rfl, by go_num, by omega, Lib.hid (fun _ => by have h1 := HJ.out (by simp); have h2 : ¬ j = j0 := (fun e => by have := (HF.out e).2.2.2.2; omega); omega), Lib.hid (B8.out.trans ((below_regrown _ _ _).mono B8.out.size))⟩
                      case measure => simp [intOf]; omega
        · clear OY6
          have hm01 : m = 0 ∨ 0 < m := by omega
          go_wp2_with (refine wpList_store_row rfl 45 (.tmp 7) (.tmp 40) rfl (u.heap.size + 1) ys (by rfl) (by rfl) 45 #[.int .u8 0, .int .u16 0, .int .u8 0, .int .u16 0, .slice none 0 0, .bool false] R5.out (by rw [← YS.out]; kernel_rfl) (by rw [← YS.out]; rfl) (by rw [← YS.out]; simp [Lp.cs, Value.oneCell']) ?_; rw [HW6.out])
          refine (numE 3 _).mono ?_
          rintro e w' ⟨rfl, rfl⟩
          go_wp2_with fail
          go_loopw [9, 10] (fun f q wx => f = .bool true ∧ q = .int .i64 0 ∧ w6 = wx) (fun _ _ _ => 0)
          case atStart => exact ⟨rfl, rfl, rfl⟩
          case round =>
            obtain ⟨rfl, rfl, rfl⟩ := hrel
            rcases hm01 with rfl | hm01
            · go_wp2_with fail
              go_roundw
              case rel => exact ⟨k + 1, 0, by go_num, by have := HKN.out; omega, by omega, J6T, B6⟩
              case measure => have := HKN.out; simp [intOf]; omega
            · have hm02 : (0 : Int) < (m : Int) := by omega
              go_wp2_with fail
              go_roundw
              case rel => exact ⟨k + 1, m, by go_num, by have := HKN.out; omega, by omega, J6T, B6⟩
              case measure => have := HKN.out; simp [intOf]; omega
      · obtain rfl : n = k := by omega
        have hk1 : ¬ (n : Int) < (n : Int) := by omega
        go_wp2
        go_ret
        exact ⟨rfl, BB.out⟩

end Go.Proofs.Yteaafpgkifmdeaa
