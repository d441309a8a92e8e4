/-
  The law PactEnds walked: it answers true. Condition: the steps lie in memory.
-/
import Derived.Test.YtfkmodmgihadkaaGzk
import Derived.Deep.MidRow
import Derived.LoopN
import Derived.Deep.WholeRow
import Derived.Lib.QuietBelow
namespace Go.Proofs.Ytfkmodmgihadkaa
set_option linter.unusedSimpArgs false
set_option linter.unusedVariables false
open Go.RowKit Go.Maps Go.Sort
open V (P2)

open Z (up up_same up_ne)
set_option maxRecDepth 100000 in
set_option maxHeartbeats 2000000 in
theorem missN2 (base : Nat) (W : World) (b m : Nat) (d : Pd) (h : PP base W b m d) (h2 : d.ph = 2) :
    Calls Try.prog 12 #[.pointer (some ⟨b, 0, none⟩)] W fun e W' => e = .returned (.slice none 0 0) ∧ Below W.heap.size W W' := by
  have K1 := Lib.hid (pMade base W b m d h)
  obtain ⟨w, h⟩ := h
  have c4 := cell_of h.blk 4 (.int .i64 2) (by rw [← h2]; rfl)
  clear h h2
  go_enter Try.func12, Try.ntmps12
  go_wp2_with (first
      | (go_at_call 24; refine K1.out.mono ?_; rintro e w1 ⟨rfl, rfl⟩)
      | fail)
  go_ret
  exact ⟨rfl, Below.refl _ _⟩
theorem xi_self {n i x : Nat} (h : i < n) (e : ((i : Int).tmod n + n).tmod n = (x : Int)) : x = i := by
  have := rem_self h
  omega
theorem PInv.madeN {n : Nat} {A : Nat → Ad} {Q : Nat → Option Pd} {v : Nat → VD} {w : Nat → Bool} {top : Nat} {g : Z.Xg VD} (h : PInv n A Q v w top g) : ∀ i, i < n → (A i).made = true := h.made
set_option maxRecDepth 100000 in
set_option maxHeartbeats 8000000 in
theorem walkPE (z : Int) (A0 : Option Addr) (L : List St5) (c0 : Nat) (wish : Int) (W : World) (lc0 : L.length ≤ c0 ∧ c0 ≤ maxLen) (h0 : arg_stepsQ W A0 L) :
    Calls Try.prog 4 #[.int .i64 z, .slice A0 L.length c0, .int .i64 wish] W fun e W' => e = .returned (.bool true) ∧ Below W.heap.size W W' := by
  have KK := Lib.hid (fun w => knowsC w)
  have I0 := Lib.hid (fun (X : World) (hb : Below W.heap.size W X) (i : Nat) (a : St5) (ha : L[i]? = some a) => steps_at h0 hb ha)
  have LC := Lib.hid (show L.length ≤ c0 ∧ c0 ≤ maxLen from lc0)
  clear h0 lc0
  obtain ⟨n, hn⟩ : ∃ n, L.length = n := ⟨_, rfl⟩
  have HN := Lib.hid hn
  rw [hn]
  clear hn
  obtain ⟨base, hb⟩ : ∃ z, W.heap.size = z := ⟨_, rfl⟩
  have HBS := Lib.hid hb
  rw [hb] at I0 ⊢
  have B0 : Hid (Below base W W) := Lib.hid (hb ▸ Below.refl _ _)
  clear hb
  by_cases hL : 60 < n
  · have g1 : (60 : Int) < (n : Int) := by omega
    go_enter Try.func4, Try.ntmps4
    go_wp2_with fail
    refine (KK.out _).mono ?_
    rintro e W2 ⟨rfl, b2⟩
    have B2 := Lib.hid (HBS.out ▸ b2 : Below base W W2)
    clear b2
    go_wp2
    go_ret
    exact ⟨rfl, B2.out⟩
  have g1 : ¬ (60 : Int) < (n : Int) := by omega
  have HCAP : Hid (n ≤ 60) := Lib.hid (by omega)
  go_enter Try.func4, Try.ntmps4
  go_wp2_with fail
  refine (KK.out _).mono ?_
  rintro e W1 ⟨rfl, b1⟩
  have B1 := Lib.hid (HBS.out ▸ b1 : Below base W W1)
  obtain ⟨bf, hbf⟩ : ∃ q, W1.heap.size = q := ⟨_, rfl⟩
  have SB : Hid (base ≤ bf) := Lib.hid (by have := B1.out.size; have := HBS.out; omega)
  obtain ⟨r5, z5, hr5, hz5a, hz5b, hz5, hzn⟩ := rem_in' z 5 (by decide)
  have hr5' : z.tmod 5 = r5 := hr5
  have hz5' : (r5 + 5).tmod 5 = (z5 : Int) := hz5
  obtain ⟨nn, hnn⟩ : ∃ q, 1 + z5 = q := ⟨_, rfl⟩
  have hz5a' : -5 < r5 := hz5a
  have hz5b' : r5 < 5 := hz5b
  have hv1 : IntKind.i64.wrap r5 = r5 := wrapI (by omega) (by omega)
  have hv2 : IntKind.i64.wrap (r5 + 5) = r5 + 5 := wrapI (by omega) (by omega)
  have hv3 : IntKind.i64.wrap (z5 : Int) = (z5 : Int) := wrapI (by omega) (by omega)
  have hv4 : IntKind.i64.wrap (1 + (z5 : Int)) = (nn : Int) := by rw [wrapI (by omega) (by omega)]; omega
  have NN : Hid (0 < nn ∧ nn ≤ 5) := Lib.hid (by omega)
  obtain ⟨W2, hw2⟩ : ∃ q, W1.alloc (.cells (rowM nn (fun _ => 0) 0) 36) = q := ⟨_, rfl⟩
  have b2 : Below W1.heap.size W1 W2 := by rw [← hw2]; exact (Below.refl _ _).alloc (Nat.le_refl _) _
  have M2 : Hid (MkA bf bf W2 nn (fun _ => 0) 0) := Lib.hid ⟨by rw [← hw2, ← hbf]; exact heap_alloc_new _ _, fun i hi => absurd hi (Nat.not_lt_zero _), fun i k hi => absurd hi (Nat.not_lt_zero _), Nat.le_refl _, fun i hi => absurd hi (Nat.not_lt_zero _)⟩
  have B2 := Lib.hid (B1.out.trans (b2.mono (by rw [hbf]; exact SB.out)))
  have S2 : Hid (bf ≤ W2.heap.size) := Lib.hid (by rw [← hbf]; exact b2.size)
  have HW2 := Lib.hid hw2
  have HBF := Lib.hid hbf
  clear b1 hr5 hz5 hz5a hz5b hzn hnn b2 hw2 hbf hL
  go_wp2_with (first
    | (refine wpList_bd rfl 36 _ rfl (rowM nn (fun _ => 0) 0) (by kernel_rfl) ?_)
    | (refine wpList_bx rfl 36 (.tmp 32) rfl 33 rfl (rowM nn (fun _ => 0) 0) rfl ?_; rw [HW2.out, HBF.out])
    | fail)
  clear hr5' hz5' hz5a' hz5b' hv1 hv2 hv3 hv4
  go_loopw [8] (fun i wx => ∃ (j : Nat) (ab : Nat → Nat), i = .int .i64 j ∧ j ≤ 5 ∧ Hid (MkA bf bf wx nn ab j) ∧ Hid (Below base W wx) ∧ Hid (bf ≤ wx.heap.size)) (fun i _ => 5 - (intOf i).toNat)
  case atStart => exact ⟨0, fun _ => 0, rfl, by omega, M2, B2, S2⟩
  clear M2 B2 S2
  case round =>
    obtain ⟨j, ab, rfl, hj, MM, BB, SS⟩ := hrel
    by_cases hlt : j < 5
    · as_aux_lemma =>
      skip
      have l1 : (j : Int) < 5 := by omega
      have HJ := Lib.hid hlt
      have Rd : Hid (wr.drew.heap[bf]? = some (.cells (rowM nn ab j) 36 (0, 0))) := Lib.hid MM.out.fld
      have KN := Lib.hid (newA wr.drew)
      have HDS : Hid (wr.drew.heap.size = wr.heap.size) := Lib.hid rfl
      clear hj hlt
      go_wp2_with fail
      refine region_heldT (S := fun u => u.heap[bf]? = some (.cells (rowM nn ab j) 36 (0, 0))) 5 (by kernel_rfl) (by decide) (fun inv => ?_)
      have HS := Rd.out
      change FirstH _ _ _ _ _ _ _ _ _ _ wr.drew
      have MD : Hid (MkA bf bf wr.drew nn ab j) := Lib.hid ⟨MM.out.fld, fun i hi => (MM.out.acc i hi).below (Below.refl _ _).drew, MM.out.da, MM.out.lo⟩
      have BD : Hid (Below base W wr.drew) := Lib.hid BB.out.drew
      have SD : Hid (bf ≤ wr.drew.heap.size) := Lib.hid SS.out
      generalize wr.drew = y0 at *
      refine FirstH.go (i := 0) (v := .pointer (some ⟨bf, 0, none⟩)) rfl rfl 38 rfl (Op.move (Operand.tmp 7)) rfl (by kernel_rfl) (fun _ _ _ h => h) inv (fun W hS => by unfold bareO; go_simp) HS (fun inv => ?_)
      try simp only [Act.put, List.setIfInBounds_toArray, List.set_cons_zero, List.set_cons_succ]
      refine FirstH.go (i := 1) (v := .int .i64 j) rfl rfl 39 rfl (Op.move (Operand.tmp 8)) rfl (by kernel_rfl) (fun _ _ _ h => h) inv (fun W hS => by unfold bareO; go_simp) HS (fun inv => ?_)
      try simp only [Act.put, List.setIfInBounds_toArray, List.set_cons_zero, List.set_cons_succ]
      refine FirstH.go (i := 3) (v := .pointer (some ⟨bf, 0, none⟩)) rfl rfl 41 rfl (Op.nilCheck (Operand.tmp 38)) rfl (by kernel_rfl) (fun _ _ _ h => h) inv (fun W hS => by unfold bareO; go_simp) HS (fun inv => ?_)
      try simp only [Act.put, List.setIfInBounds_toArray, List.set_cons_zero, List.set_cons_succ]
      refine FirstH.go (i := 4) (v := .pointer (some ⟨bf, 1, none⟩)) rfl rfl 42 rfl (Op.fieldAddr 36 (Operand.tmp 41) 1) rfl (by kernel_rfl) (fun _ _ _ h => h) inv (fun W hS => by unfold bareO; go_simp) HS (fun inv => ?_)
      try simp only [Act.put, List.setIfInBounds_toArray, List.set_cons_zero, List.set_cons_succ]
      refine FirstH.only (i := 2) (by kernel_rfl) (by decide) inv (fun inv => wpOp_call (i := 2) rfl rfl 40 rfl (Op.call { callee := Callee.value (.func 6), args := #[], argTypes := #[] }) rfl 6 #[] (by unfold bareO; go_simp) (KN.out) ?_)
      rintro e y1 ⟨rfl, ha, b⟩
      have HS : y1.heap[bf]? = some (.cells (rowM nn ab j) 36 (0, 0)) := (b.block bf (heap_lt HS)).trans HS
      refine ⟨_, rfl, HS, ?_⟩
      try simp only [Act.put, List.setIfInBounds_toArray, List.set_cons_zero, List.set_cons_succ]
      refine ⟨by kernel_rfl, ?_⟩
      simp only [List.drop_succ_cons, List.drop_zero]
      obtain ⟨y2, hy2⟩ : ∃ q, y1.setCell ⟨bf, 1 + j, none⟩ (.pointer (some ⟨y0.heap.size, 0, none⟩)) = q := ⟨_, rfl⟩
      have M3 := Lib.hid (MD.out.next HJ.out SD.out b ha hy2)
      have B3 := Lib.hid (BD.out.trans ((MD.out.below SD.out b _ hy2).mono SB.out))
      have S3 : Hid (bf ≤ y2.heap.size) := Lib.hid (Nat.le_trans SD.out (MD.out.below SD.out b _ hy2).size)
      have HY2 := Lib.hid hy2
      have c6 : y1.cell? ⟨bf, 1 + j, none⟩ = some (.pointer none) := cell_of HS _ _ (rowM_get nn ab HJ.out)
      have f6 := frz_row (1 + j) HS
      have l1' : (j : Int) < 5 := l1
      clear hy2 b ha HS inv
      go_wp2_with (rw [HY2.out])
      go_roundw
      case rel => exact ⟨j + 1, _, by have := HJ.out; go_num, by have := HJ.out; omega, M3, B3, S3⟩
      case measure => have := HJ.out; simp [intOf]; omega
    · obtain rfl : j = 5 := by omega
      have l1 : ¬ (5 : Int) < 5 := by omega
      have F0 := Lib.hid MM.out.done
      have I1_ := Lib.hid (PInv.startF nn NN.out.1 NN.out.2 bf ab)
      clear MM hj hlt
      have PR0 : Hid (PrB nn (fun _ => A1) 0) := Lib.hid fun i hi => by show (0 : Int) ≤ _; decide
      go_wp2_with fail
      go_loopw [9, 10] (fun tp iv wx => ∃ (k : Nat) (c : Fc) (A : Nat → Ad) (Q : Nat → Option Pd) (top : Nat) (g : Z.Xg VD), tp = .int .i64 top ∧ iv = .int .i64 k ∧ k ≤ n ∧ Hid (top ≤ k) ∧ Hid (FQ bf wx c A Q) ∧ Hid (c.bf = bf ∧ c.n = nn) ∧ Hid (PInv nn A Q (fun i => (c.vl i).d) c.w top g) ∧ Hid (PrB nn A top) ∧ Hid (Below base W wx) ∧ Hid (bf ≤ wx.heap.size)) (fun _ iv _ => n - (intOf iv).toNat)
      case atStart => exact ⟨0, FcN bf nn ab, _, _, 0, _, rfl, rfl, Nat.zero_le _, Lib.hid (Nat.le_refl _), F0, Lib.hid ⟨rfl, rfl⟩, I1_, PR0, BB, SS⟩
      clear F0 I1_ PR0 BB SS
      case round =>
        obtain ⟨k, c, A, Q, top, g, rfl, rfl, hk, TT, FF, EB_, II, PB, BB, SS⟩ := hrel
        by_cases hlt : k < n
        · as_aux_lemma =>
          skip
          have l1 : (k : Int) < (n : Int) := by omega
          have hkL : k < L.length := by have := HN.out; omega
          have hx := List.getElem?_eq_getElem hkL
          obtain ⟨sb, so, hA, -, cc⟩ := I0.out wr BB.out k _ hx
          obtain ⟨s, hs⟩ : ∃ s, L[k] = s := ⟨_, rfl⟩
          rw [hs] at cc
          obtain ⟨kd, X, Y, Zz, Rr⟩ := s
          have HJ := Lib.hid hlt
          subst hA
          have hcc : (n : Int) ≤ (c0 : Int) := by have := LC.out.1; have := HN.out; omega
          unfold St5.cs at cc
          have c0_ : wr.cell? ⟨sb, so + k * 5, none⟩ = _ := cc 0 _ rfl
          have c1_ : wr.cell? ⟨sb, so + k * 5 + 1, none⟩ = _ := cc 1 _ rfl
          have c2_ : wr.cell? ⟨sb, so + k * 5 + 2, none⟩ = _ := cc 2 _ rfl
          have c3_ : wr.cell? ⟨sb, so + k * 5 + 3, none⟩ = _ := cc 3 _ rfl
          have c4_ : wr.cell? ⟨sb, so + k * 5 + 4, none⟩ = _ := cc 4 _ rfl
          have KS : Hid (Calls Try.prog 7 #[.pointer (some ⟨bf, 0, none⟩), .agg #[.int .i64 kd, .int .i64 X, .int .i64 Y, .int .i64 Zz, .int .i64 Rr], .int .i64 top] wr fun e W' => StepZ bf wr c A Q top top g kd X Y e W') := Lib.hid (by
            have h := stepZ (kd := kd) bf wr c A Q top top (fun _ => rfl) g FF.out (by rw [EB_.out.2]; exact II.out) X Y Zz Rr (by have := TT.out; have := HCAP.out; omega) SS.out
            rw [EB_.out.1] at h
            exact h)
          clear cc hx hs hk hlt
          go_wp2_with fail
          refine KS.out.mono ?_
          rintro e W4 ⟨c', A', Q', g', top', ta', hta', rfl, hF', hbf', hn', hI', hC', htop', hBV, x, y, -, -, hR⟩
          obtain rfl := hta' rfl
          have F4 := Lib.hid hF'
          have E4 : Hid (c'.bf = bf ∧ c'.n = nn) := Lib.hid ⟨hbf'.trans EB_.out.1, hn'.trans EB_.out.2⟩
          have I4 : Hid (PInv nn A' Q' (fun i => (c'.vl i).d) c'.w ta' g') := Lib.hid (by rw [EB_.out.2] at hI'; exact hI')
          have B4 := Lib.hid (BB.out.trans (hBV.b.mono SB.out))
          have S4 : Hid (bf ≤ W4.heap.size) := Lib.hid (Nat.le_trans SS.out hBV.size)
          have T4 : Hid (ta' ≤ k + 1) := Lib.hid (Nat.le_trans htop' (Nat.succ_le_succ TT.out))
          have PR4 : Hid (PrB nn A' ta') := Lib.hid (by have h := hR.pr; rw [EB_.out.2] at h; exact h PB.out)
          clear hF' hbf' hn' hI' hC' htop' hBV c0_ c1_ c2_ c3_ c4_ KS FF EB_ II BB SS TT hR PB
          go_wp2_with fail
          go_roundw
          case rel => exact ⟨k + 1, c', A', Q', ta', g', rfl, by have := HCAP.out; have := HJ.out; go_num, by have := HJ.out; omega, T4, F4, E4, I4, PR4, B4, S4⟩
          case measure => have := HCAP.out; have := HJ.out; simp [intOf]; omega
        · obtain rfl : n = k := by omega
          have l1 : ¬ (n : Int) < (n : Int) := by omega
          have T60 : Hid (top ≤ 60) := Lib.hid (Nat.le_trans TT.out HCAP.out)
          clear hk hlt TT
          go_wp2_with fail
          go_loopw [11, 12] (fun hv iv wx => ∃ (q : Nat) (hb : Bool), hv = .bool hb ∧ iv = .int .i64 q ∧ q ≤ nn ∧ Hid (hb = false → ∀ j, j < q → (A j).has = false) ∧ Hid (FQ bf wx c A Q) ∧ Hid (Below base W wx) ∧ Hid (bf ≤ wx.heap.size)) (fun _ iv _ => nn - (intOf iv).toNat)
          case atStart => exact ⟨0, false, rfl, rfl, Nat.zero_le _, Lib.hid (fun _ j hj => absurd hj (Nat.not_lt_zero _)), FF, BB, SS⟩
          clear FF BB SS
          case round =>
            obtain ⟨q, hb, rfl, rfl, hq, HH, FF, BB, SS⟩ := hrel
            obtain ⟨x0, hx0⟩ : ∃ z : World, z = wr := ⟨_, rfl⟩
            subst hx0
            have RW : x0.heap[bf]? = some (.cells c.row 36 (0, 0)) := by rw [← EB_.out.1]; exact FF.out.fld
            have k0 : x0.cell? ⟨bf, 0, none⟩ = some (.int .i64 nn) := cell_of RW 0 _ (by rw [← EB_.out.2]; rfl)
            by_cases hqn : q < nn
            · as_aux_lemma =>
              skip
              have hqi : (q : Int) < (nn : Int) := by omega
              have HQ := Lib.hid hqn
              have hq5 : q < 5 := by have := NN.out.2; omega
              have hqc : (q : Int) < 5 := by omega
              have k6 : x0.cell? ⟨bf, 1 + q, none⟩ = some (.pointer (some ⟨c.ab q, 0, none⟩)) := cell_of RW _ _ (c.row_a hq5)
              have KH : Hid (Calls Try.prog 11 #[.pointer (some ⟨c.ab q, 0, none⟩)] x0 fun e W' => ∃ v : Vl, e = .returned (.tuple #[.int .u64 (A q).bal, .agg v.cs, .bool (A q).has]) ∧ v.Ok W' ∧ v.d = (A q).vd ∧ Below x0.heap.size x0 W') := Lib.hid (heldA x0 _ _ (FF.out.acc q hq5))
              obtain ⟨ax, hax⟩ : ∃ z, c.ab q = z := ⟨_, rfl⟩
              obtain ⟨ha, hha⟩ : ∃ z, (A q).has = z := ⟨_, rfl⟩
              obtain ⟨bl, hbl⟩ : ∃ z, (A q).bal = z := ⟨_, rfl⟩
              rw [hax] at k6 KH
              rw [hha, hbl] at KH
              have HHA := Lib.hid hha
              clear hq hqn hax hha hbl RW
              go_wp2_with fail
              refine KH.out.mono ?_
              rintro e z2 ⟨v, rfl, hok, hvd, b2⟩
              have F2 := Lib.hid (FF.out.below b2)
              have B2 := Lib.hid (BB.out.trans (b2.mono (Nat.le_trans SB.out SS.out)))
              have S2 : Hid (bf ≤ z2.heap.size) := Lib.hid (Nat.le_trans SS.out b2.size)
              obtain ⟨vm, HX_, vt, HL_⟩ := v
              obtain ⟨A1, c1, e1', -, -, -, -⟩ := hok.m.rows
              obtain ⟨A2, c2, e2', -, -, -, -⟩ := hok.t.rows
              dsimp only at e1' e2'
              subst e1' e2'
              obtain ⟨n1, hn1⟩ : ∃ z, HX_.length = z := ⟨_, rfl⟩
              obtain ⟨n2, hn2⟩ : ∃ z, HL_.length = z := ⟨_, rfl⟩
              dsimp only [Vl.cs]
              rw [hn1, hn2]
              obtain ⟨kh, hkh⟩ : ∃ z, z2.heap.size = z := ⟨_, rfl⟩
              obtain ⟨z3, hz3⟩ : ∃ z, z2.alloc (.cells #[.slice none 0 0, .slice none 0 0] 32) = z := ⟨_, rfl⟩
              have r3 : z3.heap[kh]? = some (.cells #[.slice none 0 0, .slice none 0 0] 32 (0, 0)) := by rw [← hz3, ← hkh]; exact heap_alloc_new _ _
              obtain ⟨z4, hz4⟩ : ∃ z, z3.setRow kh #[.slice A1 n1 c1, .slice A2 n2 c2] = z := ⟨_, rfl⟩
              have b4 : Below z2.heap.size z2 z4 := by
                rw [← hz4, ← hz3, ← hkh]
                exact ((Below.refl _ _).alloc (Nat.le_refl _) _).trans ⟨rfl, rfl, rfl, by simp [World.setRow], fun k hk => setRow_other _ z2.heap.size k _ (by omega)⟩
              have F4 := Lib.hid (F2.out.below b4)
              have B4 := Lib.hid (B2.out.trans (b4.mono (Nat.le_trans SB.out S2.out)))
              have S4 : Hid (bf ≤ z4.heap.size) := Lib.hid (Nat.le_trans S2.out b4.size)
              have HZ3 := Lib.hid hz3
              have HZ4 := Lib.hid hz4
              have HKH := Lib.hid hkh
              have RH3 := Lib.hid r3
              have HN2 : Hid ((hb || ha) = false → ∀ j, j < q + 1 → (A j).has = false) := Lib.hid fun e j hj => by
                simp only [Bool.or_eq_false_iff] at e
                by_cases h : j = q
                · rw [h, HHA.out]
                  exact e.2
                · exact HH.out e.1 j (by omega)
              clear hok hvd b2 hn1 hn2 hkh hz3 r3 hz4 b4 k0 k6 KH FF BB SS F2 B2 S2
              cases hb with
              | false =>
                go_wp2_with (first
                  | (rw [HZ3.out, HKH.out])
                  | (refine wpList_store_row rfl 32 (.tmp 14) (.tmp 74) rfl kh #[.slice A1 n1 c1, .slice A2 n2 c2] (by rfl) (by rfl) 32 _ RH3.out (by kernel_rfl) rfl (by simp [Value.oneCell']) ?_; rw [HZ4.out])
                  | fail)
                go_roundw
                case rel => exact ⟨q + 1, ha, rfl, by have := HQ.out; have := NN.out; go_num, by have := HQ.out; omega, HN2, F4, B4, S4⟩
                case measure => have := HQ.out; have := NN.out; simp [intOf]; omega
              | true =>
                go_wp2_with (first
                  | (rw [HZ3.out, HKH.out])
                  | (refine wpList_store_row rfl 32 (.tmp 14) (.tmp 74) rfl kh #[.slice A1 n1 c1, .slice A2 n2 c2] (by rfl) (by rfl) 32 _ RH3.out (by kernel_rfl) rfl (by simp [Value.oneCell']) ?_; rw [HZ4.out])
                  | fail)
                go_roundw
                case rel => exact ⟨q + 1, true, rfl, by have := HQ.out; have := NN.out; go_num, by have := HQ.out; omega, HN2, F4, B4, S4⟩
                case measure => have := HQ.out; have := NN.out; simp [intOf]; omega
            · obtain rfl : nn = q := by omega
              have hqi : ¬ (nn : Int) < (nn : Int) := by omega
              have KS0 : Hid (Calls Try.prog 7 #[.pointer (some ⟨bf, 0, none⟩), .agg #[.int .i64 0, .int .i64 0, .int .i64 0, .int .i64 0, .int .i64 0], .int .i64 top] x0 fun e W' => StepZ bf x0 c A Q top top g 0 0 0 e W') := Lib.hid (by
                have h := stepZ (kd := 0) bf x0 c A Q top top (fun h => by first | rfl | exact absurd h (by decide)) g FF.out (by rw [EB_.out.2]; exact II.out) 0 0 0 0 (by have := T60.out; omega) SS.out
                rw [EB_.out.1] at h
                exact h)
              have HMD : Hid (∀ i, i < nn → (A i).made = true) := Lib.hid II.out.madeN
              clear hq hqn RW
              go_wp2_with fail
              refine KS0.out.mono ?_
              rintro e x1 ⟨c1, A1, Q1, g1, top1, ta1, -, rfl, hF, hbf, hn, hI, -, htop, hBV, x, y, hxe, hye, hR⟩
              rw [EB_.out.2] at hxe hye hR hI
              obtain rfl := xi_self (i := 0) NN.out.1 hxe
              obtain rfl := xi_self (i := 0) NN.out.1 hye
              have EA0 := Lib.hid (EA.start HMD.out PB.out hR)
              have F1 := Lib.hid hF
              have E1 : Hid (c1.bf = bf ∧ c1.n = nn) := Lib.hid ⟨hbf.trans EB_.out.1, hn.trans EB_.out.2⟩
              have I1_ := Lib.hid hI
              have B1_ := Lib.hid (BB.out.trans (hBV.b.mono SB.out))
              have S1_ : Hid (bf ≤ x1.heap.size) := Lib.hid (Nat.le_trans SS.out hBV.size)
              have T1_ : Hid (top1 ≤ 70 + 0) := Lib.hid (by have := T60.out; omega)
              obtain ⟨BAL, hbal⟩ : ∃ z, (((top + 1) * 256 + 0 : Nat) : Int) = z := ⟨_, rfl⟩
              rw [hbal] at EA0
              obtain ⟨HF_, hhf⟩ : ∃ z : Nat → Bool, (fun i => (A i).has) = z := ⟨_, rfl⟩
              have HN3 : Hid (hb = false → ∀ j, j < nn → HF_ j = false) := Lib.hid (by rw [← hhf]; exact HH.out)
              rw [hhf] at EA0
              clear hF hbf hn hI htop hBV hxe hye hR FF BB SS KS0 k0 hbal hhf HH
              go_wp2_with fail
              go_loopw [16] (fun iv wx => ∃ (q : Nat) (c : Fc) (A : Nat → Ad) (Q : Nat → Option Pd) (t1 : Nat) (g : Z.Xg VD), iv = .int .i64 q ∧ q ≤ nn ∧ Hid (FQ bf wx c A Q) ∧ Hid (c.bf = bf ∧ c.n = nn) ∧ Hid (PInv nn A Q (fun i => (c.vl i).d) c.w t1 g) ∧ Hid (EA nn q BAL HF_ A Q) ∧ Hid (t1 ≤ 70 + q) ∧ Hid (Below base W wx) ∧ Hid (bf ≤ wx.heap.size)) (fun iv _ => nn - (intOf iv).toNat)
              case atStart => exact ⟨0, c1, A1, Q1, top1, g1, rfl, Nat.zero_le _, F1, E1, I1_, EA0, T1_, B1_, S1_⟩
              clear F1 E1 I1_ EA0 T1_ B1_ S1_
              case round =>
                obtain ⟨q, c2, A2, Q2, t2, g2, rfl, hq, FF, EC, IC, EE, TT, BB, SS⟩ := hrel
                obtain ⟨x2, hx2⟩ : ∃ z : World, z = wr := ⟨_, rfl⟩
                subst hx2
                have RW : x2.heap[bf]? = some (.cells c2.row 36 (0, 0)) := by rw [← EC.out.1]; exact FF.out.fld
                have k0 : x2.cell? ⟨bf, 0, none⟩ = some (.int .i64 nn) := cell_of RW 0 _ (by rw [← EC.out.2]; rfl)
                by_cases hqn : q < nn
                · as_aux_lemma =>
                  skip
                  have hqi : (q : Int) < (nn : Int) := by omega
                  have hqc : (q : Int) < 5 := by have := NN.out.2; omega
                  have HQ := Lib.hid hqn
                  have KS1 : Hid (Calls Try.prog 7 #[.pointer (some ⟨bf, 0, none⟩), .agg #[.int .i64 1, .int .i64 q, .int .i64 0, .int .i64 0, .int .i64 0], .int .i64 top] x2 fun e W' => StepZ bf x2 c2 A2 Q2 t2 top g2 1 q 0 e W') := Lib.hid (by
                    have h := stepZ (kd := 1) bf x2 c2 A2 Q2 t2 top (fun h => by first | rfl | exact absurd h (by decide)) g2 FF.out (by rw [EC.out.2]; exact IC.out) q 0 0 0 (by have := TT.out; have := NN.out; have := HQ.out; omega) SS.out
                    rw [EC.out.1] at h
                    exact h)
                  clear hq hqn RW
                  go_wp2_with fail
                  refine KS1.out.mono ?_
                  rintro e x3 ⟨c3, A3, Q3, g3, t3, ta3, -, rfl, hF, hbf, hn, hI, -, htop, hBV, x, y, hxe, hye, hR⟩
                  rw [EC.out.2] at hxe hye hR hI
                  obtain rfl := xi_self HQ.out hxe
                  obtain rfl := xi_self (i := 0) NN.out.1 hye
                  have EE3 := Lib.hid (EE.out.step HQ.out hR)
                  have F3 := Lib.hid hF
                  have E3 : Hid (c3.bf = bf ∧ c3.n = nn) := Lib.hid ⟨hbf.trans EC.out.1, hn.trans EC.out.2⟩
                  have I3 := Lib.hid hI
                  have B3 := Lib.hid (BB.out.trans (hBV.b.mono SB.out))
                  have S3 : Hid (bf ≤ x3.heap.size) := Lib.hid (Nat.le_trans SS.out hBV.size)
                  have T3 : Hid (t3 ≤ 70 + (x + 1)) := Lib.hid (by have := TT.out; omega)
                  clear hF hbf hn hI htop hBV hxe hye hR FF BB SS KS1 k0
                  go_wp2_with fail
                  go_roundw
                  case rel => exact ⟨x + 1, c3, A3, Q3, t3, g3, by have := HQ.out; have := NN.out; go_num, by have := HQ.out; omega, F3, E3, I3, EE3, T3, B3, S3⟩
                  case measure => have := HQ.out; have := NN.out; simp [intOf]; omega
                · obtain rfl : nn = q := by omega
                  have hqi : ¬ (nn : Int) < (nn : Int) := by omega
                  have KS2 : Hid (Calls Try.prog 7 #[.pointer (some ⟨bf, 0, none⟩), .agg #[.int .i64 2, .int .i64 0, .int .i64 0, .int .i64 wish, .int .i64 0], .int .i64 top] x2 fun e W' => StepZ bf x2 c2 A2 Q2 t2 top g2 2 0 0 e W') := Lib.hid (by
                    have h := stepZ (kd := 2) bf x2 c2 A2 Q2 t2 top (fun h => by first | rfl | exact absurd h (by decide)) g2 FF.out (by rw [EC.out.2]; exact IC.out) 0 0 wish 0 (by have := TT.out; have := NN.out; omega) SS.out
                    rw [EC.out.1] at h
                    exact h)
                  clear hq hqn RW
                  go_wp2_with fail
                  refine KS2.out.mono ?_
                  rintro e x3 ⟨c3, A3, Q3, g3, t3, ta3, -, rfl, hF, hbf, hn, hI, -, htop, hBV, x, y, hxe, hye, hR⟩
                  rw [EC.out.2] at hxe hye hR hI
                  obtain rfl := xi_self (i := 0) NN.out.1 hxe
                  obtain rfl := xi_self (i := 0) NN.out.1 hye
                  have EE3 := Lib.hid (EB.start EE.out NN.out.1 hR)
                  have F3 := Lib.hid hF
                  have E3 : Hid (c3.bf = bf ∧ c3.n = nn) := Lib.hid ⟨hbf.trans EC.out.1, hn.trans EC.out.2⟩
                  have I3 := Lib.hid hI
                  have B3 := Lib.hid (BB.out.trans (hBV.b.mono SB.out))
                  have S3 : Hid (bf ≤ x3.heap.size) := Lib.hid (Nat.le_trans SS.out hBV.size)
                  have T3 : Hid (t3 ≤ 90 + 0) := Lib.hid (by have := TT.out; have := NN.out; omega)
                  clear hF hbf hn hI htop hBV hxe hye hR FF BB SS KS2 k0
                  go_wp2_with fail
                  go_loopw [17] (fun iv wx => ∃ (q : Nat) (c : Fc) (A : Nat → Ad) (Q : Nat → Option Pd) (t1 : Nat) (g : Z.Xg VD), iv = .int .i64 q ∧ q ≤ nn ∧ Hid (FQ bf wx c A Q) ∧ Hid (c.bf = bf ∧ c.n = nn) ∧ Hid (PInv nn A Q (fun i => (c.vl i).d) c.w t1 g) ∧ Hid (EB nn q BAL HF_ A Q c.w) ∧ Hid (t1 ≤ 90 + q) ∧ Hid (Below base W wx) ∧ Hid (bf ≤ wx.heap.size)) (fun iv _ => nn - (intOf iv).toNat)
                  case atStart => exact ⟨0, c3, A3, Q3, t3, g3, rfl, Nat.zero_le _, F3, E3, I3, EE3, T3, B3, S3⟩
                  clear F3 E3 I3 EE3 T3 B3 S3 EC IC EE TT
                  case round =>
                    obtain ⟨q, c4, A4, Q4, t4, g4, rfl, hq, FF, EC, IC, EE, TT, BB, SS⟩ := hrel
                    obtain ⟨x4, hx4⟩ : ∃ z : World, z = wr := ⟨_, rfl⟩
                    subst hx4
                    have RW : x4.heap[bf]? = some (.cells c4.row 36 (0, 0)) := by rw [← EC.out.1]; exact FF.out.fld
                    have k0 : x4.cell? ⟨bf, 0, none⟩ = some (.int .i64 nn) := cell_of RW 0 _ (by rw [← EC.out.2]; rfl)
                    by_cases hqn : q < nn
                    · as_aux_lemma =>
                      skip
                      have hqi : (q : Int) < (nn : Int) := by omega
                      have hqc : (q : Int) < 5 := by have := NN.out.2; omega
                      have HQ := Lib.hid hqn
                      have KS3 : Hid (Calls Try.prog 7 #[.pointer (some ⟨bf, 0, none⟩), .agg #[.int .i64 3, .int .i64 q, .int .i64 0, .int .i64 0, .int .i64 0], .int .i64 top] x4 fun e W' => StepZ bf x4 c4 A4 Q4 t4 top g4 3 q 0 e W') := Lib.hid (by
                        have h := stepZ (kd := 3) bf x4 c4 A4 Q4 t4 top (fun h => by first | rfl | exact absurd h (by decide)) g4 FF.out (by rw [EC.out.2]; exact IC.out) q 0 0 0 (by have := TT.out; have := NN.out; have := HQ.out; omega) SS.out
                        rw [EC.out.1] at h
                        exact h)
                      clear hq hqn RW
                      go_wp2_with fail
                      refine KS3.out.mono ?_
                      rintro e x5 ⟨c5, A5, Q5, g5, t5, ta5, -, rfl, hF, hbf, hn, hI, -, htop, hBV, x, y, hxe, hye, hR⟩
                      rw [EC.out.2] at hxe hye hR hI
                      obtain rfl := xi_self HQ.out hxe
                      obtain rfl := xi_self (i := 0) NN.out.1 hye
                      have EE5 := Lib.hid (EE.out.step HQ.out hR)
                      have F5 := Lib.hid hF
                      have E5 : Hid (c5.bf = bf ∧ c5.n = nn) := Lib.hid ⟨hbf.trans EC.out.1, hn.trans EC.out.2⟩
                      have I5 := Lib.hid hI
                      have B5 := Lib.hid (BB.out.trans (hBV.b.mono SB.out))
                      have S5 : Hid (bf ≤ x5.heap.size) := Lib.hid (Nat.le_trans SS.out hBV.size)
                      have T5 : Hid (t5 ≤ 90 + (x + 1)) := Lib.hid (by have := TT.out; omega)
                      clear hF hbf hn hI htop hBV hxe hye hR FF BB SS KS3 k0
                      go_wp2_with fail
                      go_roundw
                      case rel => exact ⟨x + 1, c5, A5, Q5, t5, g5, by have := HQ.out; have := NN.out; go_num, by have := HQ.out; omega, F5, E5, I5, EE5, T5, B5, S5⟩
                      case measure => have := HQ.out; have := NN.out; simp [intOf]; omega
                    · obtain rfl : nn = q := by omega
                      have hqi : ¬ (nn : Int) < (nn : Int) := by omega
                      obtain ⟨d, hQ0, hph, -, hvv⟩ := EE.out.done NN.out.1
                      obtain ⟨b, m, hpb, hp⟩ : ∃ b m, c4.pb 0 = some (b, m) ∧ PP bf x4 b m d := by
                        rcases FF.out.pro 0 (by decide) with ⟨_, h2⟩ | ⟨b', m', d', h1, h2, hp⟩
                        · rw [hQ0] at h2
                          cases h2
                        · rw [hQ0] at h2
                          cases h2
                          exact ⟨b', m', h1, hp⟩
                      have k6 : x4.cell? ⟨bf, 6, none⟩ = some (.pointer (some ⟨b, 0, none⟩)) := cell_of RW 6 _ (by
                        have h := c4.row_p (x := 0) (by decide)
                        rw [hpb] at h
                        exact h)
                      have KVa := Lib.hid (pValue bf x4 b m d hp)
                      have HPH := Lib.hid hph
                      have HVV := Lib.hid hvv
                      have HP := Lib.hid hp
                      clear hq hqn hQ0 hph hvv hpb hp RW
                      go_wp2_with fail
                      refine KVa.out.mono ?_
                      rintro e z2 ⟨v, rfl, hok, hvd, b2⟩
                      obtain ⟨vm, HX_, vt, HL_⟩ := v
                      obtain ⟨A1, c1, e1', -, -, -, -⟩ := hok.m.rows
                      obtain ⟨A2, c2, e2', -, -, -, -⟩ := hok.t.rows
                      dsimp only at e1' e2'
                      subst e1' e2'
                      obtain ⟨n1, hn1⟩ : ∃ z, HX_.length = z := ⟨_, rfl⟩
                      obtain ⟨n2, hn2⟩ : ∃ z, HL_.length = z := ⟨_, rfl⟩
                      dsimp only [Vl.cs]
                      rw [hn1, hn2]
                      have HLN : Hid (hb = false → n1 = 1 ∧ n2 = nn - 1) := Lib.hid fun e => by
                        have h1 : d.vd = (HX_, HL_.map Le.v) := hvd.symm
                        rcases HVV.out with ⟨j, hj, h⟩ | ⟨h2, h3⟩
                        · rw [HN3.out e j hj] at h
                          cases h
                        · rw [h1] at h2 h3
                          have h2' : HX_.length = 1 := h2
                          have h3' : (HL_.map Le.v).length = nn - 1 := h3
                          rw [List.length_map] at h3'
                          exact ⟨hn1.symm.trans h2', hn2.symm.trans h3'⟩
                      obtain ⟨kh, hkh⟩ : ∃ z, z2.heap.size = z := ⟨_, rfl⟩
                      obtain ⟨z3, hz3⟩ : ∃ z, z2.alloc (.cells #[.slice none 0 0, .slice none 0 0] 32) = z := ⟨_, rfl⟩
                      have r3 : z3.heap[kh]? = some (.cells #[.slice none 0 0, .slice none 0 0] 32 (0, 0)) := by rw [← hz3, ← hkh]; exact heap_alloc_new _ _
                      obtain ⟨z4, hz4⟩ : ∃ z, z3.setRow kh #[.slice A1 n1 c1, .slice A2 n2 c2] = z := ⟨_, rfl⟩
                      have b4 : Below z2.heap.size z2 z4 := by
                        rw [← hz4, ← hz3, ← hkh]
                        exact ((Below.refl _ _).alloc (Nat.le_refl _) _).trans ⟨rfl, rfl, rfl, by simp [World.setRow], fun k hk => setRow_other _ z2.heap.size k _ (by omega)⟩
                      have b24 : Below x4.heap.size x4 z4 := b2.trans (b4.mono b2.size)
                      have F4 := Lib.hid (FF.out.below b24)
                      have B4 := Lib.hid (BB.out.trans (b24.mono (Nat.le_trans SB.out SS.out)))
                      have S4 : Hid (bf ≤ z4.heap.size) := Lib.hid (Nat.le_trans SS.out b24.size)
                      have P4 := Lib.hid (HP.out.below b24)
                      have R4 : Hid (z4.heap[kh]? = some (.cells #[.slice A1 n1 c1, .slice A2 n2 c2] 32 (0, 0))) := Lib.hid (by rw [← hz4]; exact setRow_heapG _ _ _ _ _ _ r3)
                      have HZ3 := Lib.hid hz3
                      have HZ4 := Lib.hid hz4
                      have HKH := Lib.hid hkh
                      have RH3 := Lib.hid r3
                      have k6' : z4.cell? ⟨bf, 6, none⟩ = some (.pointer (some ⟨b, 0, none⟩)) := (b24.cell (p := ⟨bf, 6, none⟩) (block_lt_of_cell k6)).trans k6
                      have k0' : z4.cell? ⟨bf, 0, none⟩ = some (.int .i64 nn) := (b24.cell (p := ⟨bf, 0, none⟩) (block_lt_of_cell k0)).trans k0
                      clear hok hvd b2 hn1 hn2 hkh hz3 r3 hz4 b4 b24 k0 k6 KVa FF BB SS HP
                      go_wp2_with (first
                        | (rw [HZ3.out, HKH.out])
                        | (refine wpList_store_row rfl 32 (.tmp 18) (.tmp 120) rfl kh #[.slice A1 n1 c1, .slice A2 n2 c2] (by rfl) (by rfl) 32 _ RH3.out (by kernel_rfl) rfl (by simp [Value.oneCell']) ?_; rw [HZ4.out])
                        | fail)
                      have KPH : Hid (∀ dd os, Calls Try.prog 8 #[.pointer (some ⟨b, 0, none⟩)] (grow (redrawn z4 dd) os) fun r w' => r = .returned (.int .i64 2) ∧ Below (grow (redrawn z4 dd) os).heap.size (grow (redrawn z4 dd) os) w') := Lib.hid (fun dd os => by
                        have h := pPhase bf (grow (redrawn z4 dd) os) b m d (P4.out.below (below_regrown z4 dd os))
                        rw [HPH.out] at h
                        exact h.mono fun e w' ⟨h1, h2⟩ => ⟨h1, by subst h2; exact Below.refl _ _⟩)
                      have KMI : Hid (∀ dd os, Calls Try.prog 12 #[.pointer (some ⟨b, 0, none⟩)] (grow (redrawn z4 dd) os) fun r w' => r = .returned (.slice none 0 0) ∧ Below (grow (redrawn z4 dd) os).heap.size (grow (redrawn z4 dd) os) w') := Lib.hid (fun dd os => missN2 bf (grow (redrawn z4 dd) os) b m d (P4.out.below (below_regrown z4 dd os)) HPH.out)
                      have q6 := cell_regrown k6'
                      have q0 := cell_regrown k0'
                      have q1 := cell_regrown (cell_of R4.out 0 (.slice A1 n1 c1) rfl)
                      have q2 := cell_regrown (cell_of R4.out 1 (.slice A2 n2 c2) rfl)
                      have HEND : Hid (∀ dd os, Below base W (grow (redrawn z4 dd) os)) := Lib.hid fun dd os => B4.out.trans ((below_regrown z4 dd os).mono (Nat.le_trans SB.out S4.out))
                      have hv9 : IntKind.i64.wrap ((nn : Int) - 1) = (nn : Int) - 1 := wrapI (by have := NN.out; omega) (by have := NN.out; omega)
                      clear k6' k0' F4 B4 S4 P4 HZ3 HZ4 HKH RH3 R4
                      cases hb with
                      | false =>
                        obtain ⟨rfl, hn2⟩ := HLN.out rfl
                        have hn2i : (n2 : Int) = (nn : Int) - 1 := by have := NN.out; omega
                        have e1 : ((n2 : Int) == (nn : Int) - 1) = true := by simp [hn2i]
                        have e2 : decide ((n2 : Int) = (nn : Int) - 1) = true := by simp [hn2i]
                        clear hn2
                        try simp only [Act.put, List.setIfInBounds_toArray, List.set_cons_zero, List.set_cons_succ]
                        refine wp_region_quiet_below (by kernel_rfl) (by kernel_rfl) ?_
                        repeat (go_big_quiet_step (first | (go_at_call 8; exact Calls.regrown_of (KPH.out _ _)) | (go_at_call 12; exact Calls.regrown_of (KMI.out _ _)) | fail))
                        refine wpQuiet_nil ?_
                        rintro W9 ⟨p9, rfl⟩
                        have HE9 := Lib.hid (HEND.out p9.d p9.os)
                        generalize grow (redrawn z4 p9.d) p9.os = W9 at *
                        go_wp2_with fail
                        go_ret
                        exact ⟨rfl, HE9.out⟩
                      | true =>
                        try simp only [Act.put, List.setIfInBounds_toArray, List.set_cons_zero, List.set_cons_succ]
                        refine wp_region_quiet_below (by kernel_rfl) (by kernel_rfl) ?_
                        repeat (go_big_quiet_step (first | (go_at_call 8; exact Calls.regrown_of (KPH.out _ _)) | (go_at_call 12; exact Calls.regrown_of (KMI.out _ _)) | fail))
                        refine wpQuiet_nil ?_
                        rintro W9 ⟨p9, rfl⟩
                        have HE9 := Lib.hid (HEND.out p9.d p9.os)
                        generalize grow (redrawn z4 p9.d) p9.os = W9 at *
                        go_wp2_with fail
                        go_ret
                        exact ⟨rfl, HE9.out⟩

end Go.Proofs.Ytfkmodmgihadkaa
