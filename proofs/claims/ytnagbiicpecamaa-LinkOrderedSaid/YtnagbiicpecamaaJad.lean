/-
  slices.DeleteFunc over what waits: by an exact answer. Condition: the row lies in memory; those that go stand first.
-/
import Derived.Test.YtnagbiicpecamaaJac
namespace Go.Proofs.Ytnagbiicpecamaa
set_option linter.unusedSimpArgs false
set_option linter.unusedVariables false
open Go.RowKit Go.Maps Go.Sort

set_option maxRecDepth 100000 in
set_option maxHeartbeats 1000000 in
theorem idxN (ab : Nat) (W : World) :
    Calls Try.prog 27 #[.slice none 0 0, .func (.func 26) #[] #[.pointer (some ⟨ab, 0, none⟩)]] W fun e W' => e = .returned (.int .i64 (-1)) ∧ W = W' := by
  go_enter Try.func27, Try.ntmps27
  go_wp2
  go_rounds 1
  go_ret
  exact ⟨rfl, rfl⟩
set_option maxRecDepth 100000 in
set_option maxHeartbeats 1000000 in
theorem delN (ab : Nat) (W : World) :
    Calls Try.prog 25 #[.slice none 0 0, .func (.func 26) #[] #[.pointer (some ⟨ab, 0, none⟩)]] W fun e W' => e = .returned (.slice none 0 0) ∧ W = W' := by
  go_enter Try.func25, Try.ntmps25
  go_wp2_with fail
  refine (idxN ab W).mono ?_
  rintro e w ⟨rfl, rfl⟩
  go_wp2
  go_ret
  exact ⟨rfl, rfl⟩
set_option maxRecDepth 100000 in
set_option maxHeartbeats 1000000 in
theorem delZ (W : World) (g o n cp ab ack d : Nat) (L : List Ls) (hn : L.length = n) (h : RowO W 60 4 (.slice (some ⟨g, o, none⟩) n cp) n (flat Ls.cs L)) (ha : W.heap[ab]? = some (.cells #[.int .u64 ack] 22 (0, 0))) (hd : ∀ i x, L[i]? = some x → (x.seq < ack ↔ i < d)) (hdn : d ≤ n) (hn32 : n ≤ 32) (h0 : d = 0) :
    Calls Try.prog 25 #[.slice (some ⟨g, o, none⟩) n cp, .func (.func 26) #[] #[.pointer (some ⟨ab, 0, none⟩)]] W fun e W' => e = .returned (.slice (some ⟨g, o, none⟩) n cp) ∧ Below W.heap.size W W' := by
  have KI := idxL W g o n cp ab ack d L hn h ha hd hdn hn32
  have e : (if 0 < d then (0 : Int) else -1) = -1 := by simp [h0]
  rw [e] at KI
  clear e h ha hd hn
  go_enter Try.func25, Try.ntmps25
  go_wp2_with fail
  refine KI.mono ?_
  rintro e w ⟨rfl, b2⟩
  have B2 := Lib.hid b2
  clear b2
  go_wp2
  go_ret
  exact ⟨rfl, B2.out⟩
/-- while it is moved down. -/
structure DelJ (W : World) (g o n cp ab ack d : Nat) (L : List Ls) (j : Nat) (wr : World) : Prop where
  row : RowO wr 60 4 (.slice (some ⟨g, o, none⟩) n cp) n (flat Ls.cs (delM L d j))
  kp : KP (fun k => k = g) W wr
theorem DelJ.ab_ {W : World} {g o n cp ab ack d : Nat} {L : List Ls} {j : Nat} {wr : World} (h : DelJ W g o n cp ab ack d L j wr) (ha : W.heap[ab]? = some (.cells #[.int .u64 ack] 22 (0, 0))) (hg : ∃ cur, W.heap[g]? = some (.cells cur 60 (0, 0))) : wr.heap[ab]? = some (.cells #[.int .u64 ack] 22 (0, 0)) := by
  obtain ⟨cur, hc⟩ := hg
  exact (h.kp.block ab (blt ha) (apart_of ha hc (by decide))).trans ha

set_option maxRecDepth 100000 in
set_option maxHeartbeats 4000000 in
theorem delY (W : World) (g o n cp ab ack d : Nat) (L : List Ls) (hn : L.length = n) (h : RowO W 60 4 (.slice (some ⟨g, o, none⟩) n cp) n (flat Ls.cs L)) (ha : W.heap[ab]? = some (.cells #[.int .u64 ack] 22 (0, 0))) (hd : ∀ i x, L[i]? = some x → (x.seq < ack ↔ i < d)) (hdn : d ≤ n) (hn32 : n ≤ 32) (h0 : 0 < d) :
    Calls Try.prog 25 #[.slice (some ⟨g, o, none⟩) n cp, .func (.func 26) #[] #[.pointer (some ⟨ab, 0, none⟩)]] W fun e W' => e = .returned (.slice (some ⟨g, o, none⟩) (n - d) cp) ∧ RowO W' 60 4 (.slice (some ⟨g, o, none⟩) (n - d) cp) (n - d) (flat Ls.cs (L.drop d)) ∧ KP (fun k => k = g) W W' := by
  have KI := idxL W g o n cp ab ack d L hn h ha hd hdn hn32
  have e : (if 0 < d then (0 : Int) else -1) = 0 := by simp [h0]
  rw [e] at KI
  have HR := Lib.hid h
  have HA := Lib.hid ha
  have HD := Lib.hid hd
  have HN := Lib.hid hn
  have hncp : n ≤ cp := by
    obtain ⟨A', c', e, h1, _⟩ := h.slice
    cases e
    exact h1
  clear e h ha hd hn
  go_enter Try.func25, Try.ntmps25
  go_wp2_with fail
  refine KI.mono ?_
  rintro e w0 ⟨rfl, b0⟩
  clear KI
  have J0 : Hid (DelJ W g o n cp ab ack d L 1 w0) := Lib.hid ⟨by rw [delM_zero L d 1 (by omega)]; exact HR.out.below b0, KP.of_below b0⟩
  clear b0
  go_wp2_with fail
  go_loopw [5, 6] (fun iv jv wr => ∃ j : Nat, 1 ≤ j ∧ j ≤ n ∧ iv = .int .i64 (j - d : Nat) ∧ jv = .int .i64 j ∧ Hid (DelJ W g o n cp ab ack d L j wr)) (fun _ jv _ => n - (intOf jv).toNat)
  case atStart => exact ⟨1, by omega, by omega, by simp; omega, rfl, J0⟩
  case round =>
    obtain ⟨j, hj1, hj, rfl, rfl, J⟩ := hrel
    clear J0
    by_cases hjn : j < n
    · have hji : (j : Int) < (n : Int) := by omega
      have hln := HN.out
      obtain ⟨x, hxj⟩ : ∃ x, L[j]? = some x := ⟨L[j]'(by omega), by simp [hln, hjn]⟩
      have hat : (delM L d j)[j]? = some x := by rw [delM_at L d j (by omega) (by omega)]; exact hxj
      have hs := HD.out j x hxj
      have row := J.out.row
      obtain ⟨q, ⟨xB, xa, xc⟩, xt, xw⟩ := x
      have e0 := RowO.elem Ls.sz row hat (j := 0) (by decide)
      have e1 := RowO.elem Ls.sz row hat (j := 1) (by decide)
      have e2 := RowO.elem Ls.sz row hat (j := 2) (by decide)
      have e3 := RowO.elem Ls.sz row hat (j := 3) (by decide)
      simp only [Ls.cs, List.getElem?_toArray, List.getElem?_cons_zero, List.getElem?_cons_succ, Nat.add_zero] at e0 e1 e2 e3
      have hs' : q < ack ↔ j < d := hs
      obtain ⟨xl, hxl⟩ : ∃ xl, xB.length = xl := ⟨_, rfl⟩
      rw [hxl] at e1
      have HXL := Lib.hid hxl
      have HXJ := Lib.hid hxj
      obtain ⟨w1, hw1⟩ : ∃ Y, wr.alloc (.cells #[.int .u64 0, .slice none 0 0, .bool false, .int .i64 0] 60) = Y := ⟨_, rfl⟩
      have r1 : w1.heap[wr.heap.size]? = some (.cells #[.int .u64 0, .slice none 0 0, .bool false, .int .i64 0] 60 (0, 0)) := by rw [← hw1]; exact heap_alloc_new _ _
      obtain ⟨w2, hw2⟩ : ∃ Y, w1.setRow wr.heap.size #[.int .u64 q, .slice xa xl xc, .bool xt, .int .i64 xw] = Y := ⟨_, rfl⟩
      have r2 : w2.heap[wr.heap.size]? = some (.cells #[.int .u64 q, .slice xa xl xc, .bool xt, .int .i64 xw] 60 (0, 0)) := by rw [← hw2]; exact setRow_heap _ _ _ _ _ _ r1
      have b2 : Below wr.heap.size wr w2 := by rw [← hw2, ← hw1]; exact below_row ((Below.refl _ _).alloc (Nat.le_refl _) _) (Nat.le_refl _) _
      have a2 : w2.heap[ab]? = some (.cells #[.int .u64 ack] 22 (0, 0)) := by
        have := J.out.ab_ HA.out (HR.out.block g rfl)
        exact (b2.block ab (blt this)).trans this
      have KC := clsL ab ack q xl xc xa xt xw w2 (cell_of a2 0 _ rfl)
      have HS := Lib.hid hs'
      have HW1 := Lib.hid hw1
      have HW2 := Lib.hid hw2
      have R1 := Lib.hid r1
      have R2 := Lib.hid r2
      have B2 := Lib.hid b2
      clear row hs hs' hxj hat hxl hw1 r1 hw2 r2 b2 a2 hln
      by_cases hjd : j < d
      · have hq : q < ack := HS.out.2 hjd
        have e : decide (q < ack) = true := by simpa using hq
        rw [e] at KC
        clear hq e
        go_wp2_with (first
          | (rw [HW1.out])
          | (refine wpList_store_row rfl 60 (.tmp 7) (.tmp 25) rfl wr.heap.size #[.int .u64 q, .slice xa xl xc, .bool xt, .int .i64 xw] (by rfl) (by rfl) 60 #[.int .u64 0, .slice none 0 0, .bool false, .int .i64 0] R1.out (by kernel_rfl) rfl (by simp [Value.oneCell']) ?_; rw [HW2.out])
          | (refine wpList_load_row rfl 60 (.tmp 7) rfl wr.heap.size (by rfl) 60 #[.int .u64 q, .slice xa xl xc, .bool xt, .int .i64 xw] (0, 0) _ R2.out Try.underlying60 rfl (by kernel_rfl) ?_)
          | (go_at_call 26
             refine KC.mono ?_
             rintro e w3 ⟨rfl, b3⟩
             have B3 := Lib.hid (B2.out.trans (b3.mono B2.out.size))
             clear b3))
        go_roundw
        case rel =>
          have e1 : j - d = 0 := by omega
          have e2 : j + 1 - d = 0 := by omega
          refine ⟨j + 1, by omega, by omega, by rw [e1, e2], by go_num, Lib.hid ⟨?_, J.out.kp.trans (KP.of_below B3.out) fun _ _ h => h⟩⟩
          have := J.out.row.below B3.out
          rw [delM_zero L d j (by omega)] at this
          rw [delM_zero L d (j + 1) (by omega)]
          exact this
        case measure => simp [intOf]; omega
      · have hq : ¬ q < ack := fun h => hjd (HS.out.1 h)
        have e : decide (q < ack) = false := by simpa using hq
        rw [e] at KC
        clear hq e
        obtain ⟨i, hi⟩ : ∃ i, j - d = i := ⟨_, rfl⟩
        have HI := Lib.hid hi
        rw [hi]
        have hii : (i : Int) < (n : Int) := by omega
        have hln := HN.out
        have hml := delM_len L d j (by omega) (by omega)
        obtain ⟨y, hyi⟩ : ∃ y, (delM L d j)[i]? = some y := ⟨(delM L d j)[i]'(by omega), List.getElem?_eq_getElem (by omega)⟩
        have f0 := RowO.elem Ls.sz J.out.row hyi (j := 0) (by decide)
        have f1 := RowO.elem Ls.sz J.out.row hyi (j := 1) (by decide)
        have f2 := RowO.elem Ls.sz J.out.row hyi (j := 2) (by decide)
        have f3 := RowO.elem Ls.sz J.out.row hyi (j := 3) (by decide)
        simp only [Ls.cs, List.getElem?_toArray, List.getElem?_cons_zero, List.getElem?_cons_succ, Nat.add_zero] at f0 f1 f2 f3
        have hgl : g < wr.heap.size := J.out.row.lt g rfl
        obtain ⟨cug, hcug⟩ := J.out.row.block g rfl
        have F0 := Lib.hid f0
        have F1 := Lib.hid f1
        have F2 := Lib.hid f2
        have F3 := Lib.hid f3
        have HGL := Lib.hid hgl
        have HCUG := Lib.hid hcug
        clear f0 f1 f2 f3 hyi hml hln hgl hcug
        go_wp2_with (first
          | (rw [HW1.out])
          | (refine wpList_store_row rfl 60 (.tmp 7) (.tmp 25) rfl wr.heap.size #[.int .u64 q, .slice xa xl xc, .bool xt, .int .i64 xw] (by rfl) (by rfl) 60 #[.int .u64 0, .slice none 0 0, .bool false, .int .i64 0] R1.out (by kernel_rfl) rfl (by simp [Value.oneCell']) ?_; rw [HW2.out])
          | (refine wpList_load_row rfl 60 (.tmp 7) rfl wr.heap.size (by rfl) 60 #[.int .u64 q, .slice xa xl xc, .bool xt, .int .i64 xw] (0, 0) _ R2.out Try.underlying60 rfl (by kernel_rfl) ?_)
          | (go_at_call 26
             refine KC.mono ?_
             rintro e w3 ⟨rfl, b3⟩
             have B3 := Lib.hid (B2.out.trans (b3.mono B2.out.size))
             have R2 := Lib.hid ((b3.block _ (blt R2.out)).trans R2.out)
             have q3 : ∀ a : Addr, a.block = g → w3.cell? a = wr.cell? a := fun a ha => B3.out.cell (by rw [ha]; exact HGL.out)
             have f0 := (q3 ⟨g, o + i * 4, none⟩ rfl).trans F0.out
             have f1 := (q3 ⟨g, o + i * 4 + 1, none⟩ rfl).trans F1.out
             have f2 := (q3 ⟨g, o + i * 4 + 2, none⟩ rfl).trans F2.out
             have f3 := (q3 ⟨g, o + i * 4 + 3, none⟩ rfl).trans F3.out
             have hg3 := (B3.out.block g HGL.out).trans HCUG.out
             have z0 := frz_row (o + i * 4) hg3
             have z1 := frz_row (o + i * 4 + 1) hg3
             have z2 := frz_row (o + i * 4 + 2) hg3
             have z3 := frz_row (o + i * 4 + 3) hg3
             clear b3 q3 hg3 KC))
        go_roundw
        case rel =>
          have hi := HI.out
          have hxl := HXL.out
          subst hxl
          obtain ⟨s1, s2⟩ := RowO.store4 (J.out.row.below B3.out) (by rw [delM_len L d j (by have := HN.out; omega) (by have := HN.out; omega)]; exact HN.out) (k := i) (by omega) ⟨q, ⟨xB, xa, xc⟩, xt, xw⟩ _ _ _ _ rfl rfl
          refine ⟨j + 1, by omega, by omega, by rw [show j + 1 - d = i + 1 by omega]; go_num, by go_num, Lib.hid ⟨?_, (J.out.kp.trans (KP.of_below B3.out) fun _ _ h => h).trans s2 fun _ _ h => h⟩⟩
          have hjl : j < L.length := by rw [HN.out]; exact hjn
          have hxe : L[j] = ⟨q, ⟨xB, xa, xc⟩, xt, xw⟩ := by
            have := HXJ.out
            rw [List.getElem?_eq_getElem hjl] at this
            exact Option.some.inj this
          rw [delM_succ L d j (by omega) hjl h0, hi, hxe]
          exact s1
        case measure => simp [intOf]; omega
    · have hjn' : j = n := by omega
      subst hjn'
      have hji : ¬ (j : Int) < (j : Int) := by omega
      obtain ⟨i, hi⟩ : ∃ i, j - d = i := ⟨_, rfl⟩
      have HI := Lib.hid hi
      rw [hi]
      obtain ⟨cug, hcug⟩ := J.out.row.block g rfl
      have hfz : ∀ a, wr.frozen? ⟨g, a, none⟩ = false := fun a => frz_row a hcug
      have hsz : o + cp * 4 ≤ cug.size := by
        rcases J.out.row.2 with ⟨h0, _⟩ | ⟨g', o', cap, cu, h1, hg, h2, h3, h4, h5⟩
        · cases h0
        · cases h1
          rw [hcug] at hg
          cases hg
          exact h4
      have hcl : ∀ ty, (Builtin.clear_ #[56] ty #[.slice (some ⟨g, o + i * 4, none⟩) (j - i) (cp - i)]).run Try.prog wr = .ok (.tuple #[]) (wr.setCells g (o + i * 4) (Builtin.zeroCells #[.int .u64 0, .slice none 0 0, .bool false, .int .i64 0] (j - i)).toList) := fun ty => clearS wr ty g (o + i * 4) (j - i) (cp - i) (by omega) (fun a ha => by rw [cell_of_row _ _ _ _ _ _ hcug]; simp; omega) hfz
      have f1 : (0 : Int) ≤ (i : Int) := by omega
      have f2 : (i : Int) ≤ (j : Int) := by omega
      have f3 : (j : Int) ≤ (cp : Int) := by omega
      have f4 : (i : Int) < (cp : Int) := by omega
      have HNC := Lib.hid hncp
      obtain ⟨wz, hwz⟩ : ∃ Y, wr.setCells g (o + i * 4) (Builtin.zeroCells #[.int .u64 0, .slice none 0 0, .bool false, .int .i64 0] (j - i)).toList = Y := ⟨_, rfl⟩
      rw [hwz] at hcl
      have HZ := Lib.hid hwz
      have hne : ¬ (cp : Int) = (i : Int) := by omega
      have hne2 : ¬ cp = i := by omega
      clear hwz hcug hsz hfz
      go_wp2
      go_ret
      have hk := KP.setCells (S := fun k => k = g) rfl (Builtin.zeroCells #[.int .u64 0, .slice none 0 0, .bool false, .int .i64 0] (j - i)).toList (o + i * 4) wr
      rw [HZ.out] at hk
      have ht := RowO.take_ Ls.sz (k := i) J.out.row (by rw [delM_len L d j (by have := HN.out; omega) (by have := HN.out; omega)]; exact HN.out) (by omega)
      have ht2 := ht.tail_ (Builtin.zeroCells #[.int .u64 0, .slice none 0 0, .bool false, .int .i64 0] (j - i)).toList (o + i * 4) (Nat.le_refl _) HZ.out
      have e1 : (delM L d j).take i = L.drop d := by
        have := delM_end L d (by have := HN.out; omega)
        rw [HN.out, HI.out] at this
        exact this
      rw [e1] at ht2
      have hi := HI.out
      exact ⟨rfl, ht2, J.out.kp.trans hk fun _ _ h => h⟩

end Go.Proofs.Ytnagbiicpecamaa
