/-
  The program's acknowledge, with slices.IndexFunc and slices.DeleteFunc over what waits: by exact answers. Condition: the row lies in memory; those that go stand first.
-/
import Derived.Test.YtnagbiicpecamaaJox
namespace Go.Proofs.Ytnagbiicpecamaa
set_option linter.unusedSimpArgs false
set_option linter.unusedVariables false
open Go.RowKit Go.Maps Go.Sort

set_option maxRecDepth 100000 in
set_option maxHeartbeats 1000000 in
theorem clsL (ab ack q xl xc : Nat) (xa : Option Addr) (xt : Bool) (xw : Int) (W : World) (h : W.cell? ⟨ab, 0, none⟩ = some (.int .u64 ack)) :
    Calls Try.prog 26 #[.agg #[.int .u64 q, .slice xa xl xc, .bool xt, .int .i64 xw], .pointer (some ⟨ab, 0, none⟩)] W fun e W' => e = .returned (.bool (decide (q < ack))) ∧ Below W.heap.size W W' := by
  obtain ⟨W1, hW1⟩ : ∃ W1, W.alloc (.cells #[.int .u64 q, .slice xa xl xc, .bool xt, .int .i64 xw] 60) = W1 := ⟨_, rfl⟩
  have b1 : Below W.heap.size W W1 := by rw [← hW1]; exact (Below.refl _ _).alloc (Nat.le_refl _) _
  have r1 : W1.heap[W.heap.size]? = some (.cells #[.int .u64 q, .slice xa xl xc, .bool xt, .int .i64 xw] 60 (0, 0)) := by rw [← hW1]; exact heap_alloc_new _ _
  have hl : ab < W.heap.size := World.block_lt_of_cell? W ⟨ab, 0, none⟩ h
  have h1 : W1.cell? ⟨ab, 0, none⟩ = some (.int .u64 ack) := (b1.cell (p := ⟨ab, 0, none⟩) hl).trans h
  have c0 := cell_of r1 0 (.int .u64 q) rfl
  have HW := Lib.hid hW1
  have B1 := Lib.hid b1
  clear h hW1 b1 r1 hl
  go_enter Try.func26, Try.ntmps26
  go_wp2_with (refine wpList_bx rfl 60 (.tmp 0) rfl 2 rfl #[.int .u64 q, .slice xa xl xc, .bool xt, .int .i64 xw] rfl ?_; rw [HW.out])
  go_ret
  refine ⟨?_, B1.out⟩
  congr 2

set_option maxRecDepth 100000 in
set_option maxHeartbeats 2000000 in
theorem idxL (W : World) (g o n cp ab ack d : Nat) (L : List Ls) (hn : L.length = n) (h : RowO W 60 4 (.slice (some ⟨g, o, none⟩) n cp) n (flat Ls.cs L)) (ha : W.heap[ab]? = some (.cells #[.int .u64 ack] 22 (0, 0))) (hd : ∀ i x, L[i]? = some x → (x.seq < ack ↔ i < d)) (hdn : d ≤ n) (hn32 : n ≤ 32) :
    Calls Try.prog 27 #[.slice (some ⟨g, o, none⟩) n cp, .func (.func 26) #[] #[.pointer (some ⟨ab, 0, none⟩)]] W fun e W' => e = .returned (.int .i64 (if 0 < d then 0 else -1)) ∧ Below W.heap.size W W' := by
  have HR := Lib.hid h
  have HA := Lib.hid ha
  have HD := Lib.hid hd
  have HN := Lib.hid hn
  clear h ha hd hn
  go_enter Try.func27, Try.ntmps27
  go_wp2_with fail
  go_loopw [8] (fun iv wr => ∃ k : Nat, k ≤ n ∧ (0 < d → k = 0) ∧ iv = .int .i64 k ∧ Hid (Below W.heap.size W wr)) (fun iv _ => n - (intOf iv).toNat)
  case atStart => exact ⟨0, Nat.zero_le _, fun _ => rfl, rfl, Lib.hid (Below.refl _ _)⟩
  case round =>
    obtain ⟨k, hk, hk0, rfl, J⟩ := hrel
    by_cases hkn : k < n
    · have hki : (k : Int) < (n : Int) := by omega
      obtain ⟨x, hxk⟩ : ∃ x, L[k]? = some x := ⟨L[k]'(by rw [HN.out]; exact hkn), by simp [HN.out, hkn]⟩
      have row := HR.out.below J.out
      have hs := HD.out k x hxk
      obtain ⟨q, ⟨xB, xa, xc⟩, xt, xw⟩ := x
      have e0 := RowO.elem Ls.sz row hxk (j := 0) (by decide)
      have e1 := RowO.elem Ls.sz row hxk (j := 1) (by decide)
      have e2 := RowO.elem Ls.sz row hxk (j := 2) (by decide)
      have e3 := RowO.elem Ls.sz row hxk (j := 3) (by decide)
      simp only [Ls.cs, List.getElem?_toArray, List.getElem?_cons_zero, List.getElem?_cons_succ, Nat.add_zero] at e0 e1 e2 e3
      have hs' : q < ack ↔ k < d := hs
      obtain ⟨xl, hxl⟩ : ∃ xl, xB.length = xl := ⟨_, rfl⟩
      rw [hxl] at e1
      have KC := clsL ab ack q xl xc xa xt xw wr (cell_of ((J.out.block ab (blt HA.out)).trans HA.out) 0 _ rfl)
      have HS := Lib.hid hs'
      have HK0 := Lib.hid hk0
      clear row hs hs' hxk hxl hk0
      by_cases h0 : 0 < d
      · have hkd := HK0.out h0
        have hq : q < ack := HS.out.2 (by omega)
        have e : decide (q < ack) = true := by simpa using hq
        rw [e] at KC
        have HQ := Lib.hid hkd
        clear hkd hq e
        go_wp2_with (first
          | (go_at_call 26
             refine KC.mono ?_
             rintro e w2 ⟨rfl, b2⟩
             have B2 := Lib.hid b2
             clear b2))
        go_ret
        have hq := HQ.out
        subst hq
        exact ⟨by simp [h0], J.out.trans (B2.out.mono J.out.size)⟩
      · have hq : ¬ q < ack := fun h => by have := HS.out.1 h; omega
        have e : decide (q < ack) = false := by simpa using hq
        rw [e] at KC
        clear hq e
        go_wp2_with (first
          | (go_at_call 26
             refine KC.mono ?_
             rintro e w2 ⟨rfl, b2⟩
             have B2 := Lib.hid b2
             clear b2))
        go_roundw
        case rel => exact ⟨k + 1, by omega, fun h => absurd h h0, by go_num, Lib.hid (J.out.trans (B2.out.mono J.out.size))⟩
        case measure => simp [intOf]; omega
    · have hki : ¬ (k : Int) < (n : Int) := by omega
      have h0 : Hid (¬ 0 < d) := Lib.hid (fun h => by have := hk0 h; omega)
      clear hk0
      go_wp2
      go_ret
      exact ⟨by simp [h0.out], J.out⟩

theorem zero4 {u : Value} {d : Nat} (hu : u ∈ (Builtin.zeroCells #[.int .u64 0, .slice none 0 0, .bool false, .int .i64 0] d).toList) : u.oneCell' = true := by
  unfold Builtin.zeroCells at hu
  simp only [Array.toList_map, List.mem_map] at hu
  obtain ⟨i, _, rfl⟩ := hu
  have h4 : i % 4 < 4 := Nat.mod_lt _ (by decide)
  show ((#[.int .u64 0, .slice none 0 0, .bool false, .int .i64 0] : Array Value)[i % 4]!).oneCell' = true
  rcases (by omega : i % 4 = 0 ∨ i % 4 = 1 ∨ i % 4 = 2 ∨ i % 4 = 3) with e | e | e | e <;> rw [e] <;> rfl
theorem clearS (W : World) (ty : TypeId) (g a d c : Nat) (hd : 0 < d) (hc : ∀ j, j < d * 4 → (W.cell? ⟨g, a + j, none⟩).isSome = true) (hf : ∀ j, W.frozen? ⟨g, j, none⟩ = false) :
    (Builtin.clear_ #[56] ty #[.slice (some ⟨g, a, none⟩) d c]).run Try.prog W = .ok (.tuple #[]) (W.setCells g a (Builtin.zeroCells #[.int .u64 0, .slice none 0 0, .bool false, .int .i64 0] d).toList) := by
  have hv : ∀ w, (zeroValue 60).run Try.prog w = .ok (.agg #[.int .u64 0, .slice none 0 0, .bool false, .int .i64 0]) w := fun w => by kernel_rfl
  have hl : (Builtin.zeroCells #[.int .u64 0, .slice none 0 0, .bool false, .int .i64 0] d).toList.length = d * 4 := by
    rw [Array.length_toList, size_zeroCells]
    rfl
  have hst := run_storeCells_cells (P := Try.prog) g a (Builtin.zeroCells #[.int .u64 0, .slice none 0 0, .bool false, .int .i64 0] d).toList 0 W (by rw [hl]; simpa using hc) (by intro j _; exact hf _) (fun v hv => zero4 hv)
  simp only [Nat.add_zero] at hst
  have HST := Lib.hid hst
  clear hst
  obtain ⟨d', rfl⟩ : ∃ d', d = d' + 1 := ⟨d - 1, by omega⟩
  simp [Builtin.clear_, run_underlying Try.underlying56, hv, Value.cells]
  rw [HST.out]
  rfl
/-- the row while what stays is moved down. -/
def delM (L : List Ls) (d j : Nat) : List Ls := (L.drop d).take (j - d) ++ L.drop (j - d)
theorem delM_len (L : List Ls) (d j : Nat) (h1 : d ≤ L.length) (h2 : j ≤ L.length) : (delM L d j).length = L.length := by
  simp [delM]
  omega
theorem delM_zero (L : List Ls) (d : Nat) (j : Nat) (h : j ≤ d) : delM L d j = L := by
  have e : j - d = 0 := by omega
  simp [delM, e]
theorem delM_at (L : List Ls) (d j : Nat) (hd : d ≤ L.length) (hj : j < L.length) : (delM L d j)[j]? = L[j]? := by
  unfold delM
  have e2 : ((L.drop d).take (j - d)).length = j - d := by simp; omega
  rw [List.getElem?_append_right (by rw [e2]; omega), e2, List.getElem?_drop]
  congr 1
  omega
theorem delM_succ (L : List Ls) (d j : Nat) (hd : d ≤ j) (hj : j < L.length) (hd0 : 0 < d) : delM L d (j + 1) = (delM L d j).set (j - d) L[j] := by
  unfold delM
  have e1 : j + 1 - d = (j - d) + 1 := by omega
  have e2 : ((L.drop d).take (j - d)).length = j - d := by simp; omega
  rw [e1, List.set_append_right (h := by omega), e2, Nat.sub_self, List.take_succ_eq_append_getElem (by simp; omega), List.append_assoc]
  congr 1
  have e3 : j - d < L.length := by omega
  have e4 : d + (j - d) = j := by omega
  rw [List.drop_eq_getElem_cons e3, List.set_cons_zero]
  simp only [List.getElem_drop, e4, List.singleton_append]
theorem delM_end (L : List Ls) (d : Nat) (hd : d ≤ L.length) : (delM L d L.length).take (L.length - d) = L.drop d := by
  unfold delM
  have e : (L.drop d).take (L.length - d) = L.drop d := List.take_of_length_le (by simp)
  rw [e, List.take_append_of_le_length (by simp), List.take_of_length_le (by simp)]
/-- a row of which less is taken. -/
theorem RowO.take_ {α : Type} {f : α → Array Value} {W : World} {e : TypeId} {sz g o n c k : Nat} {L : List α} (hs : ∀ x, (f x).size = sz) (h : RowO W e sz (.slice (some ⟨g, o, none⟩) n c) n (flat f L)) (hn : L.length = n) (hk : k ≤ n) : RowO W e sz (.slice (some ⟨g, o, none⟩) k c) k (flat f (L.take k)) := by
  refine ⟨by rw [flat_len hs, List.length_take, hn, Nat.min_eq_left hk], ?_⟩
  rcases h.2 with ⟨h0, _⟩ | ⟨g', o', cap, cu, h1, hg, h2, h3, h4, h5⟩
  · cases h0
  · cases h1
    refine .inr ⟨g, o, c, cu, rfl, hg, by omega, h3, h4, fun j u hu => ?_⟩
    rw [← flat_take hs L k (by omega), List.getElem?_take] at hu
    split at hu
    · exact h5 j u hu
    · cases hu
/-- cells behind the row's end have changed. -/
theorem RowO.tail_ {W W' : World} {e : TypeId} {sz g o n c : Nat} {xs : List Value} (h : RowO W e sz (.slice (some ⟨g, o, none⟩) n c) n xs) (vs : List Value) (a : Nat) (ha : o + n * sz ≤ a) (hw : W.setCells g a vs = W') : RowO W' e sz (.slice (some ⟨g, o, none⟩) n c) n xs := by
  subst hw
  refine ⟨h.1, ?_⟩
  rcases h.2 with ⟨h0, _⟩ | ⟨g', o', cap, cu, h1, hg, h2, h3, h4, h5⟩
  · cases h0
  · cases h1
    obtain ⟨cur', k1, k2, k3⟩ := setCells_rowE vs a W cu hg
    refine .inr ⟨g, o, c, cur', rfl, k1, h2, h3, by rw [k2]; exact h4, fun j u hu => ?_⟩
    have hj := (List.getElem?_eq_some_iff.1 hu).1
    rw [h.1] at hj
    rw [k3 _ (.inl (by omega))]
    exact h5 j u hu
/-- an element of four cells that is stored. -/
theorem RowO.store4 {W W' : World} {e : TypeId} {g o n c : Nat} {L : List Ls} (h : RowO W e 4 (.slice (some ⟨g, o, none⟩) n c) n (flat Ls.cs L)) (hn : L.length = n) {k : Nat} (hk : k < n) (y : Ls) (u0 u1 u2 u3 : Value) (hy : y.cs = #[u0, u1, u2, u3])
    (hw : (((W.setCell ⟨g, o + k * 4, none⟩ u0).setCell ⟨g, o + k * 4 + 1, none⟩ u1).setCell ⟨g, o + k * 4 + 2, none⟩ u2).setCell ⟨g, o + k * 4 + 3, none⟩ u3 = W') :
    RowO W' e 4 (.slice (some ⟨g, o, none⟩) n c) n (flat Ls.cs (L.set k y)) ∧ KP (fun k => k = g) W W' := by
  subst hw
  have kp : ∀ (w : World) (i : Nat) (u : Value), KP (fun k => k = g) w (w.setCell ⟨g, i, none⟩ u) := fun w i u => KP.set (S := fun k => k = g) w g i u rfl
  refine ⟨?_, (((kp _ _ _).trans (kp _ _ _) fun _ _ h => h).trans (kp _ _ _) fun _ _ h => h).trans (kp _ _ _) fun _ _ h => h⟩
  obtain ⟨cur, hc⟩ := h.block g rfl
  have hc' := row_set (i := o + k * 4 + 3) (row_set (i := o + k * 4 + 2) (row_set (i := o + k * 4 + 1) (row_set (i := o + k * 4) hc u0) u1) u2) u3
  have hx : L[k]? = some (L[k]'(by omega)) := List.getElem?_eq_getElem (by omega)
  have hin0 : ∀ r, r < 4 → o + k * 4 + r < cur.size := fun r hr => by
    have e1 := RowO.elem Ls.sz h hx hr
    rw [cell_of_row _ _ _ _ _ _ hc] at e1
    have h2 : (L[k]'(by omega)).cs[r]? = some ((L[k]'(by omega)).cs[r]'(by rw [Ls.sz]; exact hr)) := by simp [Ls.sz, hr]
    rw [h2] at e1
    exact (Array.getElem?_eq_some_iff.1 e1).1
  refine RowO.setElem Ls.sz (by decide) h hn (by omega) y cur _ hc hc' (by simp)
    (fun j hj => by rw [Array.getElem?_setIfInBounds_ne (by omega), Array.getElem?_setIfInBounds_ne (by omega), Array.getElem?_setIfInBounds_ne (by omega), Array.getElem?_setIfInBounds_ne (by omega)])
    (fun r hr => by
      have i0 := hin0 r hr
      rw [hy]
      rcases (by omega : r = 0 ∨ r = 1 ∨ r = 2 ∨ r = 3) with rfl | rfl | rfl | rfl
      · rw [Array.getElem?_setIfInBounds_ne (by omega), Array.getElem?_setIfInBounds_ne (by omega), Array.getElem?_setIfInBounds_ne (by omega), Nat.add_zero, Array.getElem?_setIfInBounds_self]
        simp at i0
        simp [i0]
      · rw [Array.getElem?_setIfInBounds_ne (by omega), Array.getElem?_setIfInBounds_ne (by omega), Array.getElem?_setIfInBounds_self]
        simp [i0]
      · rw [Array.getElem?_setIfInBounds_ne (by omega), Array.getElem?_setIfInBounds_self]
        simp [i0]
      · rw [Array.getElem?_setIfInBounds_self]
        simp [i0])

end Go.Proofs.Ytnagbiicpecamaa
