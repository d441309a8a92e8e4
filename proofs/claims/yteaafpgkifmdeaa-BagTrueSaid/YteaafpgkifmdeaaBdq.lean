/-
  The document's bag: Twice, Take: by exact answers. Condition: the bag lies in memory.
-/
import Derived.Test.YteaafpgkifmdeaaBdp
namespace Go.Proofs.Yteaafpgkifmdeaa
set_option linter.unusedSimpArgs false
set_option linter.unusedVariables false
open Go.RowKit Go.Sort

set_option maxRecDepth 100000 in
set_option maxHeartbeats 400000 in
theorem twiceD_no (base r most : Nat) (v : Value) (M : List Lp) (i : Int) (W : World) (h : DB base W r most v M) (hi : i < 0 ∨ (M.length : Int) ≤ i) :
    Calls Try.prog 28 #[.pointer (some ⟨r, 0, none⟩), .int .i64 i] W fun e W' => e = .returned (.int .i64 3) ∧ W = W' := by
  have K := Lib.hid (there_no base r most v M i W h hi)
  clear h hi
  go_enter Try.func28, Try.ntmps28
  go_wp2_with fail
  refine K.out.mono ?_
  rintro e w' ⟨rfl, rfl⟩
  go_wp2
  go_ret
  exact ⟨rfl, rfl⟩

set_option maxRecDepth 100000 in
set_option maxHeartbeats 1000000 in
theorem twiceD_full (base r most : Nat) (v : Value) (M : List Lp) (i : Nat) (W : World) (h : DB base W r most v M) (hi : i < M.length) (hf : most ≤ M.length) :
    Calls Try.prog 28 #[.pointer (some ⟨r, 0, none⟩), .int .i64 i] W fun e W' => e = .returned (.int .i64 11) ∧ Below W.heap.size W W' := by
  have K := Lib.hid (there_yes base r most v M i W h hi)
  obtain ⟨g, c, hv, six, _, _⟩ := h.at_ hi
  have ok := h.ok _ (List.getElem_mem hi)
  have KA := Lib.hid (putD_full base r most v M M[i] W h hf)
  obtain ⟨x, hx⟩ : ∃ x, M[i] = x := ⟨_, rfl⟩
  rw [hx] at six KA ok
  skip
  have h3 := h.bag
  obtain ⟨n, hn⟩ : ∃ n, M.length = n := ⟨_, rfl⟩
  rw [hv, hn] at h3
  rw [hn] at hi
  obtain ⟨fn, fl, tn, tl, A, q, xc, bad, hcs⟩ : ∃ (fn fl tn tl : Nat) (A : Option Addr) (q xc : Nat) (bad : Bool), x.cs = #[.int .u8 fn, .int .u16 fl, .int .u8 tn, .int .u16 tl, .slice A q xc, .bool bad] := ⟨_, _, _, _, _, _, _, _, rfl⟩
  rw [hcs] at six KA
  obtain ⟨d0, d1, d2, d3, d4, d5⟩ := six
  simp only [List.getElem?_toArray, List.getElem?_cons_zero, List.getElem?_cons_succ] at d0 d1 d2 d3 d4 d5
  have c1 := cell_of h3 0 (.slice (some ⟨g, 0, none⟩) n c) rfl
  have hi0 : (0 : Int) ≤ (i : Int) := by omega
  have hi1 : (i : Int) < (n : Int) := by omega
  clear h hi hv ok hx h3 hn hcs hf
  go_enter Try.func28, Try.ntmps28
  go_wp2_with fail
  refine K.out.mono ?_
  rintro e w' ⟨rfl, rfl⟩
  go_wp2_with fail
  refine KA.out.mono ?_
  rintro e w4 ⟨rfl, b4⟩
  have B4 := Lib.hid b4
  clear b4
  go_wp2
  go_ret
  exact ⟨rfl, B4.out⟩

set_option maxRecDepth 100000 in
set_option maxHeartbeats 1000000 in
theorem twiceD_ok (base r most : Nat) (v : Value) (M : List Lp) (i : Nat) (W : World) (h : DB base W r most v M) (hi : i < M.length) (hf : M.length < most) :
    Calls Try.prog 28 #[.pointer (some ⟨r, 0, none⟩), .int .i64 i] W fun e W' => e = .returned (.int .i64 0) ∧ ∃ y v', y.p = M[i].p ∧ y.Ok W' W.heap.size ∧ DB base W' r most v' (M ++ [y]) ∧ KP (fun k => k = r ∨ v.ownBlock = some k) W W' := by
  have K := Lib.hid (there_yes base r most v M i W h hi)
  obtain ⟨g, c, hv, six, _, _⟩ := h.at_ hi
  have ok := h.ok _ (List.getElem_mem hi)
  have KA := Lib.hid (putD_ok base r most v M M[i] W h hf ok.own.at_ ok.len ok.nn)
  obtain ⟨x, hx⟩ : ∃ x, M[i] = x := ⟨_, rfl⟩
  rw [hx] at six KA ok
  rw [hx]
  have h3 := h.bag
  obtain ⟨n, hn⟩ : ∃ n, M.length = n := ⟨_, rfl⟩
  rw [hv, hn] at h3
  rw [hn] at hi
  obtain ⟨fn, fl, tn, tl, A, q, xc, bad, hcs⟩ : ∃ (fn fl tn tl : Nat) (A : Option Addr) (q xc : Nat) (bad : Bool), x.cs = #[.int .u8 fn, .int .u16 fl, .int .u8 tn, .int .u16 tl, .slice A q xc, .bool bad] := ⟨_, _, _, _, _, _, _, _, rfl⟩
  rw [hcs] at six KA
  obtain ⟨d0, d1, d2, d3, d4, d5⟩ := six
  simp only [List.getElem?_toArray, List.getElem?_cons_zero, List.getElem?_cons_succ] at d0 d1 d2 d3 d4 d5
  have c1 := cell_of h3 0 (.slice (some ⟨g, 0, none⟩) n c) rfl
  have hi0 : (0 : Int) ≤ (i : Int) := by omega
  have hi1 : (i : Int) < (n : Int) := by omega
  clear h hi hv ok hx h3 hn hcs hf
  go_enter Try.func28, Try.ntmps28
  go_wp2_with fail
  refine K.out.mono ?_
  rintro e w' ⟨rfl, rfl⟩
  go_wp2_with fail
  refine KA.out.mono ?_
  rintro e w4 ⟨rfl, y, v', hy, ok, P4, k4⟩
  have P4' := Lib.hid P4
  have OK := Lib.hid ok
  have K4 := Lib.hid k4
  have HY := Lib.hid hy
  clear P4 ok k4 hy
  go_wp2
  go_ret
  exact ⟨rfl, y, v', HY.out, OK.out, P4'.out, K4.out⟩

set_option maxRecDepth 100000 in
set_option maxHeartbeats 1000000 in
theorem takeD_no (base r most : Nat) (v : Value) (M : List Lp) (i : Int) (W : World) (h : DB base W r most v M) (hi : i < 0 ∨ (M.length : Int) ≤ i) :
    Calls Try.prog 27 #[.pointer (some ⟨r, 0, none⟩), .int .i64 i] W fun e W' => e = .returned (.tuple #[.agg Z6, .int .i64 3]) ∧ Below W.heap.size W W' := by
  obtain ⟨W1, hW1⟩ : ∃ W1, W.alloc (.cells Z6 36) = W1 := ⟨_, rfl⟩
  have b1 : Below W.heap.size W W1 := by rw [← hW1]; exact (Below.refl _ _).alloc (Nat.le_refl _) _
  have r1 : W1.heap[W.heap.size]? = some (.cells Z6 36 (0, 0)) := by rw [← hW1]; exact heap_alloc_new _ _
  unfold Z6 at *
  have K := Lib.hid (there_no base r most v M i W1 (h.below b1) hi)
  have HW := Lib.hid hW1
  have B1 := Lib.hid b1
  have R1 := Lib.hid r1
  clear h hW1 b1 r1 hi
  go_enter Try.func27, Try.ntmps27
  go_wp2_with (rw [HW.out])
  refine K.out.mono ?_
  rintro e w' ⟨rfl, rfl⟩
  go_wp2_with (refine wpList_store_row rfl 36 (.tmp 4) (.tmp 11) rfl W.heap.size #[.int .u8 0, .int .u16 0, .int .u8 0, .int .u16 0, .slice none 0 0, .bool false] (by rfl) (by rfl) 36 #[.int .u8 0, .int .u16 0, .int .u8 0, .int .u16 0, .slice none 0 0, .bool false] R1.out (by kernel_rfl) rfl (by simp [Value.oneCell']) ?_)
  exact bodyPost_ret (v := .tuple #[.agg #[.int .u8 0, .int .u16 0, .int .u8 0, .int .u16 0, .slice none 0 0, .bool false], .int .i64 3]) (results_cell2_row (p := 4) (u := 5) (ty := 36) rfl _ _ W.heap.size 36 _ (0, 0) _ (by rfl) (setRow_heap _ _ _ _ _ _ R1.out) Try.underlying36 rfl (by kernel_rfl)) rfl ⟨rfl, below_row B1.out (Nat.le_refl _) _⟩

/-- the reslicings of the document's list. -/
theorem slToD (g n c k : Nat) (hk : k ≤ n) (hc : n ≤ c) (w : World) : (Instr.sliceAt 40 (.slice (some ⟨g, 0, none⟩) n c) none (some (.int .i64 (k : Int))) none).run Try.prog w = .ok (.slice (some ⟨g, 0, none⟩) k c) w := by
  have h1 : (0 : Int) ≤ (k : Int) := by omega
  have h2 : (k : Int) ≤ (c : Int) := by omega
  go_simp
theorem slFromD (g n c k : Nat) (hk : k ≤ n) (hc : n ≤ c) : ∃ o, (∀ w, (Instr.sliceAt 40 (.slice (some ⟨g, 0, none⟩) n c) (some (.int .i64 (k : Int))) none none).run Try.prog w = .ok (.slice (some ⟨g, o, none⟩) (n - k) (c - k)) w) ∧ (k < n → o = k * 6) := by
  have h1 : (0 : Int) ≤ (k : Int) := by omega
  have h2 : (k : Int) ≤ (n : Int) := by omega
  have h3 : (n : Int) ≤ (c : Int) := by omega
  by_cases e : c = k
  · subst e
    exact ⟨0, fun w => by go_simp, fun h => by omega⟩
  · have h4 : (k : Int) < (c : Int) := by omega
    exact ⟨0 + k * 6, fun w => by go_simp, fun _ => by omega⟩
/-- parts of an owned row. -/
theorem cells_take {W : World} {base n c g : Nat} {e : TypeId} {L : List Lp} (h : W.ownsRow base e 6 (.slice (some ⟨g, 0, none⟩) n c) n (cellsL L)) (k : Nat) : ∀ j u, (cellsL (L.take k))[j]? = some u → W.cell? ((⟨g, 0, none⟩ : Addr).add j) = some u := fun j u hu => by
  refine h.cells (g := g) rfl j u ?_
  have h2 : cellsL L = cellsL (L.take k) ++ cellsL (L.drop k) := by rw [← cellsL_append, List.take_append_drop]
  rw [h2, List.getElem?_append_left (List.getElem?_eq_some_iff.1 hu).1]
  exact hu
theorem cells_drop {W : World} {base n c g o : Nat} {e : TypeId} {L : List Lp} (h : W.ownsRow base e 6 (.slice (some ⟨g, 0, none⟩) n c) n (cellsL L)) (k : Nat) (ho : k < L.length → o = k * 6) : ∀ j u, (cellsL (L.drop k))[j]? = some u → W.cell? ((⟨g, o, none⟩ : Addr).add j) = some u := fun j u hu => by
  have hj := (List.getElem?_eq_some_iff.1 hu).1
  rw [cellsL_length, List.length_drop] at hj
  have hk : k < L.length := by omega
  rw [ho hk, addr_add]
  have h2 : cellsL L = cellsL (L.take k) ++ cellsL (L.drop k) := by rw [← cellsL_append, List.take_append_drop]
  have h3 : (cellsL L)[k * 6 + j]? = some u := by
    rw [h2, List.getElem?_append_right (by rw [cellsL_length, List.length_take]; omega), cellsL_length, List.length_take, show min k L.length = k by omega, Nat.add_sub_cancel_left]
    exact hu
  have h4 := h.cells (g := g) rfl (k * 6 + j) u h3
  rwa [addr_add, Nat.zero_add] at h4

set_option maxRecDepth 100000 in
set_option maxHeartbeats 2000000 in
theorem takeD_yes (base r most : Nat) (v : Value) (M : List Lp) (i : Nat) (W : World) (h : DB base W r most v M) (hi : i < M.length) :
    Calls Try.prog 27 #[.pointer (some ⟨r, 0, none⟩), .int .i64 i] W fun e W' => e = .returned (.tuple #[.agg M[i].cs, .int .i64 0]) ∧ M[i].Ok W' base ∧ ∃ v', DB base W' r most v' (M.take i ++ M.drop (i + 1)) ∧ KP (fun k => k = r) W W' := by
  obtain ⟨W1, hW1⟩ : ∃ W1, W.alloc (.cells #[.int .u8 0, .int .u16 0, .int .u8 0, .int .u16 0, .slice none 0 0, .bool false] 36) = W1 := ⟨_, rfl⟩
  have b1 : Below W.heap.size W W1 := by rw [← hW1]; exact (Below.refl _ _).alloc (Nat.le_refl _) _
  have r1 : W1.heap[W.heap.size]? = some (.cells #[.int .u8 0, .int .u16 0, .int .u8 0, .int .u16 0, .slice none 0 0, .bool false] 36 (0, 0)) := by rw [← hW1]; exact heap_alloc_new _ _
  have s1 : W1.heap.size = W.heap.size + 1 := by rw [← hW1]; simp
  have P1 := h.below b1
  have K := Lib.hid (there_yes base r most v M i W1 P1 hi)
  obtain ⟨g, c, hv, six, hlc, hcm⟩ := P1.at_ hi
  have hmost := h.most
  have hfew := h.few
  obtain ⟨x, hx⟩ : ∃ x, M[i] = x := ⟨_, rfl⟩
  have okx := h.ok _ (List.getElem_mem hi)
  rw [hx] at six okx ⊢
  obtain ⟨n, hn⟩ : ∃ n, M.length = n := ⟨_, rfl⟩
  subst hv
  rw [hn] at hlc hfew hi
  obtain ⟨W3, hW3⟩ : ∃ X, W1.alloc (.cells #[.int .u8 0, .int .u16 0, .int .u8 0, .int .u16 0, .slice none 0 0, .bool false] 36) = X := ⟨_, rfl⟩
  have b3 : Below W1.heap.size W1 W3 := by rw [← hW3]; exact (Below.refl _ _).alloc (Nat.le_refl _) _
  have r3 : W3.heap[W.heap.size + 1]? = some (.cells #[.int .u8 0, .int .u16 0, .int .u8 0, .int .u16 0, .slice none 0 0, .bool false] 36 (0, 0)) := by rw [← hW3, ← s1]; exact heap_alloc_new _ _
  obtain ⟨fn, fl, tn, tl, A, q, xc, bad, hcs⟩ : ∃ (fn fl tn tl : Nat) (A : Option Addr) (q xc : Nat) (bad : Bool), x.cs = #[.int .u8 fn, .int .u16 fl, .int .u8 tn, .int .u16 tl, .slice A q xc, .bool bad] := ⟨_, _, _, _, _, _, _, _, rfl⟩
  rw [hcs] at six ⊢
  obtain ⟨W4, hW4⟩ : ∃ X, W3.setRow (W.heap.size + 1) #[.int .u8 fn, .int .u16 fl, .int .u8 tn, .int .u16 tl, .slice A q xc, .bool bad] = X := ⟨_, rfl⟩
  have r4 : W4.heap[W.heap.size + 1]? = some (.cells #[.int .u8 fn, .int .u16 fl, .int .u8 tn, .int .u16 tl, .slice A q xc, .bool bad] 36 (0, 0)) := by rw [← hW4]; exact setRow_heap _ _ _ _ _ _ r3
  have b4 : Below W1.heap.size W1 W4 := by rw [← hW4]; exact below_row b3 (by omega) _
  obtain ⟨W5, hW5⟩ : ∃ X, W4.drew = X := ⟨_, rfl⟩
  have b5 : Below W1.heap.size W1 W5 := by rw [← hW5]; exact b4.drew
  have B5 := b1.trans (b5.mono b1.size)
  have P5 := h.below B5
  have r5 : W5.heap[W.heap.size + 1]? = some (.cells #[.int .u8 fn, .int .u16 fl, .int .u8 tn, .int .u16 tl, .slice A q xc, .bool bad] 36 (0, 0)) := by rw [← hW5]; exact r4
  have q5 : W5.heap[W.heap.size]? = some (.cells #[.int .u8 0, .int .u16 0, .int .u8 0, .int .u16 0, .slice none 0 0, .bool false] 36 (0, 0)) := (b5.block _ (by omega)).trans r1
  have hb1 := P1.bag
  have hb5 := P5.bag
  rw [hn] at hb1 hb5
  have a0 := cell_of hb1 0 (.slice (some ⟨g, 0, none⟩) n c) rfl
  have hrow := P5.row
  rw [hn] at hrow
  obtain ⟨o5, h5, h5o⟩ := slFromD g n c (i + 1) (by omega) hlc
  rw [show (((i + 1 : Nat) : Int)) = (i : Int) + 1 by omega] at h5
  obtain ⟨c0, c1, c2, c3, c4, c5⟩ := six
  simp only [List.getElem?_toArray, List.getElem?_cons_zero, List.getElem?_cons_succ] at c0 c1 c2 c3 c4 c5
  have HT := Lib.hid (slToD g n c i (by omega) hlc)
  have H5 := Lib.hid h5
  have H5O := Lib.hid h5o
  have OKX := Lib.hid okx
  have HN := Lib.hid hn
  have HW := Lib.hid hW1
  have HW3 := Lib.hid hW3
  have HW4 := Lib.hid hW4
  have HW5 := Lib.hid hW5
  have PP5 := Lib.hid P5
  have BB5 := Lib.hid B5
  have HB5 := Lib.hid hb5
  have R3 := Lib.hid r3
  have R5 := Lib.hid r5
  have Q5 := Lib.hid q5
  have HP := Lib.hid h
  have S1 := Lib.hid s1
  have HROW := Lib.hid hrow
  have hi2 : Hid (i < n) := Lib.hid hi
  have hn1 : Hid (n ≤ 2000) := Lib.hid (by omega)
  have hwr : IntKind.i64.wrap ((i : Int) + 1) = (i : Int) + 1 := IntWalk.i64_in _ (by omega)
  have HWR := Lib.hid hwr
  have hi0 : (0 : Int) ≤ (i : Int) := by omega
  have hi1 : (i : Int) < (n : Int) := by omega
  clear h hW1 b1 r1 s1 P1 hx okx hn hlc hcm hfew hi hW3 b3 r3 hcs hW4 r4 b4 hW5 b5 B5 P5 r5 q5 hrow h5 h5o hmost hwr hb1 hb5
  go_enter Try.func27, Try.ntmps27
  go_wp2_with (rw [HW.out])
  refine K.out.mono ?_
  rintro e w' ⟨rfl, rfl⟩
  clear K
  go_wp2_with (first
    | (rw [HW3.out])
    | (refine wpList_store_row rfl 36 (.tmp 6) (.tmp 18) rfl (W.heap.size + 1) #[.int .u8 fn, .int .u16 fl, .int .u8 tn, .int .u16 tl, .slice A q xc, .bool bad] (by rw [← S1.out]; rfl) (by rfl) 36 #[.int .u8 0, .int .u16 0, .int .u8 0, .int .u16 0, .slice none 0 0, .bool false] R3.out (by kernel_rfl) rfl (by simp [Value.oneCell']) ?_; rw [HW4.out]))
  clear a0 c0 c1 c2 c3 c4 c5
  refine region_heldT (S := fun X => X.heap[r]? = some (.cells #[.slice (some ⟨g, 0, none⟩) n c, .int .i64 most] 42 (0, 0))) 17 (by kernel_rfl) (by decide) (fun inv => ?_)
  change FirstH _ _ _ _ _ _ _ _ _ _ W4.drew
  rw [HW5.out]
  have HS : W5.heap[r]? = some (.cells #[.slice (some ⟨g, 0, none⟩) n c, .int .i64 most] 42 (0, 0)) := HB5.out
  try simp only [Act.put, List.setIfInBounds_toArray, List.set_cons_zero, List.set_cons_succ]
  refine FirstH.go (i := 0) (v := .pointer (some ⟨r, 0, none⟩)) rfl rfl _ rfl _ rfl (by kernel_rfl) (fun _ _ _ h => h) inv (fun X _ => by unfold bareO; go_simp) HS (fun inv => ?_)
  try simp only [Act.put, List.setIfInBounds_toArray, List.set_cons_zero, List.set_cons_succ]
  refine FirstH.go (i := 2) (v := .pointer (some ⟨r, 0, none⟩)) rfl rfl _ rfl _ rfl (by kernel_rfl) (fun _ _ _ h => h) inv (fun X _ => by unfold bareO; go_simp) HS (fun inv => ?_)
  try simp only [Act.put, List.setIfInBounds_toArray, List.set_cons_zero, List.set_cons_succ]
  refine FirstH.go (i := 3) (v := .pointer (some ⟨r, 0, none⟩)) rfl rfl _ rfl _ rfl (by kernel_rfl) (fun _ _ _ h => h) inv (fun X _ => by unfold bareO; go_simp) HS (fun inv => ?_)
  try simp only [Act.put, List.setIfInBounds_toArray, List.set_cons_zero, List.set_cons_succ]
  refine FirstH.go (i := 4) (v := .pointer (some ⟨r, 0, none⟩)) rfl rfl _ rfl _ rfl (by kernel_rfl) (fun _ _ _ h => h) inv (fun X _ => by unfold bareO; go_simp) HS (fun inv => ?_)
  try simp only [Act.put, List.setIfInBounds_toArray, List.set_cons_zero, List.set_cons_succ]
  refine FirstH.go (i := 5) (v := .slice (some ⟨g, 0, none⟩) n c) rfl rfl _ rfl _ rfl (by kernel_rfl) (fun _ _ _ h => h) inv (fun X hS => by have c1 := cell_of hS 0 (.slice (some ⟨g, 0, none⟩) n c) rfl; unfold bareO; go_simp) HS (fun inv => ?_)
  try simp only [Act.put, List.setIfInBounds_toArray, List.set_cons_zero, List.set_cons_succ]
  refine FirstH.go (i := 6) (v := .int .i64 i) rfl rfl _ rfl _ rfl (by kernel_rfl) (fun _ _ _ h => h) inv (fun X _ => by unfold bareO; go_simp) HS (fun inv => ?_)
  try simp only [Act.put, List.setIfInBounds_toArray, List.set_cons_zero, List.set_cons_succ]
  refine FirstH.go (i := 7) (v := .slice (some ⟨g, 0, none⟩) i c) rfl rfl _ rfl _ rfl (by kernel_rfl) (fun _ _ _ h => h) inv (fun X _ => run_slB rfl rfl rfl (HT.out X)) HS (fun inv => ?_)
  try simp only [Act.put, List.setIfInBounds_toArray, List.set_cons_zero, List.set_cons_succ]
  refine FirstH.go (i := 9) (v := .pointer (some ⟨r, 0, none⟩)) rfl rfl _ rfl _ rfl (by kernel_rfl) (fun _ _ _ h => h) inv (fun X _ => by unfold bareO; go_simp) HS (fun inv => ?_)
  try simp only [Act.put, List.setIfInBounds_toArray, List.set_cons_zero, List.set_cons_succ]
  refine FirstH.go (i := 10) (v := .pointer (some ⟨r, 0, none⟩)) rfl rfl _ rfl _ rfl (by kernel_rfl) (fun _ _ _ h => h) inv (fun X _ => by unfold bareO; go_simp) HS (fun inv => ?_)
  try simp only [Act.put, List.setIfInBounds_toArray, List.set_cons_zero, List.set_cons_succ]
  refine FirstH.go (i := 11) (v := .pointer (some ⟨r, 0, none⟩)) rfl rfl _ rfl _ rfl (by kernel_rfl) (fun _ _ _ h => h) inv (fun X _ => by unfold bareO; go_simp) HS (fun inv => ?_)
  try simp only [Act.put, List.setIfInBounds_toArray, List.set_cons_zero, List.set_cons_succ]
  refine FirstH.go (i := 12) (v := .slice (some ⟨g, 0, none⟩) n c) rfl rfl _ rfl _ rfl (by kernel_rfl) (fun _ _ _ h => h) inv (fun X hS => by have c1 := cell_of hS 0 (.slice (some ⟨g, 0, none⟩) n c) rfl; unfold bareO; go_simp) HS (fun inv => ?_)
  try simp only [Act.put, List.setIfInBounds_toArray, List.set_cons_zero, List.set_cons_succ]
  refine FirstH.go (i := 13) (v := .int .i64 i) rfl rfl _ rfl _ rfl (by kernel_rfl) (fun _ _ _ h => h) inv (fun X _ => by unfold bareO; go_simp) HS (fun inv => ?_)
  try simp only [Act.put, List.setIfInBounds_toArray, List.set_cons_zero, List.set_cons_succ]
  refine FirstH.go (i := 14) (v := .int .i64 ((i : Int) + 1)) rfl rfl _ rfl _ rfl (by kernel_rfl) (fun _ _ _ h => h) inv (fun X _ => by have hwr := HWR.out; unfold bareO; go_simp) HS (fun inv => ?_)
  try simp only [Act.put, List.setIfInBounds_toArray, List.set_cons_zero, List.set_cons_succ]
  refine FirstH.go (i := 15) (v := .slice (some ⟨g, o5, none⟩) (n - (i + 1)) (c - (i + 1))) rfl rfl _ rfl _ rfl (by kernel_rfl) (fun _ _ _ h => h) inv (fun X _ => run_slB rfl rfl rfl (H5.out X)) HS (fun inv => ?_)
  try simp only [Act.put, List.setIfInBounds_toArray, List.set_cons_zero, List.set_cons_succ]
  clear HS
  refine FirstH.only (i := 1) (by kernel_rfl) (by decide) inv (fun inv => wpOp_vl (i := 1) (v := .slice (some ⟨W5.heap.size, 0, none⟩) 0 0) (w' := W5.alloc (.cells #[] 36)) rfl rfl 20 rfl _ rfl (by unfold bareO; go_simp) ?_)
  obtain ⟨W6, hW6⟩ : ∃ x, W5.alloc (.cells #[] 36) = x := ⟨_, rfl⟩
  have o6 : W6.ownsRow W5.heap.size 36 6 (.slice (some ⟨W5.heap.size, 0, none⟩) 0 0) 0 [] := by rw [← hW6]; exact ⟨rfl, .inr ⟨W5.heap.size, 0, #[], rfl, Nat.le_refl _, heap_alloc_new _ _, Nat.le_refl _, by unfold maxLen; omega, rfl, rfl⟩⟩
  have b6 : Below W5.heap.size W5 W6 := by rw [← hW6]; exact (Below.refl _ _).alloc (Nat.le_refl _) _
  rw [hW6]
  refine ⟨(b6.block _ (Array.getElem?_eq_some_iff.1 HB5.out).1).trans HB5.out, ?_⟩
  have O6 := Lib.hid o6
  have B6 := Lib.hid b6
  have ROW6 := Lib.hid (own_kept' HROW.out b6)
  clear o6 b6 hW6
  try simp only [Act.put, List.setIfInBounds_toArray, List.set_cons_zero, List.set_cons_succ]
  refine FirstH.only (i := 8) (by kernel_rfl) (by decide) inv (fun inv => wpOp_appD (i := 8) rfl rfl 27 rfl (.tmp 20) (.tmp 26) rfl W5.heap.size _ 0 [] rfl O6.out ⟨g, 0, none⟩ (M.take i) i c rfl (by rw [List.length_take, HN.out]; have := hi2.out; omega) (cells_take ROW6.out i) (by rw [List.length_take, HN.out]; have := hi2.out; have := hn1.out; omega) B6.out.size ?_)
  intro v7 W7 O7 g7
  have hg7 : W6.grownBy W7 (some W5.heap.size) := g7
  have b7 : Below W5.heap.size W5 W7 := B6.out.grown hg7 B6.out.size (fun k hk => by cases hk; exact Nat.le_refl _)
  refine ⟨(b7.block _ (Array.getElem?_eq_some_iff.1 HB5.out).1).trans HB5.out, ?_⟩
  have O7' := Lib.hid O7
  have B7 := Lib.hid b7
  have ROW7 := Lib.hid (own_kept' HROW.out b7)
  clear O7 g7 hg7 b7
  try simp only [Act.put, List.setIfInBounds_toArray, List.set_cons_zero, List.set_cons_succ]
  refine FirstH.only (i := 16) (by kernel_rfl) (by decide) inv (fun inv => wpOp_appD (i := 16) rfl rfl 35 rfl (.tmp 27) (.tmp 34) rfl W5.heap.size v7 (0 + (M.take i).length) _ rfl O7'.out ⟨g, o5, none⟩ (M.drop (i + 1)) (n - (i + 1)) (c - (i + 1)) rfl (by rw [List.length_drop, HN.out]) (cells_drop ROW7.out (i + 1) (fun h => H5O.out (by rw [← HN.out]; exact h))) (by rw [List.length_take, List.length_drop, HN.out]; have := hi2.out; have := hn1.out; omega) B7.out.size ?_)
  intro v8 W8 O8 g8
  have b8 : Below W5.heap.size W5 W8 := B7.out.grown g8 B7.out.size (fun k hk => (O7'.out.lt k hk).1)
  have l8 := (b8.block _ (Array.getElem?_eq_some_iff.1 HB5.out).1).trans HB5.out
  refine ⟨l8, ?_⟩
  have e1 : (M.take i ++ M.drop (i + 1)).length = n - 1 := by
    rw [List.length_append, List.length_take, List.length_drop, HN.out]
    have := hi2.out
    omega
  have O8' : W8.ownsRow W5.heap.size 36 6 v8 (n - 1) (cellsL (M.take i ++ M.drop (i + 1))) := by
    rw [cellsL_append, ← e1, List.length_append]
    simpa using O8
  obtain ⟨A8, c8, rfl⟩ : ∃ A8 c8, v8 = .slice A8 (n - 1) c8 := by
    rcases O8'.2 with ⟨h1, h2⟩ | ⟨g8, cap, cur, h1, _⟩
    · exact ⟨none, 0, by rw [h1, h2]⟩
    · exact ⟨_, _, h1⟩
  have c1 := cell_of l8 0 (.slice (some ⟨g, 0, none⟩) n c) rfl
  have z1 := frz_row 0 l8
  have O8h := Lib.hid O8'
  have B8 := Lib.hid b8
  have L8 := Lib.hid l8
  have E1 := Lib.hid e1
  have rw0 := (Array.getElem?_eq_some_iff.1 HP.out.bag).1
  have RW0 := Lib.hid rw0
  have R8 := Lib.hid ((b8.block _ (Array.getElem?_eq_some_iff.1 R5.out).1).trans R5.out)
  have Q8 := Lib.hid ((b8.block _ (Array.getElem?_eq_some_iff.1 Q5.out).1).trans Q5.out)
  clear O8 O8' g8 b8 l8 e1 rw0
  try simp only [Act.put, List.setIfInBounds_toArray, List.set_cons_zero, List.set_cons_succ]
  refine ⟨by kernel_rfl, ?_⟩
  simp only [List.drop_succ_cons, List.drop_zero]
  go_wp2_with (first
    | (refine wpList_load_row rfl 36 (.tmp 6) rfl (W.heap.size + 1) (by rw [← S1.out]; rfl) 36 #[.int .u8 fn, .int .u16 fl, .int .u8 tn, .int .u16 tl, .slice A q xc, .bool bad] (0, 0) _ (other_set R8.out (by have := RW0.out; omega) _) Try.underlying36 rfl (by kernel_rfl) ?_)
    | (refine wpList_store_row rfl 36 (.tmp 4) (.tmp 38) rfl W.heap.size #[.int .u8 fn, .int .u16 fl, .int .u8 tn, .int .u16 tl, .slice A q xc, .bool bad] (by rfl) (by rfl) 36 #[.int .u8 0, .int .u16 0, .int .u8 0, .int .u16 0, .slice none 0 0, .bool false] (other_set Q8.out (by have := RW0.out; omega) _) (by kernel_rfl) rfl (by simp [Value.oneCell']) ?_))
  have lw := RW0.out
  have ER := setRow_heap _ W.heap.size _ #[.int .u8 fn, .int .u16 fl, .int .u8 tn, .int .u16 tl, .slice A q xc, .bool bad] _ _ (other_set Q8.out (show W.heap.size ≠ r by omega) (i := 0) (.slice A8 (n - 1) c8))
  obtain ⟨WF, hWF⟩ : ∃ X, (W8.setCell ⟨r, 0, none⟩ (.slice A8 (n - 1) c8)).setRow W.heap.size #[.int .u8 fn, .int .u16 fl, .int .u8 tn, .int .u16 tl, .slice A q xc, .bool bad] = X := ⟨_, rfl⟩
  rw [hWF] at ER ⊢
  have s15 : W.heap.size ≤ W5.heap.size := BB5.out.size
  have far : ∀ (k : Nat) (o : Obj), W.heap[k]? = some o → k ≠ r → WF.heap[k]? = some o := fun k o h1 h2 => by
    have hk := (Array.getElem?_eq_some_iff.1 h1).1
    rw [← hWF]
    exact setRow_at (other_set ((B8.out.block k (by omega)).trans ((BB5.out.block k hk).trans h1)) h2 _) (by omega) _
  have ok7 : ∀ (z : Lp), z.Ok W base → z.Ok WF base := fun z hz => hz.keep fun k cur _ _ _ hk => far k _ hk (apart_of hk HP.out.bag (by decide))
  refine bodyPost_ret (v := .tuple #[.agg #[.int .u8 fn, .int .u16 fl, .int .u8 tn, .int .u16 tl, .slice A q xc, .bool bad], .int .i64 0]) (results_cell2_row (p := 4) (u := 5) (ty := 36) rfl _ _ W.heap.size 36 _ (0, 0) _ (by rfl) ER Try.underlying36 rfl (by kernel_rfl)) rfl ⟨rfl, ok7 x OKX.out, .slice A8 (n - 1) c8, ?_, ?_⟩
  · have hbs : base ≤ W5.heap.size := by have := HP.out.hr; omega
    have e2 : (M.take i ++ M.drop (i + 1)).Sublist M := by
      have := List.eraseIdx_sublist M i
      rwa [List.eraseIdx_eq_take_drop_succ] at this
    refine ⟨HP.out.hr, ?_, ?_, fun z hz => ok7 z (HP.out.ok z (e2.subset hz)), by rw [E1.out]; have := HP.out.few; rw [HN.out] at this; omega, HP.out.most⟩
    · rw [← hWF]
      exact (setRow_at (row_set L8.out _) (by omega) _).trans rfl
    · rw [E1.out, ← hWF]
      have h0 : W8.ownsRow base 36 6 (.slice A8 (n - 1) c8) (n - 1) (cellsL (M.take i ++ M.drop (i + 1))) := Joins.ownsRow_le O8h.out hbs
      have h1 := h0.kept (w' := W8.setCell ⟨r, 0, none⟩ (.slice A8 (n - 1) c8)) (row := some r) ⟨rfl, rfl, rfl, by simp [World.setCell], fun k _ hk => Below.heap_setCell _ _ _ _ (by simpa using hk)⟩ (.inr fun e => by have := (O8h.out.lt r e).1; omega)
      exact h1.kept (row := some W.heap.size) ⟨rfl, rfl, rfl, by simp [World.setRow], fun k _ hk => setRow_other _ _ _ _ (by simpa using hk)⟩ (.inr fun e => by have := (O8h.out.lt W.heap.size e).1; have h5 := (Array.getElem?_eq_some_iff.1 Q5.out).1; omega)
  · rw [← hWF]
    have k1 : KP (fun k => k = r) W W8 := (KP.of_below BB5.out).trans (KP.of_below B8.out) fun _ _ h => h
    have k2 := k1.trans (KP.set (S := fun k => k = r) W8 r 0 (.slice A8 (n - 1) c8) rfl) fun k _ hk => hk
    exact k2.trans (KP.setRow (S := fun k => k = W.heap.size) _ W.heap.size #[.int .u8 fn, .int .u16 fl, .int .u8 tn, .int .u16 tl, .slice A q xc, .bool bad] rfl) fun k h1 h2 => absurd (show k = W.heap.size from h2) (by omega)

end Go.Proofs.Yteaafpgkifmdeaa
