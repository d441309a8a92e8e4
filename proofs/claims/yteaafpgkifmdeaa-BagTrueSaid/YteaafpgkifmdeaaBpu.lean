/-
  The bag's Put, Look, Twice, All, New: by exact answers. Condition: the bag lies in memory.
-/
import Derived.Test.YteaafpgkifmdeaaBad
namespace Go.Proofs.Yteaafpgkifmdeaa
set_option linter.unusedSimpArgs false
set_option linter.unusedVariables false
open Go.RowKit Go.Sort

/-- six cells that stand side by side. -/
structure Six (W : World) (g o : Nat) (cs : Array Value) : Prop where
  c0 : W.cell? ⟨g, o, none⟩ = cs[0]?
  c1 : W.cell? ⟨g, o + 1, none⟩ = cs[1]?
  c2 : W.cell? ⟨g, o + 2, none⟩ = cs[2]?
  c3 : W.cell? ⟨g, o + 3, none⟩ = cs[3]?
  c4 : W.cell? ⟨g, o + 4, none⟩ = cs[4]?
  c5 : W.cell? ⟨g, o + 5, none⟩ = cs[5]?
theorem Six.of_row {W : World} {g c n i : Nat} {e : TypeId} {base : Nat} {L : List Lp} {x : Lp} (h : W.ownsRow base e 6 (.slice (some ⟨g, 0, none⟩) n c) n (cellsL L)) (hi : L[i]? = some x) : Six W g (i * 6) x.cs := by
  have e1 : ∀ j, j < 6 → W.cell? ⟨g, i * 6 + j, none⟩ = x.cs[j]? := fun j hj => by
    have h1 := cellsL_at L i x hi j hj
    have hs : j < x.cs.size := hj
    rw [Array.getElem?_eq_getElem hs] at h1 ⊢
    have h2 := h.cells (g := g) rfl (i * 6 + j) _ h1
    rw [addr_add, Nat.zero_add] at h2
    exact h2
  exact ⟨e1 0 (by omega), e1 1 (by omega), e1 2 (by omega), e1 3 (by omega), e1 4 (by omega), e1 5 (by omega)⟩
theorem PB.at_ {base b l most : Nat} {v : Value} {L : List Lp} {W : World} (h : PB base W b l most v L) {i : Nat} (hi : i < L.length) : ∃ g c, v = .slice (some ⟨g, 0, none⟩) L.length c ∧ Six W g (i * 6) L[i].cs ∧ L.length ≤ c ∧ c ≤ maxLen := by
  have hr := h.row
  rcases h.row.2 with ⟨rfl, h0⟩ | ⟨g, cap, cur, rfl, _, _, h1, h2, _⟩
  · omega
  · exact ⟨g, cap, rfl, Six.of_row hr (List.getElem?_eq_getElem hi), h1, h2⟩
theorem Six.below {W W' : World} {g o B : Nat} {cs : Array Value} (h : Six W g o cs) (hb : Below B W W') (hg : g < B) : Six W' g o cs := by
  obtain ⟨c0, c1, c2, c3, c4, c5⟩ := h
  exact ⟨(hb.cell (p := ⟨g, _, none⟩) hg).trans c0, (hb.cell (p := ⟨g, _, none⟩) hg).trans c1, (hb.cell (p := ⟨g, _, none⟩) hg).trans c2, (hb.cell (p := ⟨g, _, none⟩) hg).trans c3, (hb.cell (p := ⟨g, _, none⟩) hg).trans c4, (hb.cell (p := ⟨g, _, none⟩) hg).trans c5⟩

set_option maxRecDepth 100000 in
set_option maxHeartbeats 1000000 in
theorem put_full (base b l most : Nat) (v : Value) (L : List Lp) (x : Lp) (W : World) (h : PB base W b l most v L) (hf : most ≤ L.length) :
    Calls Try.prog 17 #[.pointer (some ⟨b, 0, none⟩), .agg x.cs] W fun e W' => e = .returned (.int .i64 11) ∧ Below W.heap.size W W' := by
  obtain ⟨cs, hcs⟩ : ∃ cs, x.cs = cs := ⟨_, rfl⟩
  obtain ⟨W1, hW1⟩ : ∃ W1, W.alloc (.cells cs 45) = W1 := ⟨_, rfl⟩
  have b1 : Below W.heap.size W W1 := by rw [← hW1]; exact (Below.refl _ _).alloc (Nat.le_refl _) _
  have r1 : W1.heap[W.heap.size]? = some (.cells cs 45 (0, 0)) := by rw [← hW1]; exact heap_alloc_new _ _
  obtain ⟨W3, hW3⟩ : ∃ X, W1.drew = X := ⟨_, rfl⟩
  have b3 : Below W.heap.size W W3 := by rw [← hW3]; exact b1.drew
  have r3 : W3.heap[W.heap.size]? = some (.cells cs 45 (0, 0)) := by rw [← hW3]; exact r1
  have K0 := Lib.hid (made_yes b l W1 (h.below b1).bag)
  have KA := Lib.hid (add_full base b l most v L x W3 (h.below b3) hf)
  have HS : W3.heap[b]? = some (.cells #[.pointer (some ⟨l, 0, none⟩)] 64 (0, 0)) ∧ W3.heap[W.heap.size]? = some (.cells cs 45 (0, 0)) := ⟨(h.below b3).bag, r3⟩
  have c0 := cell_of (h.below b1).bag 0 (.pointer (some ⟨l, 0, none⟩)) rfl
  rw [hcs] at KA
  rw [hcs]
  have HW := Lib.hid hW1
  have HW3 := Lib.hid hW3
  have HCS := Lib.hid hcs
  have B3 := Lib.hid b3
  have HH := Lib.hid HS
  clear h hW1 b1 r1 hcs hW3 b3 r3 HS hf
  go_enter Try.func17, Try.ntmps17
  go_wp2_with (refine wpList_bx rfl 45 (.tmp 1) rfl 3 rfl cs rfl ?_; rw [HW.out])
  refine K0.out.mono ?_
  rintro e w' ⟨rfl, rfl⟩
  go_wp2
  refine region_heldT (S := fun X => X.heap[b]? = some (.cells #[.pointer (some ⟨l, 0, none⟩)] 64 (0, 0)) ∧ X.heap[W.heap.size]? = some (.cells cs 45 (0, 0))) 5 (by kernel_rfl) (by decide) (fun inv => ?_)
  change FirstH _ _ _ _ _ _ _ _ _ _ W1.drew
  rw [HW3.out]
  have HS := HH.out
  refine FirstH.go (i := 0) (v := .pointer (some ⟨b, 0, none⟩)) rfl rfl _ rfl _ rfl (by kernel_rfl) (fun _ _ _ h => h) inv (fun X _ => by unfold bareO; go_simp) HS (fun inv => ?_)
  try simp only [Act.put, List.setIfInBounds_toArray, List.set_cons_zero, List.set_cons_succ]
  refine FirstH.go (i := 1) (v := .pointer (some ⟨b, 0, none⟩)) rfl rfl _ rfl _ rfl (by kernel_rfl) (fun _ _ _ h => h) inv (fun X _ => by unfold bareO; go_simp) HS (fun inv => ?_)
  try simp only [Act.put, List.setIfInBounds_toArray, List.set_cons_zero, List.set_cons_succ]
  refine FirstH.go (i := 2) (v := .pointer (some ⟨b, 0, none⟩)) rfl rfl _ rfl _ rfl (by kernel_rfl) (fun _ _ _ h => h) inv (fun X _ => by unfold bareO; go_simp) HS (fun inv => ?_)
  try simp only [Act.put, List.setIfInBounds_toArray, List.set_cons_zero, List.set_cons_succ]
  refine FirstH.go (i := 3) (v := .pointer (some ⟨l, 0, none⟩)) rfl rfl _ rfl _ rfl (by kernel_rfl) (fun _ _ _ h => h) inv (fun X hS => by have c1 := cell_of hS.1 0 (.pointer (some ⟨l, 0, none⟩)) rfl; unfold bareO; go_simp) HS (fun inv => ?_)
  try simp only [Act.put, List.setIfInBounds_toArray, List.set_cons_zero, List.set_cons_succ]
  refine FirstH.go (i := 4) (v := .agg cs) rfl rfl _ rfl _ rfl (by kernel_rfl) (fun _ _ _ h => h) inv (fun X hS => run_load_row 45 _ _ W.heap.size rfl _ _ _ _ hS.2 Try.underlying45 rfl (by rw [← HCS.out]; kernel_rfl)) HS (fun inv => ?_)
  try simp only [Act.put, List.setIfInBounds_toArray, List.set_cons_zero, List.set_cons_succ]
  clear HS c0
  refine ⟨by kernel_rfl, ?_⟩
  simp only [List.drop_succ_cons, List.drop_zero]
  go_wp2_with fail
  refine KA.out.mono ?_
  rintro e w4 ⟨rfl, b4⟩
  have B4 := Lib.hid (B3.out.trans (b4.mono B3.out.size))
  clear b4
  go_wp2
  go_ret
  exact ⟨rfl, B4.out⟩

set_option maxRecDepth 100000 in
set_option maxHeartbeats 1000000 in
theorem put_ok (base b l most : Nat) (v : Value) (L : List Lp) (x : Lp) (W : World) (h : PB base W b l most v L) (hf : L.length < most) (hr : BytesAt W W.heap.size x.A x.p.B) (hl : x.p.B.length ≤ 140737488351232) (hc : x.p.B.length ≤ x.c) (hm : x.c ≤ maxLen) :
    Calls Try.prog 17 #[.pointer (some ⟨b, 0, none⟩), .agg x.cs] W fun e W' => e = .returned (.int .i64 0) ∧ ∃ y v', y.p = x.p ∧ y.Ok W' W.heap.size ∧ PB base W' b l most v' (L ++ [y]) ∧ KP (fun k => k = l ∨ v.ownBlock = some k) W W' := by
  obtain ⟨cs, hcs⟩ : ∃ cs, x.cs = cs := ⟨_, rfl⟩
  obtain ⟨W1, hW1⟩ : ∃ W1, W.alloc (.cells cs 45) = W1 := ⟨_, rfl⟩
  have b1 : Below W.heap.size W W1 := by rw [← hW1]; exact (Below.refl _ _).alloc (Nat.le_refl _) _
  have r1 : W1.heap[W.heap.size]? = some (.cells cs 45 (0, 0)) := by rw [← hW1]; exact heap_alloc_new _ _
  obtain ⟨W3, hW3⟩ : ∃ X, W1.drew = X := ⟨_, rfl⟩
  have b3 : Below W.heap.size W W3 := by rw [← hW3]; exact b1.drew
  have r3 : W3.heap[W.heap.size]? = some (.cells cs 45 (0, 0)) := by rw [← hW3]; exact r1
  have K0 := Lib.hid (made_yes b l W1 (h.below b1).bag)
  have KA := Lib.hid (add_ok base b l most v L x W3 (h.below b3) hf (hr.below b3 (Nat.le_refl _) b3.size) hl hc hm)
  have HS : W3.heap[b]? = some (.cells #[.pointer (some ⟨l, 0, none⟩)] 64 (0, 0)) ∧ W3.heap[W.heap.size]? = some (.cells cs 45 (0, 0)) := ⟨(h.below b3).bag, r3⟩
  have c0 := cell_of (h.below b1).bag 0 (.pointer (some ⟨l, 0, none⟩)) rfl
  rw [hcs] at KA
  rw [hcs]
  have HW := Lib.hid hW1
  have HW3 := Lib.hid hW3
  have HCS := Lib.hid hcs
  have B3 := Lib.hid b3
  have HH := Lib.hid HS
  clear h hW1 b1 r1 hcs hW3 b3 r3 HS hf hr hl hc hm
  go_enter Try.func17, Try.ntmps17
  go_wp2_with (refine wpList_bx rfl 45 (.tmp 1) rfl 3 rfl cs rfl ?_; rw [HW.out])
  refine K0.out.mono ?_
  rintro e w' ⟨rfl, rfl⟩
  go_wp2
  refine region_heldT (S := fun X => X.heap[b]? = some (.cells #[.pointer (some ⟨l, 0, none⟩)] 64 (0, 0)) ∧ X.heap[W.heap.size]? = some (.cells cs 45 (0, 0))) 5 (by kernel_rfl) (by decide) (fun inv => ?_)
  change FirstH _ _ _ _ _ _ _ _ _ _ W1.drew
  rw [HW3.out]
  have HS := HH.out
  refine FirstH.go (i := 0) (v := .pointer (some ⟨b, 0, none⟩)) rfl rfl _ rfl _ rfl (by kernel_rfl) (fun _ _ _ h => h) inv (fun X _ => by unfold bareO; go_simp) HS (fun inv => ?_)
  try simp only [Act.put, List.setIfInBounds_toArray, List.set_cons_zero, List.set_cons_succ]
  refine FirstH.go (i := 1) (v := .pointer (some ⟨b, 0, none⟩)) rfl rfl _ rfl _ rfl (by kernel_rfl) (fun _ _ _ h => h) inv (fun X _ => by unfold bareO; go_simp) HS (fun inv => ?_)
  try simp only [Act.put, List.setIfInBounds_toArray, List.set_cons_zero, List.set_cons_succ]
  refine FirstH.go (i := 2) (v := .pointer (some ⟨b, 0, none⟩)) rfl rfl _ rfl _ rfl (by kernel_rfl) (fun _ _ _ h => h) inv (fun X _ => by unfold bareO; go_simp) HS (fun inv => ?_)
  try simp only [Act.put, List.setIfInBounds_toArray, List.set_cons_zero, List.set_cons_succ]
  refine FirstH.go (i := 3) (v := .pointer (some ⟨l, 0, none⟩)) rfl rfl _ rfl _ rfl (by kernel_rfl) (fun _ _ _ h => h) inv (fun X hS => by have c1 := cell_of hS.1 0 (.pointer (some ⟨l, 0, none⟩)) rfl; unfold bareO; go_simp) HS (fun inv => ?_)
  try simp only [Act.put, List.setIfInBounds_toArray, List.set_cons_zero, List.set_cons_succ]
  refine FirstH.go (i := 4) (v := .agg cs) rfl rfl _ rfl _ rfl (by kernel_rfl) (fun _ _ _ h => h) inv (fun X hS => run_load_row 45 _ _ W.heap.size rfl _ _ _ _ hS.2 Try.underlying45 rfl (by rw [← HCS.out]; kernel_rfl)) HS (fun inv => ?_)
  try simp only [Act.put, List.setIfInBounds_toArray, List.set_cons_zero, List.set_cons_succ]
  clear HS c0
  refine ⟨by kernel_rfl, ?_⟩
  simp only [List.drop_succ_cons, List.drop_zero]
  go_wp2_with fail
  refine KA.out.mono ?_
  rintro e w4 ⟨rfl, y, v', hy, ok, P4, k4⟩
  have P4' := Lib.hid P4
  have OK := Lib.hid (ok.lower (base' := W.heap.size) B3.out.size)
  have K4 := Lib.hid ((KP.of_below B3.out).trans k4 fun _ _ h => h)
  have HY := Lib.hid hy
  clear P4 ok k4 hy
  go_wp2
  go_ret
  exact ⟨rfl, y, v', HY.out, OK.out, P4'.out, K4.out⟩

set_option maxRecDepth 100000 in
set_option maxHeartbeats 1000000 in
theorem look_no (base b l most : Nat) (v : Value) (L : List Lp) (i : Int) (W : World) (h : PB base W b l most v L) (hi : i < 0 ∨ (L.length : Int) ≤ i) :
    Calls Try.prog 13 #[.pointer (some ⟨b, 0, none⟩), .int .i64 i] W fun e W' => e = .returned (.tuple #[.agg Z6, .int .i64 3]) ∧ Below W.heap.size W W' := by
  obtain ⟨W1, hW1⟩ : ∃ W1, W.alloc (.cells Z6 45) = W1 := ⟨_, rfl⟩
  have b1 : Below W.heap.size W W1 := by rw [← hW1]; exact (Below.refl _ _).alloc (Nat.le_refl _) _
  have r1 : W1.heap[W.heap.size]? = some (.cells Z6 45 (0, 0)) := by rw [← hW1]; exact heap_alloc_new _ _
  unfold Z6 at *
  have K := Lib.hid (find_no base b l most v L i W1 (h.below b1) hi)
  have HW := Lib.hid hW1
  have B1 := Lib.hid b1
  have R1 := Lib.hid r1
  clear h hW1 b1 r1 hi
  go_enter Try.func13, Try.ntmps13
  go_wp2_with (rw [HW.out])
  refine K.out.mono ?_
  rintro e w' ⟨rfl, rfl⟩
  go_wp2_with (refine wpList_store_row rfl 45 (.tmp 4) (.tmp 16) rfl W.heap.size #[.int .u8 0, .int .u16 0, .int .u8 0, .int .u16 0, .slice none 0 0, .bool false] (by rfl) (by rfl) 45 #[.int .u8 0, .int .u16 0, .int .u8 0, .int .u16 0, .slice none 0 0, .bool false] R1.out (by kernel_rfl) rfl (by simp [Value.oneCell']) ?_)
  exact bodyPost_ret (v := .tuple #[.agg #[.int .u8 0, .int .u16 0, .int .u8 0, .int .u16 0, .slice none 0 0, .bool false], .int .i64 3]) (results_cell2_row (p := 4) (u := 5) (ty := 45) rfl _ _ W.heap.size 45 _ (0, 0) _ (by rfl) (setRow_heap _ _ _ _ _ _ R1.out) Try.underlying45 rfl (by kernel_rfl)) rfl ⟨rfl, below_row B1.out (Nat.le_refl _) _⟩

set_option maxRecDepth 100000 in
set_option maxHeartbeats 1000000 in
theorem look_yes (base b l most : Nat) (v : Value) (L : List Lp) (i : Nat) (W : World) (h : PB base W b l most v L) (hi : i < L.length) :
    Calls Try.prog 13 #[.pointer (some ⟨b, 0, none⟩), .int .i64 i] W fun e W' => ∃ y : Lp, e = .returned (.tuple #[.agg y.cs, .int .i64 0]) ∧ y.p = L[i].p ∧ y.Ok W' W.heap.size ∧ Below W.heap.size W W' := by
  obtain ⟨W1, hW1⟩ : ∃ W1, W.alloc (.cells #[.int .u8 0, .int .u16 0, .int .u8 0, .int .u16 0, .slice none 0 0, .bool false] 45) = W1 := ⟨_, rfl⟩
  have b1 : Below W.heap.size W W1 := by rw [← hW1]; exact (Below.refl _ _).alloc (Nat.le_refl _) _
  have r1 : W1.heap[W.heap.size]? = some (.cells #[.int .u8 0, .int .u16 0, .int .u8 0, .int .u16 0, .slice none 0 0, .bool false] 45 (0, 0)) := by rw [← hW1]; exact heap_alloc_new _ _
  have P1 := h.below b1
  have K := Lib.hid (find_yes base b l most v L i W1 P1 hi)
  obtain ⟨g, c, hv, six, _, _⟩ := P1.at_ hi
  have ok := P1.ok _ (List.getElem_mem hi)
  have KO := Lib.hid (ownP L[i] W1 ok.own.at_ ok.len ok.le ok.mx)
  obtain ⟨x, hx⟩ : ∃ x, L[i] = x := ⟨_, rfl⟩
  rw [hx] at six KO ⊢
  have HV := Lib.hid hv
  have HW := Lib.hid hW1
  have B1 := Lib.hid b1
  have R1 := Lib.hid r1
  obtain ⟨c0, c1, c2, c3, c4, c5⟩ := six
  unfold Lp.cs at c0 c1 c2 c3 c4 c5 KO
  simp only [List.getElem?_toArray, List.getElem?_cons_zero, List.getElem?_cons_succ] at c0 c1 c2 c3 c4 c5
  obtain ⟨q, hq⟩ : ∃ q, x.p.B.length = q := ⟨_, rfl⟩
  rw [hq] at c4 KO
  clear h hW1 b1 r1 hi P1 hv ok hx hq
  go_enter Try.func13, Try.ntmps13
  go_wp2_with (rw [HW.out])
  refine K.out.mono ?_
  rintro e w' ⟨⟨g', c', e', rfl⟩, rfl⟩
  obtain rfl : g' = g := by have := HV.out.symm.trans e'; simp at this; exact this.1.symm
  clear e'
  go_wp2_with fail
  refine KO.out.mono ?_
  rintro e w4 ⟨y, rfl, hy, oky, b4⟩
  have B4 := Lib.hid (B1.out.trans (b4.mono B1.out.size))
  have R4 := Lib.hid ((b4.block _ (Array.getElem?_eq_some_iff.1 R1.out).1).trans R1.out)
  have OY := Lib.hid oky
  have HY := Lib.hid hy
  have S1 := Lib.hid (Array.getElem?_eq_some_iff.1 R1.out).1
  obtain ⟨ys, hys⟩ : ∃ ys, y.cs = ys := ⟨_, rfl⟩
  have HYS := Lib.hid hys
  have hys' : #[.int .u8 y.p.fn, .int .u16 y.p.fl, .int .u8 y.p.tn, .int .u16 y.p.tl, .slice y.A y.p.B.length y.c, .bool y.p.bad] = ys := hys
  rw [hys']
  clear hys' hys b4 oky hy c0 c1 c2 c3 c4 c5
  go_wp2_with (refine wpList_store_row rfl 45 (.tmp 4) (.tmp 21) rfl W.heap.size ys (by rfl) (by rfl) 45 #[.int .u8 0, .int .u16 0, .int .u8 0, .int .u16 0, .slice none 0 0, .bool false] R4.out (by rw [← HYS.out]; kernel_rfl) (by rw [← HYS.out]; rfl) (by rw [← HYS.out]; simp [Lp.cs, Value.oneCell']) ?_)
  refine bodyPost_ret (v := .tuple #[.agg ys, .int .i64 0]) (results_cell2_row (p := 4) (u := 5) (ty := 45) rfl _ _ W.heap.size 45 _ (0, 0) _ (by rfl) (setRow_heap _ _ _ _ _ _ R4.out) Try.underlying45 rfl (by rw [← HYS.out]; kernel_rfl)) rfl ⟨y, by rw [HYS.out], HY.out, ?_, below_row B4.out (Nat.le_refl _) _⟩
  have s1 := S1.out
  exact (OY.out.keep fun k cur hk _ _ hc => setRow_at hc (by omega) _).lower (by omega)

end Go.Proofs.Yteaafpgkifmdeaa
