/-
  The bag's Twice, All, New: by exact answers. Condition: the bag lies in memory.
-/
import Derived.Test.YteaafpgkifmdeaaBpu
namespace Go.Proofs.Yteaafpgkifmdeaa
set_option linter.unusedSimpArgs false
set_option linter.unusedVariables false
open Go.RowKit Go.Sort

set_option maxRecDepth 100000 in
set_option maxHeartbeats 1000000 in
theorem twice_no (base b l most : Nat) (v : Value) (L : List Lp) (i : Int) (W : World) (h : PB base W b l most v L) (hi : i < 0 ∨ (L.length : Int) ≤ i) :
    Calls Try.prog 20 #[.pointer (some ⟨b, 0, none⟩), .int .i64 i] W fun e W' => e = .returned (.int .i64 3) ∧ W = W' := by
  have K := Lib.hid (find_no base b l most v L i W h hi)
  clear h hi
  go_enter Try.func20, Try.ntmps20
  go_wp2_with fail
  refine K.out.mono ?_
  rintro e w' ⟨rfl, rfl⟩
  go_wp2
  go_ret
  exact ⟨rfl, rfl⟩

set_option maxRecDepth 100000 in
set_option maxHeartbeats 1000000 in
theorem twice_full (base b l most : Nat) (v : Value) (L : List Lp) (i : Nat) (W : World) (h : PB base W b l most v L) (hi : i < L.length) (hf : most ≤ L.length) :
    Calls Try.prog 20 #[.pointer (some ⟨b, 0, none⟩), .int .i64 i] W fun e W' => e = .returned (.int .i64 11) ∧ Below W.heap.size W W' := by
  have K := Lib.hid (find_yes base b l most v L i W h hi)
  obtain ⟨W3, hW3⟩ : ∃ X, W.drew = X := ⟨_, rfl⟩
  have b3 : Below W.heap.size W W3 := by rw [← hW3]; exact (Below.refl _ _).drew
  have P3 := h.below b3
  obtain ⟨g, c, hv, six, _, _⟩ := P3.at_ hi
  have ok := P3.ok _ (List.getElem_mem hi)
  have KA := Lib.hid (add_full base b l most v L L[i] W3 P3 hf)
  obtain ⟨x, hx⟩ : ∃ x, L[i] = x := ⟨_, rfl⟩
  rw [hx] at six KA ok
  skip
  have c0 := cell_of h.bag 0 (.pointer (some ⟨l, 0, none⟩)) rfl
  have HS : W3.heap[b]? = some (.cells #[.pointer (some ⟨l, 0, none⟩)] 64 (0, 0)) ∧ Six W3 g (i * 6) x.cs := ⟨P3.bag, six⟩
  have HH := Lib.hid HS
  have HV := Lib.hid hv
  have HW3 := Lib.hid hW3
  have B3 := Lib.hid b3
  clear h hW3 hi P3 hv ok hx HS b3 six hf
  go_enter Try.func20, Try.ntmps20
  go_wp2_with fail
  refine K.out.mono ?_
  rintro e w' ⟨⟨g', c', e', rfl⟩, rfl⟩
  obtain rfl : g' = g := by have := HV.out.symm.trans e'; simp at this; exact this.1.symm
  clear e'
  go_wp2
  refine region_heldT (S := fun X => X.heap[b]? = some (.cells #[.pointer (some ⟨l, 0, none⟩)] 64 (0, 0)) ∧ Six X g' (i * 6) x.cs) 7 (by kernel_rfl) (by decide) (fun inv => ?_)
  change FirstH _ _ _ _ _ _ _ _ _ _ W.drew
  rw [HW3.out]
  have HS := HH.out
  refine FirstH.go (i := 0) (v := .pointer (some ⟨b, 0, none⟩)) rfl rfl _ rfl _ rfl (by kernel_rfl) (fun _ _ _ h => h) inv (fun X _ => by unfold bareO; go_simp) HS (fun inv => ?_)
  try simp only [Act.put, List.setIfInBounds_toArray, List.set_cons_zero, List.set_cons_succ]
  refine FirstH.go (i := 1) (v := .pointer (some ⟨b, 0, none⟩)) rfl rfl _ rfl _ rfl (by kernel_rfl) (fun _ _ _ h => h) inv (fun X _ => by unfold bareO; go_simp) HS (fun inv => ?_)
  try simp only [Act.put, List.setIfInBounds_toArray, List.set_cons_zero, List.set_cons_succ]
  refine FirstH.go (i := 2) (v := .pointer (some ⟨b, 0, none⟩)) rfl rfl _ rfl _ rfl (by kernel_rfl) (fun _ _ _ h => h) inv (fun X _ => by unfold bareO; go_simp) HS (fun inv => ?_)
  try simp only [Act.put, List.setIfInBounds_toArray, List.set_cons_zero, List.set_cons_succ]
  refine FirstH.go (i := 3) (v := .pointer (some ⟨l, 0, none⟩)) rfl rfl _ rfl _ rfl (by kernel_rfl) (fun _ _ _ h => h) inv (fun X hS => by have c1 := cell_of hS.1 0 (.pointer (some ⟨l, 0, none⟩)) rfl; unfold bareO; go_simp) HS (fun inv => ?_)
  try simp only [Act.put, List.setIfInBounds_toArray, List.set_cons_zero, List.set_cons_succ]
  refine FirstH.go (i := 4) (v := .pointer (some ⟨g', i * 6, none⟩)) rfl rfl _ rfl _ rfl (by kernel_rfl) (fun _ _ _ h => h) inv (fun X _ => by unfold bareO; go_simp) HS (fun inv => ?_)
  try simp only [Act.put, List.setIfInBounds_toArray, List.set_cons_zero, List.set_cons_succ]
  refine FirstH.go (i := 5) (v := .pointer (some ⟨g', i * 6, none⟩)) rfl rfl _ rfl _ rfl (by kernel_rfl) (fun _ _ _ h => h) inv (fun X _ => by unfold bareO; go_simp) HS (fun inv => ?_)
  try simp only [Act.put, List.setIfInBounds_toArray, List.set_cons_zero, List.set_cons_succ]
  refine FirstH.go (i := 6) (v := .agg #[.int .u8 x.p.fn, .int .u16 x.p.fl, .int .u8 x.p.tn, .int .u16 x.p.tl, .slice x.A x.p.B.length x.c, .bool x.p.bad]) rfl rfl _ rfl _ rfl (by kernel_rfl) (fun _ _ _ h => h) inv (fun X hS => by obtain ⟨-, d0, d1, d2, d3, d4, d5⟩ := hS; unfold Lp.cs at d0 d1 d2 d3 d4 d5; simp only [List.getElem?_toArray, List.getElem?_cons_zero, List.getElem?_cons_succ] at d0 d1 d2 d3 d4 d5; unfold bareO; go_simp) HS (fun inv => ?_)
  try simp only [Act.put, List.setIfInBounds_toArray, List.set_cons_zero, List.set_cons_succ]
  clear HS c0
  refine ⟨by kernel_rfl, ?_⟩
  simp only [List.drop_succ_cons, List.drop_zero]
  have KA' : Hid (Calls Try.prog 34 #[.pointer (some ⟨l, 0, none⟩), .agg #[.int .u8 x.p.fn, .int .u16 x.p.fl, .int .u8 x.p.tn, .int .u16 x.p.tl, .slice x.A x.p.B.length x.c, .bool x.p.bad]] W3 _) := KA
  clear KA
  go_wp2_with fail
  refine KA'.out.mono ?_
  rintro e w4 ⟨rfl, b4⟩
  have B4 := Lib.hid (B3.out.trans (b4.mono B3.out.size))
  clear b4
  go_wp2
  go_ret
  exact ⟨rfl, B4.out⟩

set_option maxRecDepth 100000 in
set_option maxHeartbeats 1000000 in
theorem twice_ok (base b l most : Nat) (v : Value) (L : List Lp) (i : Nat) (W : World) (h : PB base W b l most v L) (hi : i < L.length) (hf : L.length < most) :
    Calls Try.prog 20 #[.pointer (some ⟨b, 0, none⟩), .int .i64 i] W fun e W' => e = .returned (.int .i64 0) ∧ ∃ y v', y.p = L[i].p ∧ y.Ok W' W.heap.size ∧ PB base W' b l most v' (L ++ [y]) ∧ KP (fun k => k = l ∨ v.ownBlock = some k) W W' := by
  have K := Lib.hid (find_yes base b l most v L i W h hi)
  obtain ⟨W3, hW3⟩ : ∃ X, W.drew = X := ⟨_, rfl⟩
  have b3 : Below W.heap.size W W3 := by rw [← hW3]; exact (Below.refl _ _).drew
  have P3 := h.below b3
  obtain ⟨g, c, hv, six, _, _⟩ := P3.at_ hi
  have ok := P3.ok _ (List.getElem_mem hi)
  have KA := Lib.hid (add_ok base b l most v L L[i] W3 P3 hf ok.own.at_ ok.len ok.le ok.mx)
  obtain ⟨x, hx⟩ : ∃ x, L[i] = x := ⟨_, rfl⟩
  rw [hx] at six KA ok
  rw [hx]
  have c0 := cell_of h.bag 0 (.pointer (some ⟨l, 0, none⟩)) rfl
  have HS : W3.heap[b]? = some (.cells #[.pointer (some ⟨l, 0, none⟩)] 64 (0, 0)) ∧ Six W3 g (i * 6) x.cs := ⟨P3.bag, six⟩
  have HH := Lib.hid HS
  have HV := Lib.hid hv
  have HW3 := Lib.hid hW3
  have B3 := Lib.hid b3
  clear h hW3 hi P3 hv ok hx HS b3 six hf
  go_enter Try.func20, Try.ntmps20
  go_wp2_with fail
  refine K.out.mono ?_
  rintro e w' ⟨⟨g', c', e', rfl⟩, rfl⟩
  obtain rfl : g' = g := by have := HV.out.symm.trans e'; simp at this; exact this.1.symm
  clear e'
  go_wp2
  refine region_heldT (S := fun X => X.heap[b]? = some (.cells #[.pointer (some ⟨l, 0, none⟩)] 64 (0, 0)) ∧ Six X g' (i * 6) x.cs) 7 (by kernel_rfl) (by decide) (fun inv => ?_)
  change FirstH _ _ _ _ _ _ _ _ _ _ W.drew
  rw [HW3.out]
  have HS := HH.out
  refine FirstH.go (i := 0) (v := .pointer (some ⟨b, 0, none⟩)) rfl rfl _ rfl _ rfl (by kernel_rfl) (fun _ _ _ h => h) inv (fun X _ => by unfold bareO; go_simp) HS (fun inv => ?_)
  try simp only [Act.put, List.setIfInBounds_toArray, List.set_cons_zero, List.set_cons_succ]
  refine FirstH.go (i := 1) (v := .pointer (some ⟨b, 0, none⟩)) rfl rfl _ rfl _ rfl (by kernel_rfl) (fun _ _ _ h => h) inv (fun X _ => by unfold bareO; go_simp) HS (fun inv => ?_)
  try simp only [Act.put, List.setIfInBounds_toArray, List.set_cons_zero, List.set_cons_succ]
  refine FirstH.go (i := 2) (v := .pointer (some ⟨b, 0, none⟩)) rfl rfl _ rfl _ rfl (by kernel_rfl) (fun _ _ _ h => h) inv (fun X _ => by unfold bareO; go_simp) HS (fun inv => ?_)
  try simp only [Act.put, List.setIfInBounds_toArray, List.set_cons_zero, List.set_cons_succ]
  refine FirstH.go (i := 3) (v := .pointer (some ⟨l, 0, none⟩)) rfl rfl _ rfl _ rfl (by kernel_rfl) (fun _ _ _ h => h) inv (fun X hS => by have c1 := cell_of hS.1 0 (.pointer (some ⟨l, 0, none⟩)) rfl; unfold bareO; go_simp) HS (fun inv => ?_)
  try simp only [Act.put, List.setIfInBounds_toArray, List.set_cons_zero, List.set_cons_succ]
  refine FirstH.go (i := 4) (v := .pointer (some ⟨g', i * 6, none⟩)) rfl rfl _ rfl _ rfl (by kernel_rfl) (fun _ _ _ h => h) inv (fun X _ => by unfold bareO; go_simp) HS (fun inv => ?_)
  try simp only [Act.put, List.setIfInBounds_toArray, List.set_cons_zero, List.set_cons_succ]
  refine FirstH.go (i := 5) (v := .pointer (some ⟨g', i * 6, none⟩)) rfl rfl _ rfl _ rfl (by kernel_rfl) (fun _ _ _ h => h) inv (fun X _ => by unfold bareO; go_simp) HS (fun inv => ?_)
  try simp only [Act.put, List.setIfInBounds_toArray, List.set_cons_zero, List.set_cons_succ]
  refine FirstH.go (i := 6) (v := .agg #[.int .u8 x.p.fn, .int .u16 x.p.fl, .int .u8 x.p.tn, .int .u16 x.p.tl, .slice x.A x.p.B.length x.c, .bool x.p.bad]) rfl rfl _ rfl _ rfl (by kernel_rfl) (fun _ _ _ h => h) inv (fun X hS => by obtain ⟨-, d0, d1, d2, d3, d4, d5⟩ := hS; unfold Lp.cs at d0 d1 d2 d3 d4 d5; simp only [List.getElem?_toArray, List.getElem?_cons_zero, List.getElem?_cons_succ] at d0 d1 d2 d3 d4 d5; unfold bareO; go_simp) HS (fun inv => ?_)
  try simp only [Act.put, List.setIfInBounds_toArray, List.set_cons_zero, List.set_cons_succ]
  clear HS c0
  refine ⟨by kernel_rfl, ?_⟩
  simp only [List.drop_succ_cons, List.drop_zero]
  have KA' : Hid (Calls Try.prog 34 #[.pointer (some ⟨l, 0, none⟩), .agg #[.int .u8 x.p.fn, .int .u16 x.p.fl, .int .u8 x.p.tn, .int .u16 x.p.tl, .slice x.A x.p.B.length x.c, .bool x.p.bad]] W3 _) := KA
  clear KA
  go_wp2_with fail
  refine KA'.out.mono ?_
  rintro e w4 ⟨rfl, y, v', hy, ok, P4, k4⟩
  have P4' := Lib.hid P4
  have OK := Lib.hid (ok.lower (base' := W.heap.size) B3.out.size)
  have K4 := Lib.hid ((KP.of_below B3.out).trans k4 fun _ _ h => h)
  have HY := Lib.hid hy
  clear P4 ok k4 hy
  go_wp2
  go_ret
  exact ⟨rfl, y, v', HY.out, OK.out, P4'.out, K4.out⟩

/-- how many a new bag takes. -/
def mst (most : Int) : Nat := (min (max most 0) 2000).toNat
theorem new_pb (W : World) (base m : Nat) (k : Int) (hb : base ≤ W.heap.size) (hm : m ≤ 2000) (hk : k = m) :
    PB base ((W.alloc (.cells #[.int .i64 k, .slice none 0 0] 67)).alloc (.cells #[.pointer (some ⟨W.heap.size, 0, none⟩)] 64)) (W.heap.size + 1) W.heap.size m (.slice none 0 0) [] := by
  subst hk
  refine ⟨by omega, hb, ?_, ?_, World.ownsRow_nil _ _ _ _, fun x hx => (by cases hx), List.Pairwise.nil, Nat.zero_le _, hm⟩
  · have := heap_alloc_new (W.alloc (.cells #[.int .i64 m, .slice none 0 0] 67)) (.cells #[.pointer (some ⟨W.heap.size, 0, none⟩)] 64)
    simpa using this
  · rw [Below.heap_alloc _ _ _ (by simp)]
    exact heap_alloc_new _ _

set_option maxRecDepth 100000 in
set_option maxHeartbeats 1000000 in
theorem newB (most : Int) (W : World) (base : Nat) (hb : base ≤ W.heap.size) :
    Calls Try.prog 9 #[.int .i64 most] W fun e W' => ∃ b l, e = .returned (.pointer (some ⟨b, 0, none⟩)) ∧ PB base W' b l (mst most) (.slice none 0 0) [] ∧ Below W.heap.size W W' := by
  have hm : Hid ((mst most : Int) = min (max most 0) 2000) := Lib.hid (by unfold mst; omega)
  have hm2 : mst most ≤ 2000 := by unfold mst; omega
  have HM2 := Lib.hid hm2
  generalize mst most = m at *
  clear hm2
  go_enter Try.func9, Try.ntmps9
  go_wp2
  all_goals
    go_ret
    exact ⟨W.heap.size + 1, rfl, ⟨W.heap.size, new_pb W base m _ hb HM2.out (by have := hm.out; omega)⟩, ((Below.refl _ _).alloc (Nat.le_refl _) _).alloc (by simp) _⟩

set_option maxRecDepth 100000 in
set_option maxHeartbeats 1000000 in
theorem allB (base b l most : Nat) (v : Value) (L : List Lp) (W : World) (h : PB base W b l most v L) :
    Calls Try.prog 24 #[.pointer (some ⟨b, 0, none⟩)] W fun e W' => (∃ A c, v = .slice A L.length c ∧ e = .returned (.slice A L.length L.length)) ∧ PB base W' b l most (.slice none 0 0) [] ∧ W.setCell ⟨l, 1, none⟩ (.slice none 0 0) = W' := by
  obtain ⟨A, c, rfl⟩ := h.slice
  have K0 := Lib.hid (made_yes b l W h.bag)
  have c0 := cell_of h.bag 0 (.pointer (some ⟨l, 0, none⟩)) rfl
  have c1 := cell_of h.lst 1 (.slice A L.length c) rfl
  have z1 := frz_row 1 h.lst
  have hlc : L.length ≤ c := by
    rcases h.row.2 with ⟨e, h0⟩ | ⟨g, cap, cur, e, _, _, h1, _⟩
    · omega
    · cases e; exact h1
  have HP := Lib.hid h
  obtain ⟨n, hn⟩ : ∃ n, L.length = n := ⟨_, rfl⟩
  rw [hn] at c1 hlc ⊢
  have hci : (n : Int) ≤ (c : Int) := by omega
  have hni : (n : Int) ≤ (n : Int) := Int.le_refl _
  clear h hn
  go_enter Try.func24, Try.ntmps24
  go_wp2_with fail
  refine K0.out.mono ?_
  rintro e w' ⟨rfl, rfl⟩
  go_wp2
  go_ret
  have hbl : b ≠ l := apart_of HP.out.bag HP.out.lst (by decide)
  refine ⟨⟨A, c, rfl, rfl⟩, ⟨HP.out.hb, HP.out.hl, other_set HP.out.bag hbl _, (row_set HP.out.lst _).trans rfl, World.ownsRow_nil _ _ _ _, fun x hx => (by cases hx), List.Pairwise.nil, Nat.zero_le _, HP.out.most⟩, rfl⟩

end Go.Proofs.Yteaafpgkifmdeaa
