/-
  The wheel's New, Len, At: by exact answers. Condition: the wheel lies in memory, each number of a key fits its kind.
-/
import Derived.Test.YtfekkfphogjpeaaYlw
namespace Go.Proofs.Ytfekkfphogjpeaa
set_option linter.unusedSimpArgs false
set_option linter.unusedVariables false
open Go.RowKit Go.Maps Go.Sort

theorem atZero (W : World) : (zeroValue 3).run Try.prog W = .ok (.int .i64 0) W := by kernel_rfl
theorem mapU : Try.prog.underlying 72 = some (.map 50 3) := Try.underlying72
/-- a look-up, in every world where the map is as it is. -/
theorem PW.look {W : World} {b m c most : Nat} {T : List Tm} (h : PW W b m c most T) (x : K13) (rx : x.Rng) :
    ∃ es clock, W.heap[m]? = some (.map es clock) ∧ ∀ X : World, X.heap[m]? = some (.map es clock) → (Instr.lookup 72 (.map (some m)) (.agg x.cs) true).run Try.prog X = .ok (.tuple #[.int .i64 (fAt T x).1, .bool (fAt T x).2]) X := by
  obtain ⟨nn, D, hk, ⟨es, clock, hb, F, hs, hD⟩, K⟩ := h.map
  refine ⟨es, clock, hb, fun X hX => ?_⟩
  have O : X.ownsMap Try.prog 50 atElem m nn D := ⟨es, clock, hX, F, hs, hD⟩
  obtain ⟨v, ps, hrun, hv⟩ := O.look_ok kKeyed mapU (atZero X) (atElem_mk 0) (keyCs rx)
  by_cases hx : ∃ t ∈ T, t.k = x
  · obtain ⟨t, ht, rfl⟩ := hx
    rw [K.at_ t ht] at hv
    rw [K.has_ t ht] at hrun
    obtain ⟨n, rfl, e⟩ := atElem_inv hv
    have e1 := atDat_inj (congrArg Prod.fst e)
    rw [fAt_yes K.apart ht]
    rw [hrun]
    simp [e1]
  · have hn : ∀ t ∈ T, t.k ≠ x := fun t ht e => hx ⟨t, ht, e⟩
    have hh := K.hasnt rx hn
    rw [atKey_of_not_has hh] at hv
    rw [hh] at hrun
    obtain ⟨n, rfl, e⟩ := atElem_inv hv
    have e1 := atDat_inj (congrArg Prod.fst e)
    rw [fAt_no hn]
    rw [hrun]
    simp [e1]
/-- how many a wheel may have. -/
def mst (m : Int) : Nat := (min (max m 0) 512).toNat
theorem mst_le (m : Int) : mst m ≤ 512 := by unfold mst; omega
theorem new_pw (W : World) (k : Nat) (n : Int) (hk : k ≤ 512) (hn : n = k) : PW ((W.alloc (.map #[] 0)).alloc (.cells #[.int .i64 n, .map (some W.heap.size)] 74)) (W.heap.size + 1) W.heap.size 0 k [] := by
  subst hn
  refine ⟨?_, ⟨0, .map [], Nat.le_refl _, (World.ownsMap_made W _ _ _).kept (World.grownBy_alloc _ _ none) (by simp), MapT.nil⟩, hk⟩
  have := heap_alloc_new (W.alloc (.map #[] 0)) (.cells #[.int .i64 (k : Int), .map (some W.heap.size)] 74)
  simpa using this

set_option maxRecDepth 100000 in
set_option maxHeartbeats 1000000 in
theorem newW (most : Int) (W : World) :
    Calls Try.prog 8 #[.int .i64 most] W fun e W' => e = .returned (.pointer (some ⟨W.heap.size + 1, 0, none⟩)) ∧ PW W' (W.heap.size + 1) W.heap.size 0 (mst most) [] ∧ Below W.heap.size W W' := by
  have hmm := @run_makeMap Try.prog
  have hm : Hid ((mst most : Int) = min (max most 0) 512) := Lib.hid (by unfold mst; omega)
  have HM2 := Lib.hid (mst_le most)
  generalize mst most = k at hm HM2 ⊢
  go_enter Try.func8, Try.ntmps8
  go_wp2
  all_goals
    go_ret
    exact ⟨by simp, new_pw W _ _ HM2.out (by have := hm.out; omega), ((Below.refl _ _).alloc (Nat.le_refl _) _).alloc (by simp) _⟩

set_option maxRecDepth 100000 in
set_option maxHeartbeats 1000000 in
theorem lenW (W : World) (b m c most : Nat) (T : List Tm) (h : PW W b m c most T) :
    Calls Try.prog 23 #[.pointer (some ⟨b, 0, none⟩)] W fun e W' => e = .returned (.int .i64 T.length) ∧ W = W' := by
  have c1 := cell_of h.whl 1 (.map (some m)) rfl
  obtain ⟨nn, D, hk, O, K⟩ := h.map
  have hlen := fun ty => O.len mapU ty
  rw [K.size] at hlen
  clear O K h
  go_enter Try.func23, Try.ntmps23
  go_wp2
  go_ret
  exact ⟨rfl, rfl⟩

set_option maxRecDepth 100000 in
set_option maxHeartbeats 1000000 in
theorem atW (W : World) (b m c most : Nat) (T : List Tm) (x : K13) (rx : x.Rng) (h : PW W b m c most T) :
    Calls Try.prog 16 #[.pointer (some ⟨b, 0, none⟩), .agg x.cs] W fun e W' => e = .returned (.tuple #[.int .i64 (fAt T x).1, .bool (fAt T x).2]) ∧ Below W.heap.size W W' := by
  obtain ⟨W1, hW1⟩ : ∃ W1, W.alloc (.cells x.cs 50) = W1 := ⟨_, rfl⟩
  have b1 : Below W.heap.size W W1 := by rw [← hW1]; exact (Below.refl _ _).alloc (Nat.le_refl _) _
  have r1 : W1.heap[W.heap.size]? = some (.cells x.cs 50 (0, 0)) := by rw [← hW1]; exact heap_alloc_new _ _
  obtain ⟨W3, hW3⟩ : ∃ X, W1.drew = X := ⟨_, rfl⟩
  have b3 : Below W.heap.size W W3 := by rw [← hW3]; exact b1.drew
  have r3 : W3.heap[W.heap.size]? = some (.cells x.cs 50 (0, 0)) := by rw [← hW3]; exact r1
  have h3 := h.below b3
  obtain ⟨es, clock, hm, hl⟩ := h3.look x rx
  have HS : W3.heap[b]? = some (.cells #[.int .i64 most, .map (some m)] 74 (0, 0)) ∧ W3.heap[W.heap.size]? = some (.cells x.cs 50 (0, 0)) ∧ W3.heap[m]? = some (.map es clock) := ⟨h3.whl, r3, hm⟩
  have hsz : (Try.prog.info? 50).map (·.size) = some x.cs.size := by kernel_rfl
  obtain ⟨cs, hcs⟩ : ∃ cs, x.cs = cs := ⟨_, rfl⟩
  rw [hcs] at HS hl hsz hW1
  rw [hcs]
  generalize (fAt T x).1 = q1 at hl ⊢
  generalize (fAt T x).2 = q2 at hl ⊢
  have HL := Lib.hid hl
  have HW := Lib.hid hW1
  have HW3 := Lib.hid hW3
  have B3 := Lib.hid b3
  have HH := Lib.hid HS
  have HZ := Lib.hid hsz
  clear h h3 hW1 b1 r1 hcs hW3 b3 r3 HS hm hl rx hsz
  go_enter Try.func16, Try.ntmps16
  go_wp2_with (refine wpList_bx rfl 50 (.tmp 1) rfl 3 rfl cs rfl ?_; rw [HW.out])
  refine region_heldT (S := fun X => X.heap[b]? = some (.cells #[.int .i64 most, .map (some m)] 74 (0, 0)) ∧ X.heap[W.heap.size]? = some (.cells cs 50 (0, 0)) ∧ X.heap[m]? = some (.map es clock)) 10 (by kernel_rfl) (by decide) (fun inv => ?_)
  change FirstH _ _ _ _ _ _ _ _ _ _ W1.drew
  rw [HW3.out]
  have HS := HH.out
  refine FirstH.go (i := 0) (v := .pointer (some ⟨b, 0, none⟩)) rfl rfl _ rfl _ rfl (by kernel_rfl) (fun _ _ _ h => h) inv (fun X _ => by unfold bareO; go_simp) HS (fun inv => ?_)
  try simp only [Act.put, List.setIfInBounds_toArray, List.set_cons_zero, List.set_cons_succ]
  refine FirstH.go (i := 1) (v := .pointer (some ⟨b, 0, none⟩)) rfl rfl _ rfl _ rfl (by kernel_rfl) (fun _ _ _ h => h) inv (fun X _ => by unfold bareO; go_simp) HS (fun inv => ?_)
  try simp only [Act.put, List.setIfInBounds_toArray, List.set_cons_zero, List.set_cons_succ]
  refine FirstH.go (i := 2) (v := .pointer (some ⟨b, 1, none⟩)) rfl rfl _ rfl _ rfl (by kernel_rfl) (fun _ _ _ h => h) inv (fun X _ => by unfold bareO; go_simp) HS (fun inv => ?_)
  try simp only [Act.put, List.setIfInBounds_toArray, List.set_cons_zero, List.set_cons_succ]
  refine FirstH.go (i := 3) (v := .map (some m)) rfl rfl _ rfl _ rfl (by kernel_rfl) (fun _ _ _ h => h) inv (fun X hS => by have c1 := cell_of hS.1 1 (.map (some m)) rfl; unfold bareO; go_simp) HS (fun inv => ?_)
  try simp only [Act.put, List.setIfInBounds_toArray, List.set_cons_zero, List.set_cons_succ]
  refine FirstH.go (i := 4) (v := .agg cs) rfl rfl _ rfl _ rfl (by kernel_rfl) (fun _ _ _ h => h) inv (fun X hS => run_load_row 50 _ _ W.heap.size rfl _ _ _ _ hS.2.1 Try.underlying50 rfl HZ.out) HS (fun inv => ?_)
  try simp only [Act.put, List.setIfInBounds_toArray, List.set_cons_zero, List.set_cons_succ]
  refine FirstH.go (i := 5) (v := .tuple #[.int .i64 q1, .bool q2]) rfl rfl _ rfl _ rfl (by kernel_rfl) (fun _ _ _ h => h) inv (fun X hS => by have hl := HL.out X hS.2.2; unfold bareO; go_simp) HS (fun inv => ?_)
  try simp only [Act.put, List.setIfInBounds_toArray, List.set_cons_zero, List.set_cons_succ]
  refine FirstH.go (i := 6) (v := .tuple #[.int .i64 q1, .bool q2]) rfl rfl _ rfl _ rfl (by kernel_rfl) (fun _ _ _ h => h) inv (fun X _ => by unfold bareO; go_simp) HS (fun inv => ?_)
  try simp only [Act.put, List.setIfInBounds_toArray, List.set_cons_zero, List.set_cons_succ]
  refine FirstH.go (i := 7) (v := .int .i64 q1) rfl rfl _ rfl _ rfl (by kernel_rfl) (fun _ _ _ h => h) inv (fun X _ => by unfold bareO; go_simp) HS (fun inv => ?_)
  try simp only [Act.put, List.setIfInBounds_toArray, List.set_cons_zero, List.set_cons_succ]
  refine FirstH.go (i := 8) (v := .bool q2) rfl rfl _ rfl _ rfl (by kernel_rfl) (fun _ _ _ h => h) inv (fun X _ => by unfold bareO; go_simp) HS (fun inv => ?_)
  try simp only [Act.put, List.setIfInBounds_toArray, List.set_cons_zero, List.set_cons_succ]
  refine FirstH.go (i := 9) (v := .int .i64 q1) rfl rfl _ rfl _ rfl (by kernel_rfl) (fun _ _ _ h => h) inv (fun X _ => by unfold bareO; go_simp) HS (fun inv => ?_)
  try simp only [Act.put, List.setIfInBounds_toArray, List.set_cons_zero, List.set_cons_succ]
  clear HS
  refine ⟨by kernel_rfl, ?_⟩
  simp only [List.drop_succ_cons, List.drop_zero]
  go_wp2
  exact bodyPost_ret (results_tmp2 rfl _ _ _) rfl ⟨rfl, B3.out⟩

end Go.Proofs.Ytfekkfphogjpeaa
