/-
  Equal values are the same: the program's Same, the document's, by exact answers. Condition: they lie in memory.
-/
import Derived.Test.YtfkmodmgihadkaaGsm
namespace Go.Proofs.Ytfkmodmgihadkaa
set_option linter.unusedSimpArgs false
set_option linter.unusedVariables false
open Go.RowKit Go.Maps Go.Sort
open V (P2)

set_option maxRecDepth 100000 in
set_option maxHeartbeats 2000000 in
theorem valSame (x y : Vl) (w : World) (h : x.At w w.heap.size) (h2 : y.At w w.heap.size) (hd : y.d = x.d) :
    Calls Try.prog 10 #[.agg x.cs, .agg y.cs] w fun r w' => r = .returned (.bool true) ∧ Below w.heap.size w w' := by
  obtain ⟨m, X, t, L⟩ := x
  obtain ⟨m2, X2, t2, L2⟩ := y
  simp only [Vl.d, Prod.mk.injEq] at hd
  obtain ⟨rfl, hL⟩ := hd
  obtain ⟨A, c, e1, r1, l1, n1⟩ := h.m
  obtain ⟨B, d, e2, r2, l2, n2⟩ := h.t
  obtain ⟨A2, c2, e3, r3, l3, n3⟩ := h2.m
  obtain ⟨B2, d2, e4, r4, l4, n4⟩ := h2.t
  dsimp only [Vl.cs] at *
  subst e1 e2 e3 e4
  have K1 : Hid (∀ W, Below w.heap.size w W → Calls Try.prog 26 #[.slice A X2.length c, .slice A2 X2.length c2] W fun e w' => e = .returned (.bool true) ∧ Below W.heap.size W w') := Lib.hid (fun W hw => equalV A A2 X2 c c2 W (r1.below hw (Nat.le_refl _) hw.size) (r3.below hw (Nat.le_refl _) hw.size) l1 n1 l3 n3)
  have K2 : Hid (∀ W, Below w.heap.size w W → Calls Try.prog 27 #[.slice B L.length d, .slice B2 L2.length d2] W fun e w' => e = .returned (.bool true) ∧ Below W.heap.size W w') := Lib.hid (fun W hw => sameAllE B B2 L L2 d d2 W (r2.below hw (Nat.le_refl _) hw.size) (r4.below hw (Nat.le_refl _) hw.size) hL l2 n2 l4 n4)
  have hlen : L2.length = L.length := by
    have := congrArg List.length hL
    simpa using this
  rw [hlen] at K2 ⊢
  obtain ⟨nx, hnx⟩ : ∃ n, X2.length = n := ⟨_, rfl⟩
  obtain ⟨nl, hnl⟩ : ∃ n, L.length = n := ⟨_, rfl⟩
  rw [hnx] at K1 ⊢
  rw [hnl] at K2 ⊢
  obtain ⟨wd, hwd⟩ : ∃ z, ((w.alloc (.cells #[.slice A nx c, .slice B nl d] 32)).alloc (.cells #[.slice A2 nx c2, .slice B2 nl d2] 32)) = z := ⟨_, rfl⟩
  have b0 : Below w.heap.size w wd := by rw [← hwd]; exact ((Below.refl _ _).alloc (Nat.le_refl _) _).alloc (by simp) _
  have ra : wd.heap[w.heap.size]? = some (.cells #[.slice A nx c, .slice B nl d] 32 (0, 0)) := by
    rw [← hwd, Below.heap_alloc _ _ _ (by simp)]
    exact heap_alloc_new _ _
  have rb : wd.heap[w.heap.size + 1]? = some (.cells #[.slice A2 nx c2, .slice B2 nl d2] 32 (0, 0)) := by
    rw [← hwd]
    have := heap_alloc_new (w.alloc (.cells #[.slice A nx c, .slice B nl d] 32)) (.cells #[.slice A2 nx c2, .slice B2 nl d2] 32)
    simpa using this
  have a0 := cell_of ra 0 (.slice A nx c) rfl
  have a1 := cell_of ra 1 (.slice B nl d) rfl
  have q0 := cell_of rb 0 (.slice A2 nx c2) rfl
  have q1 := cell_of rb 1 (.slice B2 nl d2) rfl
  have HW := Lib.hid hwd
  have B0 := Lib.hid b0
  have HA1 := Lib.hid a1
  have HQ1 := Lib.hid q1
  clear h h2 r1 r2 r3 r4 l1 l2 l3 l4 n1 n2 n3 n4 hL hlen hnx hnl hwd b0 ra rb
  go_enter Try.func10, Try.ntmps10
  go_wp2_with (first
    | (rw [HW.out])
    | (go_at_call 26
       refine (K1.out wd B0.out).mono ?_
       rintro r w2 ⟨rfl, b2⟩
       have p1 : w2.cell? ⟨w.heap.size, 1, none⟩ = some (.slice B nl d) := (b2.cell (p := ⟨w.heap.size, 1, none⟩) (World.block_lt_of_cell? _ _ HA1.out)).trans HA1.out
       have p2 : w2.cell? ⟨w.heap.size + 1, 1, none⟩ = some (.slice B2 nl d2) := (b2.cell (p := ⟨w.heap.size + 1, 1, none⟩) (World.block_lt_of_cell? _ _ HQ1.out)).trans HQ1.out
       have B2x := Lib.hid (B0.out.trans (b2.mono B0.out.size))
       clear b2)
    | (go_at_call 27
       have B2y := B2x.out
       refine (K2.out w2 B2y).mono ?_
       rintro r w3 ⟨rfl, b3⟩
       have B3x := Lib.hid (B2y.trans (b3.mono B2y.size))
       clear b3))
  go_ret
  exact ⟨rfl, B3x.out⟩

end Go.Proofs.Ytfkmodmgihadkaa
