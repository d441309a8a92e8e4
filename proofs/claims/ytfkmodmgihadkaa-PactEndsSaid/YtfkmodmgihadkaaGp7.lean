/-
  The program's proposer: Start, by an exact answer. Condition: the view's members lie in memory.
-/
import Derived.Test.YtfkmodmgihadkaaGp6
import Derived.Deep.MidRow
namespace Go.Proofs.Ytfkmodmgihadkaa
set_option linter.unusedSimpArgs false
set_option linter.unusedVariables false
open Go.RowKit Go.Maps Go.Sort
open V (P2)

def Pd.init (g N : Int) (M : List P2) (bal : Int) : Pd := ⟨g, N, M, bal, 0, [], [], 0, ([], []), false, ([], [])⟩
theorem box_w0 (w3 u : World) (b : Nat) (t : TypeId) (cs : Array Value) (h : w3.alloc (.cells cs t) = u) (hb : w3.heap.size = b) : u.heap[b]? = some (.cells cs t (0, 0)) := by
  rw [← h, ← hb]
  exact heap_alloc_new _ _
set_option maxRecDepth 100000 in
set_option maxHeartbeats 2000000 in
theorem pStartNo (g N bal : Int) (A : Option Addr) (M : List P2) (c : Nat) (W : World) (hr : V.RowsV W W.heap.size A M) (hc : M.length ≤ c) (hm : c ≤ maxLen) (h : V.vR g N M = false ∨ bal = 0) :
    Calls Try.prog 13 #[.agg #[.int .u8 g, .int .u32 N, .slice A M.length c], .int .u64 bal] W fun e W' => e = .returned (.pointer none) ∧ Below W.heap.size W W' := by
  obtain ⟨k, hk⟩ : ∃ k, W.heap.size = k := ⟨_, rfl⟩
  obtain ⟨w1, hw1⟩ : ∃ z, W.alloc (.cells #[.int .u8 g, .int .u32 N, .slice A M.length c] 57) = z := ⟨_, rfl⟩
  have b1 : Below W.heap.size W w1 := by rw [← hw1]; exact (Below.refl _ _).alloc (Nat.le_refl _) _
  have r1 : w1.heap[k]? = some (.cells #[.int .u8 g, .int .u32 N, .slice A M.length c] 57 (0, 0)) := by rw [← hw1, ← hk]; exact heap_alloc_new _ _
  have KR := Lib.hid (V.rightO1 g N A M c w1 (hr.below b1 (Nat.le_refl _) b1.size) hc hm)
  obtain ⟨n, hn⟩ : ∃ n, M.length = n := ⟨_, rfl⟩
  rw [hn] at KR hw1 r1 ⊢
  have c0 := cell_of r1 0 (.int .u8 g) rfl
  have c1 := cell_of r1 1 (.int .u32 N) rfl
  have c2 := cell_of r1 2 (.slice A n c) rfl
  have HW1 := Lib.hid hw1
  have HK := Lib.hid hk
  have B1 := Lib.hid b1
  obtain ⟨rt, hrt⟩ : ∃ z, V.vR g N M = z := ⟨_, rfl⟩
  rw [hrt] at KR h
  clear hr hw1 b1 r1 hk hrt hn hc hm
  cases rt with
  | false =>
    clear h
    go_enter Try.func13, Try.ntmps13
    go_wp2_with (first
      | (rw [HW1.out, HK.out])
      | (go_at_call 28; refine KR.out.mono ?_; rintro e u ⟨rfl, b2⟩; have B2 := Lib.hid (B1.out.trans (b2.mono B1.out.size)); clear b2))
    go_ret
    exact ⟨rfl, B2.out⟩
  | true =>
    obtain rfl : bal = 0 := by simpa using h
    clear h
    go_enter Try.func13, Try.ntmps13
    go_wp2_with (first
      | (rw [HW1.out, HK.out])
      | (go_at_call 28; refine KR.out.mono ?_; rintro e u ⟨rfl, b2⟩; have B2 := Lib.hid (B1.out.trans (b2.mono B1.out.size)); clear b2))
    go_ret
    exact ⟨rfl, B2.out⟩
set_option maxRecDepth 100000 in
set_option maxHeartbeats 2000000 in
theorem pStartYes (g N bal : Int) (A : Option Addr) (M : List P2) (c : Nat) (W : World) (hr : V.RowsV W W.heap.size A M) (hc : M.length ≤ c) (hm : c ≤ maxLen) (h : V.vR g N M = true) (h0 : bal ≠ 0) :
    Calls Try.prog 13 #[.agg #[.int .u8 g, .int .u32 N, .slice A M.length c], .int .u64 bal] W fun e W' => ∃ b, e = .returned (.pointer (some ⟨b, 0, none⟩)) ∧ ∃ m, PP W.heap.size W' b m (Pd.init g N M bal) ∧ Below W.heap.size W W' := by
  have hv := h
  simp only [V.vR, Bool.and_eq_true, decide_eq_true_eq] at hv
  obtain ⟨⟨⟨⟨_, _⟩, v1⟩, v2⟩, _⟩ := hv
  obtain ⟨k, hk⟩ : ∃ k, W.heap.size = k := ⟨_, rfl⟩
  obtain ⟨w1, hw1⟩ : ∃ z, W.alloc (.cells #[.int .u8 g, .int .u32 N, .slice A M.length c] 57) = z := ⟨_, rfl⟩
  have b1 : Below W.heap.size W w1 := by rw [← hw1]; exact (Below.refl _ _).alloc (Nat.le_refl _) _
  have r1 : w1.heap[k]? = some (.cells #[.int .u8 g, .int .u32 N, .slice A M.length c] 57 (0, 0)) := by rw [← hw1, ← hk]; exact heap_alloc_new _ _
  have KR := Lib.hid (V.rightO1 g N A M c w1 (hr.below b1 (Nat.le_refl _) b1.size) hc hm)
  have KC : Hid (∀ u, Below w1.heap.size w1 u → Calls Try.prog 29 #[.agg #[.int .u8 g, .int .u32 N, .slice A M.length c]] u fun e w' => ∃ (A2 : Option Addr) (c2 : Nat), e = .returned (.agg #[.int .u8 g, .int .u32 N, .slice A2 M.length c2]) ∧ w'.ownsRow u.heap.size 54 2 (.slice A2 M.length c2) M.length (V.cellsV M) ∧ Below u.heap.size u w') := Lib.hid (fun u hu => V.cloneO g N A M c u (hr.below (b1.trans (hu.mono b1.size)) (Nat.le_refl _) (b1.trans (hu.mono b1.size)).size) (by rintro rfl; simp at v1) (by omega) hc hm)
  rw [h] at KR
  obtain ⟨n, hn⟩ : ∃ n, M.length = n := ⟨_, rfl⟩
  have HN := Lib.hid hn
  rw [hn] at KR hw1 r1 KC ⊢
  have c0 := cell_of r1 0 (.int .u8 g) rfl
  have c1 := cell_of r1 1 (.int .u32 N) rfl
  have c2 := cell_of r1 2 (.slice A n c) rfl
  have HW1 := Lib.hid hw1
  have HK := Lib.hid hk
  have R1 := Lib.hid r1
  have B1 := Lib.hid b1
  have HV := Lib.hid h
  have hb0 : (bal == 0) = false := by simpa using h0
  have hmm := @run_makeMap Try.prog
  clear hr hw1 b1 r1 hk hn hc hm h v1 v2 h0
  go_enter Try.func13, Try.ntmps13
  go_wp2_with (first
    | (rw [HW1.out, HK.out])
    | (go_at_call 28; refine KR.out.mono ?_; rintro e u ⟨rfl, b2⟩
       have r2 := (b2.block k (heap_lt R1.out)).trans R1.out
       have c0 := cell_of r2 0 (.int .u8 g) rfl
       have c1 := cell_of r2 1 (.int .u32 N) rfl
       have c2 := cell_of r2 2 (.slice A n c) rfl
       have KCx := Lib.hid (KC.out u b2)
       have B2 := Lib.hid (B1.out.trans (b2.mono B1.out.size)); clear b2 r2)
    | (go_at_call 29
       have KCy := KCx.out
       refine KCy.mono ?_
       rintro e u3 ⟨A2, c2, rfl, o3, b3⟩
       have B3 := B2.out.trans (b3.mono B2.out.size)
       obtain ⟨m, hm⟩ : ∃ m, u3.heap.size = m := ⟨_, rfl⟩
       obtain ⟨u4, hu4⟩ : ∃ z, u3.alloc (.map #[] 0) = z := ⟨_, rfl⟩
       have ct4 : CtAt u4 m [] := by rw [← hu4, ← hm]; exact CtAt.made u3
       have s4 : u4.heap.size = m + 1 := by rw [← hu4, ← hm]; simp
       have b4 : Below u3.heap.size u3 u4 := by rw [← hu4]; exact (Below.refl _ _).alloc (Nat.le_refl _) _
       obtain ⟨u5, hu5⟩ : ∃ z, u4.alloc (.cells #[.int .u8 g, .int .u32 N, .slice A2 n c2, .int .u64 bal, .int .i64 0, .map (some m), .slice none 0 0, .int .u64 0, .slice none 0 0, .slice none 0 0, .bool false, .slice none 0 0, .slice none 0 0] 73) = z := ⟨_, rfl⟩
       have r5 := box_w0 u4 u5 (m + 1) _ _ hu5 s4
       have b5 : Below u4.heap.size u4 u5 := by rw [← hu5]; exact (Below.refl _ _).alloc (Nat.le_refl _) _
       have b35 : Below u3.heap.size u3 u5 := b4.trans (b5.mono b4.size)
       have B5 := Lib.hid (B3.trans (b35.mono B3.size))
       have HPP : Hid (PP k u5 (m + 1) m (Pd.init g N M bal)) := Lib.hid ⟨⟨.slice A2 n c2, .slice none 0 0, [], V0, V0⟩, by have := B3.size; rw [HK.out, hm] at this; omega, by have := B3.size; rw [HK.out, hm] at this; exact this, r5,
         ct4.keep (b5.block m (by omega)), (PrO.of_owns (X := M) (v := .slice A2 n c2) (by rw [HN.out]; exact o3)).keep (Keeps.of_below b35), EnO.nil _, rfl, by simp, V0.ok _, rfl, V0.ok _, rfl, HV.out, fun _ h => by cases h⟩
       have HM := Lib.hid hm
       have HU4 := Lib.hid hu4
       have HU5 := Lib.hid hu5
       have HS4 := Lib.hid s4
       clear ct4 s4 b4 r5 b5 b35 hu4 hu5 hm B3 b3 o3)
    | (rw [HU4.out, HM.out])
    | (rw [HU5.out, HS4.out])
    | fail)
  go_ret
  exact ⟨_, rfl, m, HK.out ▸ HPP.out, HK.out ▸ B5.out⟩

end Go.Proofs.Ytfkmodmgihadkaa
