/-
  knows: what must come of a bag: by an exact answer. No condition.
-/
import Derived.Test.YteaafpgkifmdeaaBtk
import Derived.Lib.SmallJoins
namespace Go.Proofs.Yteaafpgkifmdeaa
set_option linter.unusedSimpArgs false
set_option linter.unusedVariables false
open Go.RowKit Go.Sort

theorem conv_bytes {w : World} {B : Nat} {A : Option Addr} {L : List UInt8} (h : BytesAt w B A L) (c : Nat) : Sem.run Try.prog (convert 34 9 (.slice A L.length c)) w = .ok (.string ⟨L.toArray⟩) w := by
  cases A with
  | none =>
    have hl : L = [] := by
      rcases Classical.em (L = []) with h0 | h0
      · exact h0
      · obtain ⟨g, o, e, -⟩ := h h0
        cases e
    subst hl
    exact run_convert_bytes_nil w _ _ Try.underlying34 Try.underlying5 0 c _ Try.underlying9
  | some a =>
    exact run_convert_bytes_back w 34 9 5 a c L Try.underlying34 Try.underlying5 Try.underlying9 (fun j hj => by
      have hne : L ≠ [] := by intro e; rw [e] at hj; simp at hj
      obtain ⟨g, o, e, _, hc⟩ := h hne
      cases e
      rw [addr_add]
      exact hc j _ (List.getElem?_eq_getElem hj))
/-- bytes newly laid. -/
theorem bytes_new (w : World) (L : List UInt8) (cs : Array Value) (fr : Nat × Nat) (h : cs.toList = Lib.byteCells L) : BytesAt (w.alloc (.cells cs 5 fr)) (w.heap.size + 1) (some ⟨w.heap.size, 0, none⟩) L := fun _ => by
  refine ⟨w.heap.size, 0, rfl, Nat.lt_succ_self _, fun j x hx => ?_⟩
  rw [Nat.zero_add, cell_of_row _ _ j _ _ _ (heap_alloc_new w _)]
  have h1 : cs.toList[j]? = some (.int .u8 x.toNat) := by rw [h, Lib.byteCells, List.getElem?_map, hx]; rfl
  simpa using h1

set_option maxRecDepth 100000 in
set_option maxHeartbeats 2000000 in
theorem knowsB (W : World) : Calls Try.prog 8 #[] W fun e W' => e = .returned (.bool true) ∧ Below W.heap.size W W' := by
  have K0 := Lib.hid (newB 2 W W.heap.size (Nat.le_refl _))
  go_enter Try.func8, Try.ntmps8
  go_wp2_with fail
  refine K0.out.mono ?_
  rintro e w1 ⟨b, l, rfl, p1, b1⟩
  have hm : mst 2 = 2 := rfl
  rw [hm] at p1
  obtain ⟨w2, hw2⟩ : ∃ x, w1.alloc (.cells #[.int .u8 97, .int .u8 98, .int .u8 99, .int .u8 100] 5 (4, 5)) = x := ⟨_, rfl⟩
  have b2 : Below w1.heap.size w1 w2 := by rw [← hw2]; exact (Below.refl _ _).alloc (Nat.le_refl _) _
  have at2 := bytes_new w1 [97, 98, 99, 100] #[.int .u8 97, .int .u8 98, .int .u8 99, .int .u8 100] (4, 5) rfl
  rw [hw2] at at2
  have s2 : w2.heap.size = w1.heap.size + 1 := by rw [← hw2]; simp
  have K1 := Lib.hid (put_ok W.heap.size b l 2 _ [] (⟨⟨0, 0, 0, 0, [97, 98, 99, 100], false⟩, some ⟨w1.heap.size, 0, none⟩, 4⟩ : Lp) w2 (p1.below b2) (show 0 < 2 by omega) (at2.up (by omega)) (show 4 ≤ 140737488351232 by omega) (show 4 ≤ 4 by omega) (show 4 ≤ maxLen by unfold maxLen; omega))
  have HW2 := Lib.hid hw2
  have B2 := Lib.hid (b1.trans (b2.mono b1.size))
  clear p1 b1 hm hw2 b2 at2 s2 K0
  have K1' : Hid (Calls Try.prog 17 #[.pointer (some ⟨b, 0, none⟩), .agg #[.int .u8 0, .int .u16 0, .int .u8 0, .int .u16 0, .slice (some ⟨w1.heap.size, 0, none⟩) 4 4, .bool false]] w2 _) := K1
  clear K1
  have cv : Sem.run Try.prog (convert 34 34 (.slice (some ⟨w1.heap.size, 0, none⟩) 4 4)) (w1.alloc (.cells #[.int .u8 97, .int .u8 98, .int .u8 99, .int .u8 100] 5)) = .ok (.slice (some ⟨w1.heap.size, 0, none⟩) 4 4) w2 := by rw [← HW2.out]; exact Joins.run_convert_bytes_const_at w1 34 5 _ 4 4 _ rfl Try.underlying34 Try.underlying5
  go_wp2_with fail
  refine K1'.out.mono ?_
  clear K1' HW2 cv
  rintro e w3 ⟨rfl, y1, v1, hy1, ok1, p3, k3⟩
  have B3 := Lib.hid (B2.out.trans (k3.below B2.out.size (fun k hk => by
    rcases hk with rfl | hk
    · exact p3.hl
    · cases hk)))
  clear k3 ok1
  obtain ⟨w4, hw4⟩ : ∃ x, w3.alloc (.cells #[.int .u8 120] 5 (1, 2)) = x := ⟨_, rfl⟩
  have b4 : Below w3.heap.size w3 w4 := by rw [← hw4]; exact (Below.refl _ _).alloc (Nat.le_refl _) _
  have at4 := bytes_new w3 [120] #[.int .u8 120] (1, 2) rfl
  rw [hw4] at at4
  have s4 : w4.heap.size = w3.heap.size + 1 := by rw [← hw4]; simp
  have K2 := Lib.hid (put_ok W.heap.size b l 2 v1 ([] ++ [y1]) (⟨⟨0, 0, 0, 0, [120], false⟩, some ⟨w3.heap.size, 0, none⟩, 1⟩ : Lp) w4 (p3.below b4) (show 1 < 2 by omega) (at4.up (by omega)) (show 1 ≤ 140737488351232 by omega) (show 1 ≤ 1 by omega) (show 1 ≤ maxLen by unfold maxLen; omega))
  have HW4 := Lib.hid hw4
  have HP3 := Lib.hid p3
  have B4 := Lib.hid (B3.out.trans (b4.mono B3.out.size))
  have HY1 := Lib.hid hy1
  clear p3 hw4 b4 at4 s4 hy1
  have K2' : Hid (Calls Try.prog 17 #[.pointer (some ⟨b, 0, none⟩), .agg #[.int .u8 0, .int .u16 0, .int .u8 0, .int .u16 0, .slice (some ⟨w3.heap.size, 0, none⟩) 1 1, .bool false]] w4 _) := K2
  clear K2
  have cv : Sem.run Try.prog (convert 34 34 (.slice (some ⟨w3.heap.size, 0, none⟩) 1 1)) (w3.alloc (.cells #[.int .u8 120] 5)) = .ok (.slice (some ⟨w3.heap.size, 0, none⟩) 1 1) w4 := by rw [← HW4.out]; exact Joins.run_convert_bytes_const_at w3 34 5 _ 1 1 _ rfl Try.underlying34 Try.underlying5
  go_wp2_with fail
  refine K2'.out.mono ?_
  clear K2' HW4 cv
  rintro e w5 ⟨rfl, y2, v2, hy2, ok2, p5, k5⟩
  have B5 := Lib.hid (B4.out.trans (k5.below B4.out.size (fun k hk => by
    rcases hk with rfl | hk
    · exact p5.hl
    · exact (HP3.out.row.lt k hk).1)))
  have V2 := Lib.hid (fun k hk => (p5.row.lt k hk).1)
  have K3 := Lib.hid (take_yes W.heap.size b l 2 v2 ([] ++ [y1] ++ [y2]) 0 w5 p5 (show 0 < 2 by omega))
  have hy1 := HY1.out
  clear k5 ok2 p5 hy2 HP3
  obtain ⟨⟨fn, fl, tn, tl, Bd, bad⟩, A1, c1⟩ := y1
  simp only [Pc.mk.injEq] at hy1
  obtain ⟨rfl, rfl, rfl, rfl, rfl, rfl⟩ := hy1
  have K3' : Hid (Calls Try.prog 19 #[.pointer (some ⟨b, 0, none⟩), .int .i64 0] w5 (fun e W' => e = .returned (.tuple #[.agg #[.int .u8 0, .int .u16 0, .int .u8 0, .int .u16 0, .slice A1 4 c1, .bool false], .int .i64 0]) ∧ Lp.Ok ⟨⟨0, 0, 0, 0, [97, 98, 99, 100], false⟩, A1, c1⟩ W' W.heap.size ∧ ∃ v', PB W.heap.size W' b l 2 v' [y2] ∧ KP (fun k => k = l ∨ v2.ownBlock = some k) w5 W')) := K3
  clear K3 HY1
  go_wp2_with fail
  refine K3'.out.mono ?_
  clear K3'
  rintro e w6 ⟨rfl, ok6, v6, p6, k6⟩
  have B6 := Lib.hid (B5.out.trans (k6.below B5.out.size (fun k hk => by
    rcases hk with rfl | hk
    · exact p6.hl
    · exact V2.out k hk)))
  obtain ⟨w7, hw7⟩ : ∃ x, w6.alloc (.cells #[.int .u8 0, .int .u16 0, .int .u8 0, .int .u16 0, .slice none 0 0, .bool false] 45) = x := ⟨_, rfl⟩
  have r7 : w7.heap[w6.heap.size]? = some (.cells #[.int .u8 0, .int .u16 0, .int .u8 0, .int .u16 0, .slice none 0 0, .bool false] 45 (0, 0)) := by rw [← hw7]; exact heap_alloc_new _ _
  have b7 : Below w6.heap.size w6 w7 := by rw [← hw7]; exact (Below.refl _ _).alloc (Nat.le_refl _) _
  obtain ⟨w8, hw8⟩ : ∃ x, w7.setRow w6.heap.size #[.int .u8 0, .int .u16 0, .int .u8 0, .int .u16 0, .slice A1 4 c1, .bool false] = x := ⟨_, rfl⟩
  have r8 : w8.heap[w6.heap.size]? = some (.cells #[.int .u8 0, .int .u16 0, .int .u8 0, .int .u16 0, .slice A1 4 c1, .bool false] 45 (0, 0)) := by rw [← hw8]; exact setRow_heap _ _ _ _ _ _ r7
  have b8 : Below w6.heap.size w6 w8 := by rw [← hw8]; exact below_row b7 (Nat.le_refl _) _
  have hcv : Sem.run Try.prog (convert 34 9 (.slice A1 4 c1)) w8 = .ok (.string ⟨#[97, 98, 99, 100]⟩) w8 := conv_bytes (L := [97, 98, 99, 100]) (ok6.own.at_.below b8 (Nat.le_refl _) b8.size) c1
  have KL := Lib.hid (lenB W.heap.size b l 2 v6 [y2] w8 (p6.below b8))
  have q4 := cell_of r8 4 (.slice A1 4 c1) rfl
  have R7 := Lib.hid r7
  have HW7 := Lib.hid hw7
  have HW8 := Lib.hid hw8
  have B8 := Lib.hid (B6.out.trans (b8.mono B6.out.size))
  clear r7 hw7 b7 hw8 r8 b8 p6 k6 ok6
  go_wp2_with (first
    | (rw [HW7.out])
    | (refine wpList_store_row rfl 45 (.tmp 4) (.tmp 20) rfl w6.heap.size #[.int .u8 0, .int .u16 0, .int .u8 0, .int .u16 0, .slice A1 4 c1, .bool false] (by rfl) (by rfl) 45 #[.int .u8 0, .int .u16 0, .int .u8 0, .int .u16 0, .slice none 0 0, .bool false] R7.out (by kernel_rfl) rfl (by simp [Value.oneCell']) ?_; rw [HW8.out])
    | (go_at_call 14; refine (numE 0 _).mono ?_; rintro e2 w2 ⟨rfl, rfl⟩)
    | (go_at_call 12; refine KL.out.mono ?_; rintro e3 w3 ⟨rfl, rfl⟩))
  go_ret
  exact ⟨rfl, B8.out⟩

end Go.Proofs.Yteaafpgkifmdeaa
