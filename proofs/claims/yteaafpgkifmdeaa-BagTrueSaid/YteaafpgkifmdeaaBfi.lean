/-
  The bag's find, New, Len, and its calls where there is no bag: by exact answers. Condition: the bag lies in memory.
-/
import Derived.Test.YteaafpgkifmdeaaBow
namespace Go.Proofs.Yteaafpgkifmdeaa
set_option linter.unusedSimpArgs false
set_option linter.unusedVariables false
open Go.RowKit Go.Sort

/-- no bag, or one that nobody made. -/
def NoBag (W : World) (p : Option Addr) : Prop := p = none ∨ ∃ b, p = some ⟨b, 0, none⟩ ∧ W.heap[b]? = some (.cells #[.pointer none] 64 (0, 0))
theorem NoBag.below {W W' : World} {p : Option Addr} (h : NoBag W p) (hb : Below W.heap.size W W') : NoBag W' p := by
  rcases h with h | ⟨b, h1, h2⟩
  · exact .inl h
  · exact .inr ⟨b, h1, (hb.block b (Array.getElem?_eq_some_iff.1 h2).1).trans h2⟩
theorem made_none (p : Option Addr) (W : World) (h : NoBag W p) : Calls Try.prog 31 #[.pointer p] W fun e W' => e = .returned (.bool false) ∧ W = W' := by
  rcases h with rfl | ⟨b, rfl, h⟩
  · exact made_nil W
  · exact made_no b W h

set_option maxHeartbeats 400000 in
theorem find_none (p : Option Addr) (i : Int) (W : World) (h : NoBag W p) : Calls Try.prog 32 #[.pointer p, .int .i64 i] W fun e W' => e = .returned (.tuple #[.pointer none, .int .i64 1]) ∧ W = W' := by
  have K := Lib.hid (made_none p W h)
  clear h
  go_enter Try.func32, Try.ntmps32
  go_wp2_with fail
  refine K.out.mono ?_
  rintro e w' ⟨rfl, rfl⟩
  go_wp2
  go_ret2
  exact ⟨rfl, rfl⟩
set_option maxHeartbeats 400000 in
theorem find_no (base b l most : Nat) (v : Value) (L : List Lp) (i : Int) (W : World) (h : PB base W b l most v L) (hi : i < 0 ∨ (L.length : Int) ≤ i) : Calls Try.prog 32 #[.pointer (some ⟨b, 0, none⟩), .int .i64 i] W fun e W' => e = .returned (.tuple #[.pointer none, .int .i64 3]) ∧ W = W' := by
  obtain ⟨A, c, rfl⟩ : ∃ A c, v = .slice A L.length c := by
    rcases h.row.2 with ⟨rfl, h0⟩ | ⟨g, cap, cur, rfl, _⟩
    · exact ⟨none, 0, by rw [h0]⟩
    · exact ⟨_, _, rfl⟩
  have K := Lib.hid (made_yes b l W h.bag)
  have K2 := Lib.hid (at_no l most L.length c A i W h.lst hi)
  have c0 := cell_of h.bag 0 _ rfl
  clear h
  go_enter Try.func32, Try.ntmps32
  go_wp2_with fail
  refine K.out.mono ?_
  rintro e w' ⟨rfl, rfl⟩
  go_wp2_with fail
  refine K2.out.mono ?_
  rintro e w' ⟨rfl, rfl⟩
  go_wp2
  go_ret2
  exact ⟨rfl, rfl⟩
set_option maxHeartbeats 400000 in
theorem find_yes (base b l most : Nat) (v : Value) (L : List Lp) (i : Nat) (W : World) (h : PB base W b l most v L) (hi : i < L.length) : Calls Try.prog 32 #[.pointer (some ⟨b, 0, none⟩), .int .i64 i] W fun e W' => (∃ g c, v = .slice (some ⟨g, 0, none⟩) L.length c ∧ e = .returned (.tuple #[.pointer (some ⟨g, i * 6, none⟩), .int .i64 0])) ∧ W = W' := by
  obtain ⟨g, c, rfl⟩ : ∃ g c, v = .slice (some ⟨g, 0, none⟩) L.length c := by
    rcases h.row.2 with ⟨rfl, h0⟩ | ⟨g, cap, cur, rfl, _⟩
    · omega
    · exact ⟨_, _, rfl⟩
  have K := Lib.hid (made_yes b l W h.bag)
  have K2 := Lib.hid (at_yes l most L.length c g i W h.lst hi)
  have c0 := cell_of h.bag 0 _ rfl
  clear h
  go_enter Try.func32, Try.ntmps32
  go_wp2_with fail
  refine K.out.mono ?_
  rintro e w' ⟨rfl, rfl⟩
  go_wp2_with fail
  refine K2.out.mono ?_
  rintro e w' ⟨rfl, rfl⟩
  go_wp2
  go_ret2
  exact ⟨⟨g, c, rfl, rfl⟩, rfl⟩

set_option maxHeartbeats 400000 in
theorem lenB (base b l most : Nat) (v : Value) (L : List Lp) (W : World) (h : PB base W b l most v L) : Calls Try.prog 12 #[.pointer (some ⟨b, 0, none⟩)] W fun e W' => e = .returned (.int .i64 L.length) ∧ W = W' := by
  obtain ⟨A, c, rfl⟩ : ∃ A c, v = .slice A L.length c := by
    rcases h.row.2 with ⟨rfl, h0⟩ | ⟨g, cap, cur, rfl, _⟩
    · exact ⟨none, 0, by rw [h0]⟩
    · exact ⟨_, _, rfl⟩
  have K := Lib.hid (made_yes b l W h.bag)
  have c0 := cell_of h.bag 0 _ rfl
  have c1 := cell_of h.lst 1 _ rfl
  clear h
  go_enter Try.func12, Try.ntmps12
  go_wp2_with fail
  refine K.out.mono ?_
  rintro e w' ⟨rfl, rfl⟩
  go_wp2
  go_ret
  exact ⟨rfl, rfl⟩
set_option maxHeartbeats 400000 in
theorem len_none (p : Option Addr) (W : World) (h : NoBag W p) : Calls Try.prog 12 #[.pointer p] W fun e W' => e = .returned (.int .i64 0) ∧ W = W' := by
  have K := Lib.hid (made_none p W h)
  clear h
  go_enter Try.func12, Try.ntmps12
  go_wp2_with fail
  refine K.out.mono ?_
  rintro e w' ⟨rfl, rfl⟩
  go_wp2
  go_ret
  exact ⟨rfl, rfl⟩
set_option maxHeartbeats 400000 in
theorem all_none (p : Option Addr) (W : World) (h : NoBag W p) : Calls Try.prog 24 #[.pointer p] W fun e W' => e = .returned (.slice none 0 0) ∧ W = W' := by
  have K := Lib.hid (made_none p W h)
  clear h
  go_enter Try.func24, Try.ntmps24
  go_wp2_with fail
  refine K.out.mono ?_
  rintro e w' ⟨rfl, rfl⟩
  go_wp2
  go_ret
  exact ⟨rfl, rfl⟩
set_option maxHeartbeats 400000 in
theorem twice_none (p : Option Addr) (i : Int) (W : World) (h : NoBag W p) : Calls Try.prog 20 #[.pointer p, .int .i64 i] W fun e W' => e = .returned (.int .i64 1) ∧ W = W' := by
  have K := Lib.hid (find_none p i W h)
  clear h
  go_enter Try.func20, Try.ntmps20
  go_wp2_with fail
  refine K.out.mono ?_
  rintro e w' ⟨rfl, rfl⟩
  go_wp2
  go_ret
  exact ⟨rfl, rfl⟩
set_option maxRecDepth 100000 in
set_option maxHeartbeats 400000 in
theorem spoil_none (p : Option Addr) (i at_ m : Int) (W : World) (h : NoBag W p) : Calls Try.prog 21 #[.pointer p, .int .i64 i, .int .i64 at_, .int .u32 m] W fun e W' => e = .returned (.int .i64 1) ∧ W = W' := by
  have K := Lib.hid (find_none p i W h)
  clear h
  go_enter Try.func21, Try.ntmps21
  go_wp2_with fail
  refine K.out.mono ?_
  rintro e w' ⟨rfl, rfl⟩
  go_wp2
  go_ret
  exact ⟨rfl, rfl⟩
set_option maxHeartbeats 400000 in
theorem put_none (p : Option Addr) (x : Lp) (W : World) (h : NoBag W p) : Calls Try.prog 17 #[.pointer p, .agg x.cs] W fun e W' => e = .returned (.int .i64 1) ∧ Below W.heap.size W W' := by
  obtain ⟨cs, hcs⟩ : ∃ cs, x.cs = cs := ⟨_, rfl⟩
  rw [hcs]
  clear hcs
  obtain ⟨W1, hW1⟩ : ∃ W1, W.alloc (.cells cs 45) = W1 := ⟨_, rfl⟩
  have b1 : Below W.heap.size W W1 := by rw [← hW1]; exact (Below.refl _ _).alloc (Nat.le_refl _) _
  have K := Lib.hid (made_none p W1 (h.below b1))
  have HW := Lib.hid hW1
  have B1 := Lib.hid b1
  clear h hW1 b1
  go_enter Try.func17, Try.ntmps17
  go_wp2_with (refine wpList_bx rfl 45 (.tmp 1) rfl 3 rfl cs rfl ?_; rw [HW.out])
  refine K.out.mono ?_
  rintro e w' ⟨rfl, rfl⟩
  go_wp2
  go_ret
  exact ⟨rfl, B1.out⟩
theorem results_cell2_row {P : Program} {fn : Func} {p u : Tmp} {ty : TypeId} (h : fn.results = #[.cell p ty, .tmp u]) (tmps : Array Value) (w : World) (g : Nat) (t : TypeId) (cs : Array Value) (fr : Nat × Nat) (d : TypeDesc)
    (hp : tmps.getD p undef = .pointer (some ⟨g, 0, none⟩)) (hg : w.heap[g]? = some (.cells cs t fr))
    (hu : P.underlying ty = some d) (hd : (match d with | .struct _ | .array _ _ => true | _ => false) = true) (hi : (P.info? ty).map (·.size) = some cs.size) :
    Sem.run P (results fn tmps) w = .ok (.tuple #[.agg cs, tmps.getD u undef]) w := by
  have hp' : tmps[p]?.getD undef = .pointer (some ⟨g, 0, none⟩) := by simpa using hp
  simp [results, h, hp', asAddr, run_loadVar_row w g t ty cs fr d hg hu hd hi]
def Z6 : Array Value := #[.int .u8 0, .int .u16 0, .int .u8 0, .int .u16 0, .slice none 0 0, .bool false]
set_option maxRecDepth 100000 in
set_option maxHeartbeats 400000 in
theorem look_none (p : Option Addr) (i : Int) (W : World) (h : NoBag W p) : Calls Try.prog 13 #[.pointer p, .int .i64 i] W fun e W' => e = .returned (.tuple #[.agg Z6, .int .i64 1]) ∧ Below W.heap.size W W' := by
  obtain ⟨W1, hW1⟩ : ∃ W1, W.alloc (.cells Z6 45) = W1 := ⟨_, rfl⟩
  have b1 : Below W.heap.size W W1 := by rw [← hW1]; exact (Below.refl _ _).alloc (Nat.le_refl _) _
  have r1 : W1.heap[W.heap.size]? = some (.cells Z6 45 (0, 0)) := by rw [← hW1]; exact heap_alloc_new _ _
  unfold Z6 at *
  have K := Lib.hid (find_none p i W1 (h.below b1))
  have HW := Lib.hid hW1
  have B1 := Lib.hid b1
  have R1 := Lib.hid r1
  clear h hW1 b1 r1
  go_enter Try.func13, Try.ntmps13
  go_wp2_with (rw [HW.out])
  refine K.out.mono ?_
  rintro e w' ⟨rfl, rfl⟩
  go_wp2_with (refine wpList_store_row rfl 45 (.tmp 4) (.tmp 16) rfl W.heap.size #[.int .u8 0, .int .u16 0, .int .u8 0, .int .u16 0, .slice none 0 0, .bool false] (by rfl) (by rfl) 45 #[.int .u8 0, .int .u16 0, .int .u8 0, .int .u16 0, .slice none 0 0, .bool false] R1.out (by kernel_rfl) rfl (by simp [Value.oneCell']) ?_)
  exact bodyPost_ret (v := .tuple #[.agg #[.int .u8 0, .int .u16 0, .int .u8 0, .int .u16 0, .slice none 0 0, .bool false], .int .i64 1]) (results_cell2_row (p := 4) (u := 5) (ty := 45) rfl _ _ W.heap.size 45 _ (0, 0) _ (by rfl) (setRow_heap _ _ _ _ _ _ R1.out) Try.underlying45 rfl (by kernel_rfl)) rfl ⟨rfl, below_row B1.out (Nat.le_refl _) _⟩

set_option maxRecDepth 100000 in
set_option maxHeartbeats 400000 in
theorem take_none (p : Option Addr) (i : Int) (W : World) (h : NoBag W p) : Calls Try.prog 19 #[.pointer p, .int .i64 i] W fun e W' => e = .returned (.tuple #[.agg Z6, .int .i64 1]) ∧ Below W.heap.size W W' := by
  obtain ⟨W1, hW1⟩ : ∃ W1, W.alloc (.cells Z6 45) = W1 := ⟨_, rfl⟩
  have b1 : Below W.heap.size W W1 := by rw [← hW1]; exact (Below.refl _ _).alloc (Nat.le_refl _) _
  have r1 : W1.heap[W.heap.size]? = some (.cells Z6 45 (0, 0)) := by rw [← hW1]; exact heap_alloc_new _ _
  unfold Z6 at *
  have K := Lib.hid (find_none p i W1 (h.below b1))
  have HW := Lib.hid hW1
  have B1 := Lib.hid b1
  have R1 := Lib.hid r1
  clear h hW1 b1 r1
  go_enter Try.func19, Try.ntmps19
  go_wp2_with (rw [HW.out])
  refine K.out.mono ?_
  rintro e w' ⟨rfl, rfl⟩
  go_wp2_with (refine wpList_store_row rfl 45 (.tmp 4) (.tmp 17) rfl W.heap.size #[.int .u8 0, .int .u16 0, .int .u8 0, .int .u16 0, .slice none 0 0, .bool false] (by rfl) (by rfl) 45 #[.int .u8 0, .int .u16 0, .int .u8 0, .int .u16 0, .slice none 0 0, .bool false] R1.out (by kernel_rfl) rfl (by simp [Value.oneCell']) ?_)
  exact bodyPost_ret (v := .tuple #[.agg #[.int .u8 0, .int .u16 0, .int .u8 0, .int .u16 0, .slice none 0 0, .bool false], .int .i64 1]) (results_cell2_row (p := 4) (u := 5) (ty := 45) rfl _ _ W.heap.size 45 _ (0, 0) _ (by rfl) (setRow_heap _ _ _ _ _ _ R1.out) Try.underlying45 rfl (by kernel_rfl)) rfl ⟨rfl, below_row B1.out (Nat.le_refl _) _⟩

end Go.Proofs.Yteaafpgkifmdeaa
