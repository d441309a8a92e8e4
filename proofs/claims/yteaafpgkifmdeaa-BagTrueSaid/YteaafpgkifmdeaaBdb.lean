/-
  The document's bag: New, there, Put, Look, All, Twice: by exact answers. Condition: the bag lies in memory.
-/
import Derived.Test.YteaafpgkifmdeaaBsa
import Derived.Test.YteaafpgkifmdeaaBsp
namespace Go.Proofs.Yteaafpgkifmdeaa
set_option linter.unusedSimpArgs false
set_option linter.unusedVariables false
open Go.RowKit Go.Sort

/-- the document's bag. -/
structure DB (base : Nat) (W : World) (r most : Nat) (v : Value) (M : List Lp) : Prop where
  hr : base ≤ r
  bag : W.heap[r]? = some (.cells #[v, .int .i64 most] 42 (0, 0))
  row : W.ownsRow base 36 6 v M.length (cellsL M)
  ok : ∀ y ∈ M, y.Ok W base
  few : M.length ≤ most
  most : most ≤ 2000
def DBS (r : Nat) (v : Value) (M : List Lp) (k : Nat) : Prop := k = r ∨ v.ownBlock = some k ∨ ∃ y ∈ M, y.p.B ≠ [] ∧ y.g = k
theorem DB.keep {base r most : Nat} {v : Value} {M : List Lp} {W W' : World} (h : DB base W r most v M) (hk : ∀ k, k < W.heap.size → DBS r v M k → W'.heap[k]? = W.heap[k]?) : DB base W' r most v M := by
  have lt : ∀ {k : Nat} {o : Obj}, W.heap[k]? = some o → k < W.heap.size := fun h => (Array.getElem?_eq_some_iff.1 h).1
  refine ⟨h.hr, (hk r (lt h.bag) (.inl rfl)).trans h.bag, ?_, fun x hx => (h.ok x hx).keep fun k cur _ hne e hc => (hk k (lt hc) (.inr (.inr ⟨x, hx, hne, e⟩))).trans hc, h.few, h.most⟩
  refine ⟨h.row.1, ?_⟩
  rcases h.row.2 with hn | ⟨g, cap, cur, rfl, hb, hgg, rest⟩
  · exact .inl hn
  · exact .inr ⟨g, cap, cur, rfl, hb, (hk g (lt hgg) (.inr (.inl rfl))).trans hgg, rest⟩
theorem DB.below {base r most : Nat} {v : Value} {M : List Lp} {W W' : World} (h : DB base W r most v M) (hb : Below W.heap.size W W') : DB base W' r most v M := h.keep fun k hk _ => hb.block k hk
theorem DB.slice {base r most : Nat} {v : Value} {M : List Lp} {W : World} (h : DB base W r most v M) : ∃ A c, v = .slice A M.length c := by
  rcases h.row.2 with ⟨rfl, h0⟩ | ⟨g, cap, cur, rfl, _⟩
  · exact ⟨none, 0, by rw [h0]⟩
  · exact ⟨_, _, rfl⟩
theorem DB.at_ {base r most : Nat} {v : Value} {M : List Lp} {W : World} (h : DB base W r most v M) {i : Nat} (hi : i < M.length) : ∃ g c, v = .slice (some ⟨g, 0, none⟩) M.length c ∧ Six W g (i * 6) M[i].cs ∧ M.length ≤ c ∧ c ≤ maxLen := by
  have hr := h.row
  rcases h.row.2 with ⟨rfl, h0⟩ | ⟨g, cap, cur, rfl, _, _, h1, h2, _⟩
  · omega
  · exact ⟨g, cap, rfl, Six.of_row hr (List.getElem?_eq_getElem hi), h1, h2⟩

set_option maxHeartbeats 400000 in
theorem there_is (base r most : Nat) (v : Value) (M : List Lp) (i : Int) (W : World) (h : DB base W r most v M) :
    Calls Try.prog 37 #[.pointer (some ⟨r, 0, none⟩), .int .i64 i] W fun e W' => e = .returned (.bool (decide (0 ≤ i) && decide (i < M.length))) ∧ W = W' := by
  obtain ⟨A, c, rfl⟩ := h.slice
  have c0 := cell_of h.bag 0 (.slice A M.length c) rfl
  clear h
  by_cases h0 : 0 ≤ i
  · by_cases h1 : i < (M.length : Int)
    all_goals
      go_enter Try.func37, Try.ntmps37
      go_wp2
      go_ret
      exact ⟨ret_bool (by simp [h0, h1]; try omega), rfl⟩
  · go_enter Try.func37, Try.ntmps37
    go_wp2
    go_ret
    exact ⟨ret_bool (by simp; omega), rfl⟩
theorem there_yes (base r most : Nat) (v : Value) (M : List Lp) (i : Nat) (W : World) (h : DB base W r most v M) (hi : i < M.length) :
    Calls Try.prog 37 #[.pointer (some ⟨r, 0, none⟩), .int .i64 i] W fun e W' => e = .returned (.bool true) ∧ W = W' := by
  have := there_is base r most v M i W h
  rwa [decide_eq_true (show (0 : Int) ≤ (i : Int) by omega), decide_eq_true (show (i : Int) < (M.length : Int) by omega)] at this
theorem there_no (base r most : Nat) (v : Value) (M : List Lp) (i : Int) (W : World) (h : DB base W r most v M) (hi : i < 0 ∨ (M.length : Int) ≤ i) :
    Calls Try.prog 37 #[.pointer (some ⟨r, 0, none⟩), .int .i64 i] W fun e W' => e = .returned (.bool false) ∧ W = W' := by
  have := there_is base r most v M i W h
  have e : (decide (0 ≤ i) && decide (i < (M.length : Int))) = false := by
    rcases hi with h | h
    · rw [decide_eq_false (by omega)]; rfl
    · rw [decide_eq_false (show ¬ i < (M.length : Int) by omega)]; simp
  rwa [e] at this

theorem new_db (W : World) (base m : Nat) (k : Int) (hb : base ≤ W.heap.size) (hm : m ≤ 2000) (hk : k = m) :
    DB base (W.alloc (.cells #[.slice none 0 0, .int .i64 k] 42)) W.heap.size m (.slice none 0 0) [] := by
  subst hk
  exact ⟨hb, heap_alloc_new _ _, World.ownsRow_nil _ _ _ _, fun x hx => (by cases hx), Nat.zero_le _, hm⟩
set_option maxHeartbeats 400000 in
theorem newD (most : Int) (W : World) (base : Nat) (hb : base ≤ W.heap.size) :
    Calls Try.prog 10 #[.int .i64 most] W fun e W' => ∃ r, e = .returned (.pointer (some ⟨r, 0, none⟩)) ∧ DB base W' r (mst most) (.slice none 0 0) [] ∧ Below W.heap.size W W' := by
  have hm : Hid ((mst most : Int) = min (max most 0) 2000) := Lib.hid (by unfold mst; omega)
  have hm2 : mst most ≤ 2000 := by unfold mst; omega
  have HM2 := Lib.hid hm2
  generalize mst most = m at *
  clear hm2
  go_enter Try.func10, Try.ntmps10
  go_wp2
  all_goals
    go_ret
    exact ⟨W.heap.size, rfl, new_db W base m _ hb HM2.out (by have := hm.out; omega), (Below.refl _ _).alloc (Nat.le_refl _) _⟩

set_option maxHeartbeats 400000 in
theorem allD (base r most : Nat) (v : Value) (M : List Lp) (W : World) (h : DB base W r most v M) :
    Calls Try.prog 30 #[.pointer (some ⟨r, 0, none⟩)] W fun e W' => e = .returned v ∧ DB base W' r most (.slice none 0 0) [] ∧ W.setCell ⟨r, 0, none⟩ (.slice none 0 0) = W' := by
  obtain ⟨A, c, rfl⟩ := h.slice
  have c0 := cell_of h.bag 0 (.slice A M.length c) rfl
  have z0 := frz_row 0 h.bag
  have HP := Lib.hid h
  clear h
  go_enter Try.func30, Try.ntmps30
  go_wp2
  go_ret
  exact ⟨rfl, ⟨HP.out.hr, (row_set HP.out.bag _).trans rfl, World.ownsRow_nil _ _ _ _, fun x hx => (by cases hx), Nat.zero_le _, HP.out.most⟩, rfl⟩

set_option maxRecDepth 100000 in
set_option maxHeartbeats 400000 in
theorem lookD_no (base r most : Nat) (v : Value) (M : List Lp) (i : Int) (W : World) (h : DB base W r most v M) (hi : i < 0 ∨ (M.length : Int) ≤ i) :
    Calls Try.prog 26 #[.pointer (some ⟨r, 0, none⟩), .int .i64 i] W fun e W' => e = .returned (.tuple #[.agg Z6, .int .i64 3]) ∧ Below W.heap.size W W' := by
  obtain ⟨W1, hW1⟩ : ∃ W1, W.alloc (.cells Z6 36) = W1 := ⟨_, rfl⟩
  have b1 : Below W.heap.size W W1 := by rw [← hW1]; exact (Below.refl _ _).alloc (Nat.le_refl _) _
  have r1 : W1.heap[W.heap.size]? = some (.cells Z6 36 (0, 0)) := by rw [← hW1]; exact heap_alloc_new _ _
  unfold Z6 at *
  have K := Lib.hid (there_no base r most v M i W1 (h.below b1) hi)
  have HW := Lib.hid hW1
  have B1 := Lib.hid b1
  have R1 := Lib.hid r1
  clear h hW1 b1 r1 hi
  go_enter Try.func26, Try.ntmps26
  go_wp2_with (rw [HW.out])
  refine K.out.mono ?_
  rintro e w' ⟨rfl, rfl⟩
  go_wp2_with (refine wpList_store_row rfl 36 (.tmp 4) (.tmp 10) rfl W.heap.size #[.int .u8 0, .int .u16 0, .int .u8 0, .int .u16 0, .slice none 0 0, .bool false] (by rfl) (by rfl) 36 #[.int .u8 0, .int .u16 0, .int .u8 0, .int .u16 0, .slice none 0 0, .bool false] R1.out (by kernel_rfl) rfl (by simp [Value.oneCell']) ?_)
  exact bodyPost_ret (v := .tuple #[.agg #[.int .u8 0, .int .u16 0, .int .u8 0, .int .u16 0, .slice none 0 0, .bool false], .int .i64 3]) (results_cell2_row (p := 4) (u := 5) (ty := 36) rfl _ _ W.heap.size 36 _ (0, 0) _ (by rfl) (setRow_heap _ _ _ _ _ _ R1.out) Try.underlying36 rfl (by kernel_rfl)) rfl ⟨rfl, below_row B1.out (Nat.le_refl _) _⟩

set_option maxRecDepth 100000 in
set_option maxHeartbeats 1000000 in
theorem lookD_yes (base r most : Nat) (v : Value) (M : List Lp) (i : Nat) (W : World) (h : DB base W r most v M) (hi : i < M.length) :
    Calls Try.prog 26 #[.pointer (some ⟨r, 0, none⟩), .int .i64 i] W fun e W' => e = .returned (.tuple #[.agg M[i].cs, .int .i64 0]) ∧ Below W.heap.size W W' := by
  obtain ⟨W1, hW1⟩ : ∃ W1, W.alloc (.cells #[.int .u8 0, .int .u16 0, .int .u8 0, .int .u16 0, .slice none 0 0, .bool false] 36) = W1 := ⟨_, rfl⟩
  have b1 : Below W.heap.size W W1 := by rw [← hW1]; exact (Below.refl _ _).alloc (Nat.le_refl _) _
  have r1 : W1.heap[W.heap.size]? = some (.cells #[.int .u8 0, .int .u16 0, .int .u8 0, .int .u16 0, .slice none 0 0, .bool false] 36 (0, 0)) := by rw [← hW1]; exact heap_alloc_new _ _
  have P1 := h.below b1
  have K := Lib.hid (there_yes base r most v M i W1 P1 hi)
  obtain ⟨g, c, hv, six, _, _⟩ := P1.at_ hi
  have h2 := P1.bag
  obtain ⟨x, hx⟩ : ∃ x, M[i] = x := ⟨_, rfl⟩
  rw [hx] at six ⊢
  subst hv
  obtain ⟨fn, fl, tn, tl, A, q, xc, bad, hcs⟩ : ∃ (fn fl tn tl : Nat) (A : Option Addr) (q xc : Nat) (bad : Bool), x.cs = #[.int .u8 fn, .int .u16 fl, .int .u8 tn, .int .u16 tl, .slice A q xc, .bool bad] := ⟨_, _, _, _, _, _, _, _, rfl⟩
  rw [hcs] at six ⊢
  obtain ⟨c0, c1, c2, c3, c4, c5⟩ := six
  simp only [List.getElem?_toArray, List.getElem?_cons_zero, List.getElem?_cons_succ] at c0 c1 c2 c3 c4 c5
  obtain ⟨n, hn⟩ : ∃ n, M.length = n := ⟨_, rfl⟩
  rw [hn] at h2 hi
  have b0 := cell_of h2 0 (.slice (some ⟨g, 0, none⟩) n c) rfl
  have hi0 : (0 : Int) ≤ (i : Int) := by omega
  have hi1 : (i : Int) < (n : Int) := by omega
  have HW := Lib.hid hW1
  have B1 := Lib.hid b1
  have R1 := Lib.hid r1
  clear h hW1 b1 r1 hi P1 hx hcs hn h2
  go_enter Try.func26, Try.ntmps26
  go_wp2_with (rw [HW.out])
  refine K.out.mono ?_
  rintro e w' ⟨rfl, rfl⟩
  go_wp2_with (refine wpList_store_row rfl 36 (.tmp 4) (.tmp 17) rfl W.heap.size #[.int .u8 fn, .int .u16 fl, .int .u8 tn, .int .u16 tl, .slice A q xc, .bool bad] (by rfl) (by rfl) 36 #[.int .u8 0, .int .u16 0, .int .u8 0, .int .u16 0, .slice none 0 0, .bool false] R1.out (by kernel_rfl) rfl (by simp [Value.oneCell']) ?_)
  exact bodyPost_ret (v := .tuple #[.agg #[.int .u8 fn, .int .u16 fl, .int .u8 tn, .int .u16 tl, .slice A q xc, .bool bad], .int .i64 0]) (results_cell2_row (p := 4) (u := 5) (ty := 36) rfl _ _ W.heap.size 36 _ (0, 0) _ (by rfl) (setRow_heap _ _ _ _ _ _ R1.out) Try.underlying36 rfl (by kernel_rfl)) rfl ⟨rfl, below_row B1.out (Nat.le_refl _) _⟩

theorem wp_appD {w : World} {o : Oper} {a : Act} {K : Act → World → Prop} {Q : Exit → Act → World → Prop} (d : Tmp) (hd : o.dst = some d) (s xo : Operand)
    (ho : o.op = .call { callee := .builtin .append, args := #[s, xo], argTypes := #[40, 40] })
    (base : Nat) (v : Value) (n : Nat) (xs : List Value) (hs : a.eval s = v) (hown : w.ownsRow base 36 6 v n xs)
    (ad : Addr) (Y : List Lp) (m c : Nat) (hx : a.eval xo = .slice (some ad) m c) (hm : m = Y.length) (hr : ∀ j u, (cellsL Y)[j]? = some u → w.cell? (ad.add j) = some u)
    (hlen : n + Y.length ≤ 100000) (hbase : base ≤ w.heap.size)
    (h : ∀ v' w', w'.ownsRow base 36 6 v' (n + Y.length) (xs ++ cellsL Y) → w.grownBy w' v.ownBlock → K (a.put (some d) v') w') : o.wp Try.prog a w K Q := by
  subst hm
  rw [← hd] at h
  obtain ⟨i0, hi0, hz0, hz1, hz2⟩ := info_parts refI
  exact wp_append_own w s xo 40 ho base 36 i0 _ 6 40 Try.underlying40 hi0 hz0 hz1 hz2 rfl (by decide) v n xs hs hown ad Y.length c (cellsL Y) hx (cellsL_length Y) hr (cellsL_one Y)
    (by unfold maxLen; omega) (by omega) hbase fun v' w' h2 h3 _ => h v' w' h2 h3
theorem wpOp_appD {w : World} {ops : Array Oper} {o : Oper} {i : Nat} {a : Act} {K : Act → World → Prop} {Q : Exit → Act → World → Prop} (hi : ops[i]? = some o) (hgd : o.guard = none) (d : Tmp) (hd : o.dst = some d) (s xo : Operand)
    (ho : o.op = .call { callee := .builtin .append, args := #[s, xo], argTypes := #[40, 40] })
    (base : Nat) (v : Value) (n : Nat) (xs : List Value) (hs : a.eval s = v) (hown : w.ownsRow base 36 6 v n xs)
    (ad : Addr) (Y : List Lp) (m c : Nat) (hx : a.eval xo = .slice (some ad) m c) (hm : m = Y.length) (hr : ∀ j u, (cellsL Y)[j]? = some u → w.cell? (ad.add j) = some u)
    (hlen : n + Y.length ≤ 100000) (hbase : base ≤ w.heap.size)
    (h : ∀ v' w', w'.ownsRow base 36 6 v' (n + Y.length) (xs ++ cellsL Y) → w.grownBy w' v.ownBlock → K (a.put (some d) v') w') : wpOp Try.prog ops Q i K a w := by
  unfold wpOp
  simp only [hi]
  rw [if_pos (by simp [Region.wanted, hgd])]
  exact .inl (wp_appD d hd s xo ho base v n xs hs hown ad Y m c hx hm hr hlen hbase h)
theorem wpList_appD {w : World} {ops : Array Oper} {rest : List Oper} {o : Oper} {a : Act} {Q : Exit → Act → World → Prop} (hgd : o.guard = none) (d : Tmp) (hd : o.dst = some d) (s xo : Operand)
    (ho : o.op = .call { callee := .builtin .append, args := #[s, xo], argTypes := #[40, 40] })
    (base : Nat) (v : Value) (n : Nat) (xs : List Value) (hs : a.eval s = v) (hown : w.ownsRow base 36 6 v n xs)
    (ad : Addr) (Y : List Lp) (m c : Nat) (hx : a.eval xo = .slice (some ad) m c) (hm : m = Y.length) (hr : ∀ j u, (cellsL Y)[j]? = some u → w.cell? (ad.add j) = some u)
    (hlen : n + Y.length ≤ 100000) (hbase : base ≤ w.heap.size)
    (h : ∀ v' w', w'.ownsRow base 36 6 v' (n + Y.length) (xs ++ cellsL Y) → w.grownBy w' v.ownBlock → wpList Try.prog ops Q rest (a.put (some d) v') w') : wpList Try.prog ops Q (o :: rest) a w :=
  wpList_plain hgd fun K hK => wp_appD d hd s xo ho base v n xs hs hown ad Y m c hx hm hr hlen hbase fun v' w' h2 h3 => hK _ _ (h v' w' h2 h3)

end Go.Proofs.Yteaafpgkifmdeaa
