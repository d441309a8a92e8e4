/-
  The document's bag: Spoil: by exact answers. Condition: the bag lies in memory.
-/
import Derived.Test.YteaafpgkifmdeaaBdq
namespace Go.Proofs.Yteaafpgkifmdeaa
set_option linter.unusedSimpArgs false
set_option linter.unusedVariables false
open Go.RowKit Go.Sort

theorem wpList_store_in {P : Program} {ops : Array Oper} {rest : List Oper} {o : Oper} {a : Act} {w : World} {Q : Exit → Act → World → Prop} (hgd : o.guard = none) (ty : TypeId) (x y : Operand) (ho : o.op = .store ty x y)
    (g k : Nat) (cells : Array Value) (hx : a.eval x = .pointer (some ⟨g, k, none⟩)) (hy : a.eval y = .agg cells)
    (t : TypeId) (old : Array Value) (hg : w.heap[g]? = some (.cells old t (0, 0))) (hi : (P.info? ty).map (·.size) = some cells.size)
    (hold : k + cells.size ≤ old.size) (h1 : cells.all (·.oneCell') = true)
    (h : wpList P ops Q rest (a.put o.dst undef) (w.setRow g (old.toList.take k ++ cells.toList ++ old.toList.drop (k + cells.size)).toArray)) : wpList P ops Q (o :: rest) a w :=
  wpList_plain hgd fun _ hK => by
    have := run_storeCells_at P g k t cells.toList 0 old w hg (by simpa using hold) (fun v hv => (Array.all_eq_true_iff_forall_mem.1 h1) v (by simpa using hv))
    have hrun : (storeVar ty ⟨g, k, none⟩ (.agg cells)).run P w = .ok () (w.setRow g (old.toList.take k ++ cells.toList ++ old.toList.drop (k + cells.size)).toArray) := by
      cases hq : P.info? ty with
      | none => simp [hq] at hi
      | some i =>
        have hs : cells.size = i.size := by simp [hq] at hi; omega
        simp only [Nat.add_zero, Array.length_toList] at this
        have T := Lib.hid this
        clear this
        simp [storeVar, sizeOf, typeInfo, hq, Value.cells, hs]
        rw [T.out, hs, List.append_assoc]
    unfold Oper.wp execOp
    simp only [ho, hx, hy, Instr.storeAt, Instr.sureAddr, Sem.run_bind, Sem.run_pure, Result.andThen_ok, hrun]
    exact hK _ _ h
/-- a row one of whose parcels is laid anew. -/
theorem own_set {W : World} {base g n c i : Nat} {e : TypeId} {M : List Lp} {cur : Array Value} (y : Lp) (hb : base ≤ g) (hn : M.length = n) (hi : i < n) (hc : n ≤ c) (hm : c ≤ maxLen) (hg : W.heap[g]? = some (.cells cur e (0, 0))) (hs : cur.size = c * 6) (ht : cur.toList.take (n * 6) = cellsL M) :
    (W.setRow g (cur.toList.take (i * 6) ++ y.cs.toList ++ cur.toList.drop (i * 6 + 6)).toArray).ownsRow base e 6 (.slice (some ⟨g, 0, none⟩) n c) n (cellsL (M.set i y)) := by
  have hl : cur.toList.length = c * 6 := by simpa using hs
  have l6 : y.cs.toList.length = 6 := rfl
  refine ⟨by rw [cellsL_length, List.length_set, hn], .inr ⟨g, c, _, rfl, hb, setRow_heap _ _ _ _ _ _ hg, hc, hm, ?_, ?_⟩⟩
  · rw [List.size_toArray, List.length_append, List.length_append, List.length_take, List.length_drop, l6, hl]
    omega
  · have e1 : cellsL (M.set i y) = cellsL (M.take i) ++ (y.cs.toList ++ cellsL (M.drop (i + 1))) := by
      rw [List.set_eq_take_append_cons_drop, if_pos (by omega), cellsL_append]
      rfl
    have e2 : cur.toList.take (i * 6) = cellsL (M.take i) := by
      have h1 : cur.toList.take (i * 6) = (cur.toList.take (n * 6)).take (i * 6) := by rw [List.take_take, Nat.min_eq_left (by omega)]
      rw [h1, ht]
      have h2 : cellsL M = cellsL (M.take i) ++ cellsL (M.drop i) := by rw [← cellsL_append, List.take_append_drop]
      rw [h2, List.take_append_of_le_length (by rw [cellsL_length, List.length_take]; omega), List.take_of_length_le (by rw [cellsL_length, List.length_take]; omega)]
    have e3 : (cur.toList.drop (i * 6 + 6)).take ((n - (i + 1)) * 6) = cellsL (M.drop (i + 1)) := by
      have h1 : (cur.toList.drop (i * 6 + 6)).take ((n - (i + 1)) * 6) = (cur.toList.take (n * 6)).drop (i * 6 + 6) := by
        rw [List.drop_take]
        congr 1
        omega
      rw [h1, ht]
      have h2 : cellsL M = cellsL (M.take (i + 1)) ++ cellsL (M.drop (i + 1)) := by rw [← cellsL_append, List.take_append_drop]
      have h3 : (cellsL (M.take (i + 1))).length = i * 6 + 6 := by rw [cellsL_length, List.length_take]; omega
      rw [h2, List.drop_append_of_le_length (by omega), List.drop_of_length_le (by omega), List.nil_append]
    show ((cur.toList.take (i * 6) ++ y.cs.toList ++ cur.toList.drop (i * 6 + 6)).toArray.toList).take (n * 6) = _
    rw [e1, List.append_assoc, e2]
    have h4 : (cellsL (M.take i)).length = i * 6 := by rw [cellsL_length, List.length_take]; omega
    have t1 : (cellsL (M.take i)).take (n * 6) = cellsL (M.take i) := List.take_of_length_le (by omega)
    have t2 : y.cs.toList.take (n * 6 - i * 6) = y.cs.toList := List.take_of_length_le (by rw [l6]; omega)
    show (cellsL (M.take i) ++ (y.cs.toList ++ cur.toList.drop (i * 6 + 6))).take (n * 6) = _
    rw [List.take_append, h4, t1, List.take_append, l6, t2, show n * 6 - i * 6 - 6 = (n - (i + 1)) * 6 by omega, e3]

set_option maxRecDepth 100000 in
set_option maxHeartbeats 400000 in
theorem spoilD_no (base r most : Nat) (v : Value) (M : List Lp) (i a m : Int) (W : World) (h : DB base W r most v M) (hi : i < 0 ∨ (M.length : Int) ≤ i) :
    Calls Try.prog 29 #[.pointer (some ⟨r, 0, none⟩), .int .i64 i, .int .i64 a, .int .u32 m] W fun e W' => e = .returned (.int .i64 3) ∧ W = W' := by
  have K := Lib.hid (there_no base r most v M i W h hi)
  clear h hi
  go_enter Try.func29, Try.ntmps29
  go_wp2_with fail
  refine K.out.mono ?_
  rintro e w' ⟨rfl, rfl⟩
  go_wp2
  go_ret
  exact ⟨rfl, rfl⟩

set_option maxRecDepth 100000 in
set_option maxHeartbeats 1000000 in
theorem spoilD_err (base r most : Nat) (v : Value) (M : List Lp) (i m : Nat) (a : Int) (W : World) (h : DB base W r most v M) (hi : i < M.length) (h0 : -9223372036854775808 ≤ a) (h1 : a ≤ 9223372036854775807) (he : spErr M[i] a m ≠ 0) :
    Calls Try.prog 29 #[.pointer (some ⟨r, 0, none⟩), .int .i64 i, .int .i64 a, .int .u32 m] W fun e W' => e = .returned (.int .i64 (spErr M[i] a m)) ∧ Below W.heap.size W W' := by
  have K := Lib.hid (there_yes base r most v M i W h hi)
  obtain ⟨g, c, hv, six, hlc, hcm⟩ := h.at_ hi
  have okx := h.ok _ (List.getElem_mem hi)
  obtain ⟨x, hx⟩ : ∃ x, M[i] = x := ⟨_, rfl⟩
  rw [hx] at six okx he ⊢
  have h3 := h.bag
  obtain ⟨n, hn⟩ : ∃ n, M.length = n := ⟨_, rfl⟩
  rw [hv, hn] at h3
  have hi' : i < n := by omega
  obtain ⟨fn, fl, tn, tl, A, q, xc, bad, hcs, hxq, hxb, hxA, hxp⟩ : ∃ (fn fl tn tl : Nat) (A : Option Addr) (q xc : Nat) (bad : Bool), x.cs = #[.int .u8 fn, .int .u16 fl, .int .u8 tn, .int .u16 tl, .slice A q xc, .bool bad] ∧ x.p.B.length = q ∧ x.p.bad = bad ∧ x.A = A ∧ x.p = ⟨fn, fl, tn, tl, x.p.B, bad⟩ := ⟨_, _, _, _, _, _, _, _, rfl, rfl, rfl, rfl, rfl⟩
  rw [hcs] at six
  obtain ⟨d0, d1, d2, d3, d4, d5⟩ := six
  simp only [List.getElem?_toArray, List.getElem?_cons_zero, List.getElem?_cons_succ] at d0 d1 d2 d3 d4 d5
  have c1 := cell_of h3 0 (.slice (some ⟨g, 0, none⟩) n c) rfl
  have hi0 : (0 : Int) ≤ (i : Int) := by omega
  have hi1 : (i : Int) < (n : Int) := by omega
  obtain ⟨W1, hW1⟩ : ∃ X, W.alloc (.cells #[.int .u8 0, .int .u16 0, .int .u8 0, .int .u16 0, .slice none 0 0, .bool false] 36) = X := ⟨_, rfl⟩
  have r1 : W1.heap[W.heap.size]? = some (.cells #[.int .u8 0, .int .u16 0, .int .u8 0, .int .u16 0, .slice none 0 0, .bool false] 36 (0, 0)) := by rw [← hW1]; exact heap_alloc_new _ _
  have b1 : Below W.heap.size W W1 := by rw [← hW1]; exact (Below.refl _ _).alloc (Nat.le_refl _) _
  obtain ⟨W2, hW2⟩ : ∃ X, W1.setRow W.heap.size #[.int .u8 fn, .int .u16 fl, .int .u8 tn, .int .u16 tl, .slice A q xc, .bool bad] = X := ⟨_, rfl⟩
  have r2 : W2.heap[W.heap.size]? = some (.cells #[.int .u8 fn, .int .u16 fl, .int .u8 tn, .int .u16 tl, .slice A q xc, .bool bad] 36 (0, 0)) := by rw [← hW2]; exact setRow_heap _ _ _ _ _ _ r1
  have b2 : Below W.heap.size W W2 := by rw [← hW2]; exact below_row b1 (Nat.le_refl _) _
  have x4 := cell_of r2 4 (.slice A q xc) rfl
  have x5 := cell_of r2 5 (.bool bad) rfl
  have hql := okx.len
  rw [hxq] at hql
  have HW1 := Lib.hid hW1
  have HW2 := Lib.hid hW2
  have R1 := Lib.hid r1
  have B2 := Lib.hid b2
  unfold spErr at he ⊢
  rw [hxq, hxb] at he ⊢
  clear h hi hv hlc hcm okx hx h3 hn hi' hcs hxq hxb hxA hxp hW1 hW2 r1 b1 r2 b2
  cases bad with
  | true =>
    rw [if_pos rfl]
    clear he
    go_enter Try.func29, Try.ntmps29
    go_wp2_with fail
    refine K.out.mono ?_
    rintro e w' ⟨rfl, rfl⟩
    go_wp2_with (first
        | (rw [HW1.out])
        | (refine wpList_store_row rfl 36 (.tmp 9) (.tmp 23) rfl W.heap.size #[.int .u8 fn, .int .u16 fl, .int .u8 tn, .int .u16 tl, .slice A q xc, .bool true] (by rfl) (by rfl) 36 #[.int .u8 0, .int .u16 0, .int .u8 0, .int .u16 0, .slice none 0 0, .bool false] R1.out (by kernel_rfl) rfl (by simp [Value.oneCell']) ?_; rw [HW2.out]))
    go_ret
    exact ⟨rfl, B2.out⟩
  | false =>
    rw [if_neg (by simp)] at he ⊢
    by_cases hm : m = 0
    · subst hm
      rw [if_pos rfl]
      clear he
      go_enter Try.func29, Try.ntmps29
      go_wp2_with fail
      refine K.out.mono ?_
      rintro e w' ⟨rfl, rfl⟩
      go_wp2_with (first
          | (rw [HW1.out])
          | (refine wpList_store_row rfl 36 (.tmp 9) (.tmp 23) rfl W.heap.size #[.int .u8 fn, .int .u16 fl, .int .u8 tn, .int .u16 tl, .slice A q xc, .bool false] (by rfl) (by rfl) 36 #[.int .u8 0, .int .u16 0, .int .u8 0, .int .u16 0, .slice none 0 0, .bool false] R1.out (by kernel_rfl) rfl (by simp [Value.oneCell']) ?_; rw [HW2.out]))
      go_ret
      exact ⟨rfl, B2.out⟩
    · rw [if_neg hm] at he ⊢
      have hr : a < 0 ∨ (q : Int) - 4 < a := Decidable.byContradiction fun hh => he (if_neg hh)
      rw [if_pos hr]
      have hm2 : ((m : Int) == 0) = false := by simpa using hm
      have hm3 : ¬ (m : Int) = 0 := by omega
      clear he hm
      have HR := Lib.hid hr
      clear hr
      by_cases ha : a < 0
      · skip
        go_enter Try.func29, Try.ntmps29
        go_wp2_with fail
        refine K.out.mono ?_
        rintro e w' ⟨rfl, rfl⟩
        go_wp2_with (first
            | (rw [HW1.out])
            | (refine wpList_store_row rfl 36 (.tmp 9) (.tmp 23) rfl W.heap.size #[.int .u8 fn, .int .u16 fl, .int .u8 tn, .int .u16 tl, .slice A q xc, .bool false] (by rfl) (by rfl) 36 #[.int .u8 0, .int .u16 0, .int .u8 0, .int .u16 0, .slice none 0 0, .bool false] R1.out (by kernel_rfl) rfl (by simp [Value.oneCell']) ?_; rw [HW2.out]))
        go_ret
        exact ⟨rfl, B2.out⟩
      · have hb : (q : Int) - 4 < a := HR.out.resolve_left ha
        have hw : IntKind.i64.wrap ((q : Int) - 4) = (q : Int) - 4 := IntWalk.i64_in _ (by omega)
        go_enter Try.func29, Try.ntmps29
        go_wp2_with fail
        refine K.out.mono ?_
        rintro e w' ⟨rfl, rfl⟩
        go_wp2_with (first
            | (rw [HW1.out])
            | (refine wpList_store_row rfl 36 (.tmp 9) (.tmp 23) rfl W.heap.size #[.int .u8 fn, .int .u16 fl, .int .u8 tn, .int .u16 tl, .slice A q xc, .bool false] (by rfl) (by rfl) 36 #[.int .u8 0, .int .u16 0, .int .u8 0, .int .u16 0, .slice none 0 0, .bool false] R1.out (by kernel_rfl) rfl (by simp [Value.oneCell']) ?_; rw [HW2.out]))
        go_ret
        exact ⟨rfl, B2.out⟩

set_option maxRecDepth 100000 in
set_option maxHeartbeats 8000000 in
theorem spoilD_ok (base r most : Nat) (v : Value) (M : List Lp) (i m a : Nat) (W : World) (h : DB base W r most v M) (hi : i < M.length) (hm : m < 4294967296) (he : spErr M[i] a m = 0) :
    Calls Try.prog 29 #[.pointer (some ⟨r, 0, none⟩), .int .i64 i, .int .i64 a, .int .u32 m] W fun e W' => e = .returned (.int .i64 0) ∧ ∃ y v', y.p = (M[i].spoil a m).p ∧ y.Ok W' W.heap.size ∧ DB base W' r most v' (M.set i y) ∧ KP (fun k => k = r) W W' := by
  have K := Lib.hid (there_yes base r most v M i W h hi)
  obtain ⟨g, c, hv, six, hlc, hcm⟩ := h.at_ hi
  have okx := h.ok _ (List.getElem_mem hi)
  obtain ⟨x, hx⟩ : ∃ x, M[i] = x := ⟨_, rfl⟩
  rw [hx] at six okx he ⊢
  have h3 := h.bag
  obtain ⟨n, hn⟩ : ∃ n, M.length = n := ⟨_, rfl⟩
  rw [hv, hn] at h3
  have hi' : i < n := by omega
  obtain ⟨fn, fl, tn, tl, A, q, xc, bad, hcs, hxq, hxb, hxA, hxp⟩ : ∃ (fn fl tn tl : Nat) (A : Option Addr) (q xc : Nat) (bad : Bool), x.cs = #[.int .u8 fn, .int .u16 fl, .int .u8 tn, .int .u16 tl, .slice A q xc, .bool bad] ∧ x.p.B.length = q ∧ x.p.bad = bad ∧ x.A = A ∧ x.p = ⟨fn, fl, tn, tl, x.p.B, bad⟩ := ⟨_, _, _, _, _, _, _, _, rfl, rfl, rfl, rfl, rfl⟩
  rw [hcs] at six
  obtain ⟨d0, d1, d2, d3, d4, d5⟩ := six
  simp only [List.getElem?_toArray, List.getElem?_cons_zero, List.getElem?_cons_succ] at d0 d1 d2 d3 d4 d5
  have c1 := cell_of h3 0 (.slice (some ⟨g, 0, none⟩) n c) rfl
  have hi0 : (0 : Int) ≤ (i : Int) := by omega
  have hi1 : (i : Int) < (n : Int) := by omega
  obtain ⟨W1, hW1⟩ : ∃ X, W.alloc (.cells #[.int .u8 0, .int .u16 0, .int .u8 0, .int .u16 0, .slice none 0 0, .bool false] 36) = X := ⟨_, rfl⟩
  have r1 : W1.heap[W.heap.size]? = some (.cells #[.int .u8 0, .int .u16 0, .int .u8 0, .int .u16 0, .slice none 0 0, .bool false] 36 (0, 0)) := by rw [← hW1]; exact heap_alloc_new _ _
  have b1 : Below W.heap.size W W1 := by rw [← hW1]; exact (Below.refl _ _).alloc (Nat.le_refl _) _
  obtain ⟨W2, hW2⟩ : ∃ X, W1.setRow W.heap.size #[.int .u8 fn, .int .u16 fl, .int .u8 tn, .int .u16 tl, .slice A q xc, .bool bad] = X := ⟨_, rfl⟩
  have r2 : W2.heap[W.heap.size]? = some (.cells #[.int .u8 fn, .int .u16 fl, .int .u8 tn, .int .u16 tl, .slice A q xc, .bool bad] 36 (0, 0)) := by rw [← hW2]; exact setRow_heap _ _ _ _ _ _ r1
  have b2 : Below W.heap.size W W2 := by rw [← hW2]; exact below_row b1 (Nat.le_refl _) _
  have x4 := cell_of r2 4 (.slice A q xc) rfl
  have x5 := cell_of r2 5 (.bool bad) rfl
  have hql := okx.len
  rw [hxq] at hql
  obtain ⟨hbad, hm0, ha0⟩ : bad = false ∧ m ≠ 0 ∧ a + 4 ≤ q := by
    unfold spErr at he
    rw [hxq, hxb] at he
    split at he
    · omega
    · rename_i h1
      split at he
      · omega
      · rename_i h2
        split at he
        · omega
        · rename_i h3
          refine ⟨by simpa using h1, h2, by omega⟩
  subst hbad
  have hm2 : ((m : Int) == 0) = false := by simpa using hm0
  have hm3 : ¬ (m : Int) = 0 := by omega
  have hw : IntKind.i64.wrap ((q : Int) - 4) = (q : Int) - 4 := IntWalk.i64_in _ (by omega)
  have ha2 : ¬ (a : Int) < 0 := by omega
  have ha3 : ¬ (q : Int) - 4 < (a : Int) := by omega
  have o3 : (W2.alloc (.cells #[] 5)).ownsRow W2.heap.size 5 1 (.slice (some ⟨W2.heap.size, 0, none⟩) 0 0) 0 [] := ⟨rfl, .inr ⟨W2.heap.size, 0, #[], rfl, Nat.le_refl _, heap_alloc_new _ _, Nat.le_refl _, by unfold maxLen; omega, rfl, rfl⟩⟩
  obtain ⟨W3, hW3⟩ : ∃ X, W2.alloc (.cells #[] 5) = X := ⟨_, rfl⟩
  rw [hW3] at o3
  have b3 : Below W2.heap.size W2 W3 := by rw [← hW3]; exact (Below.refl _ _).alloc (Nat.le_refl _) _
  have HW1 := Lib.hid hW1
  have HW2 := Lib.hid hW2
  have HW3 := Lib.hid hW3
  have R1 := Lib.hid r1
  have R2 := Lib.hid r2
  have B2 := Lib.hid b2
  have B3 := Lib.hid b3
  have O3 := Lib.hid o3
  have HP := Lib.hid h
  have HV := Lib.hid hv
  have HN := Lib.hid hn
  have HXI : Hid (M[i]? = some x) := Lib.hid (by rw [← hx]; exact List.getElem?_eq_getElem hi)
  have OKX := Lib.hid okx
  have HCS := Lib.hid hcs
  have HXQ := Lib.hid hxq
  have HXP := Lib.hid hxp
  have HXA := Lib.hid hxA
  have HI := Lib.hid hi'
  have HA0 := Lib.hid ha0
  have HQL := Lib.hid hql
  have HM := Lib.hid hm
  have HLC := Lib.hid hlc
  have HCM := Lib.hid hcm
  have XAT : Hid (BytesAt W3 W3.heap.size A x.p.B) := Lib.hid (by
    have h1 := okx.own.at_
    rw [hxA] at h1
    exact (h1.below b2 (Nat.le_refl _) b2.size).below b3 (Nat.le_refl _) b3.size)
  have XNN : Hid (A = none → q = 0 ∧ xc = 0) := Lib.hid (by
    intro h1
    have h2 := okx.nn (hxA.trans h1)
    omega)
  have e4 : W3.cell? ⟨W.heap.size, 4, none⟩ = some (.slice A q xc) := (b3.cell (p := ⟨W.heap.size, 4, none⟩) (Array.getElem?_eq_some_iff.1 r2).1).trans x4
  clear h hi hv hlc hcm okx hx h3 hn hi' hcs hxq hxb hxA hxp hW1 hW2 hW3 r1 b1 r2 b2 b3 o3 he hm0 hm
  go_enter Try.func29, Try.ntmps29
  go_wp2_with fail
  refine K.out.mono ?_
  rintro e w' ⟨rfl, rfl⟩
  clear K
  go_wp2_with (first
    | (rw [HW1.out])
    | (refine wpList_store_row rfl 36 (.tmp 9) (.tmp 23) rfl W.heap.size #[.int .u8 fn, .int .u16 fl, .int .u8 tn, .int .u16 tl, .slice A q xc, .bool false] (by rfl) (by rfl) 36 #[.int .u8 0, .int .u16 0, .int .u8 0, .int .u16 0, .slice none 0 0, .bool false] R1.out (by kernel_rfl) rfl (by simp [Value.oneCell']) ?_; rw [HW2.out])
    | (rw [HW3.out])
    | (refine wpList_appB rfl 41 rfl (.tmp 38) (.tmp 40) rfl W2.heap.size _ 0 [] rfl O3.out A x.p.B q xc W3.heap.size rfl HXQ.out.symm XNN.out XAT.out (by rw [HXQ.out]; have := HQL.out; omega) B3.out.size ?_
       intro v4 W4 O4 g4))
  have hg4 : W3.grownBy W4 (some W2.heap.size) := g4
  have b4 : Below W2.heap.size W3 W4 := (Below.refl _ _).grown hg4 B3.out.size (fun k hk => by cases hk; exact Nat.le_refl _)
  rw [Nat.zero_add, List.nil_append] at O4
  have NL4 := nil_of_own O4
  obtain ⟨A4, c4, rfl, hn4, own4, le4, mx4⟩ := bytes_of_own O4
  have hne : x.p.B ≠ [] := fun e => by
    have h1 := HXQ.out
    rw [e] at h1
    have h2 := HA0.out
    have h3 : (0 : Nat) = q := h1
    omega
  obtain ⟨gb, cur, hA, hgb, hcur, htk⟩ := own4 hne
  rw [HXQ.out] at htk
  rw [HXQ.out, hA]
  have B4 := Lib.hid (B3.out.trans b4)
  have HCUR := Lib.hid hcur
  have HTK := Lib.hid htk
  have HGB := Lib.hid hgb
  have LE4 := Lib.hid le4
  have MX4 := Lib.hid mx4
  have HA4 := Lib.hid hA
  have HNE := Lib.hid hne
  have qc : (q : Int) ≤ (c4 : Int) := by have := HXQ.out; omega
  clear hg4 b4 g4 O4 NL4 hn4 own4 le4 mx4 hA hgb hcur htk hne e4 x4 x5 d0 d1 d2 d3 d4 d5 c1 hw ha2 ha3 hm2 hm3 hi0 hi1
  go_wp2_with fail
  go_loopw [11] (fun z wx => ∃ k : Nat, z = .int .i64 k ∧ k ≤ 4 ∧ Hid (∃ cur, wx.heap[gb]? = some (.cells cur 5 (0, 0)) ∧ cur.toList.take q = Lib.byteCells (xorAt x.p.B a (maskB m) k)) ∧ Hid (KP (fun k => k = gb) W4 wx)) (fun z _ => 4 - (intOf z).toNat)
  case atStart => exact ⟨0, rfl, by omega, Lib.hid ⟨cur, HCUR.out, HTK.out⟩, Lib.hid (KP.refl _ _)⟩
  case round =>
    obtain ⟨k, rfl, hk, I, KK⟩ := hrel
    rcases (show k = 0 ∨ k = 1 ∨ k = 2 ∨ k = 3 ∨ k = 4 by omega) with rfl | rfl | rfl | rfl | rfl
    · obtain ⟨z0, z, hcell, hxo, hst⟩ := spoil_step x.p.B a m 0 q wr gb HXQ.out (by omega) HA0.out HM.out I.out
      simp only [Nat.add_zero] at hcell hst
      have hfrz : wr.frozen? ⟨gb, a, none⟩ = false := frz_row _ I.out.choose_spec.1
      have hb0 : (0 : Int) ≤ (a : Int) := by omega
      have hb1 : (a : Int) < (q : Int) := by have := HA0.out; omega
      have hnk : ((a : Int)).toNat = a := by omega
      have hwk : IntKind.i64.wrap ((a : Int)) = (a : Int) := IntWalk.i64_in _ (by have := HA0.out; have := HQL.out; omega)
      have ST := Lib.hid hst
      clear hst
      have hxo' : bits BinOp.xor IntKind.u8 (z0 : Int) ((m : Int) % 256) = ((z : Nat) : Int) := by
        rw [← hxo]
        congr 1
        unfold maskB
        rw [toNat_of (by have := HM.out; omega)]
        have := HM.out
        omega
      have hm0 : (0 : Int) ≤ (m : Int) := by omega
      have hm1 : (m : Int) < 4294967296 := by have := HM.out; omega
      clear hxo
      go_wp2_with fail
      go_roundw
      case rel => exact ⟨1, by rfl, by omega, ST, Lib.hid (KK.out.trans (KP.set (S := fun k => k = gb) wr gb _ _ rfl) fun _ _ h => h)⟩
      case measure => simp [intOf]
    · obtain ⟨z0, z, hcell, hxo, hst⟩ := spoil_step x.p.B a m 1 q wr gb HXQ.out (by omega) HA0.out HM.out I.out
      skip
      have hfrz : wr.frozen? ⟨gb, a + 1, none⟩ = false := frz_row _ I.out.choose_spec.1
      have hb0 : (0 : Int) ≤ (a : Int) + 1 := by omega
      have hb1 : (a : Int) + 1 < (q : Int) := by have := HA0.out; omega
      have hnk : ((a : Int) + 1).toNat = a + 1 := by omega
      have hwk : IntKind.i64.wrap ((a : Int) + 1) = (a : Int) + 1 := IntWalk.i64_in _ (by have := HA0.out; have := HQL.out; omega)
      have ST := Lib.hid hst
      clear hst
      have hxo' : bits BinOp.xor IntKind.u8 (z0 : Int) ((m : Int) / 256 % 256) = ((z : Nat) : Int) := by
        rw [← hxo]
        congr 1
        unfold maskB
        rw [toNat_of (by have := HM.out; omega)]
        have := HM.out
        omega
      have hm0 : (0 : Int) ≤ (m : Int) := by omega
      have hm1 : (m : Int) < 4294967296 := by have := HM.out; omega
      clear hxo
      go_wp2_with fail
      go_roundw
      case rel => exact ⟨2, by rfl, by omega, ST, Lib.hid (KK.out.trans (KP.set (S := fun k => k = gb) wr gb _ _ rfl) fun _ _ h => h)⟩
      case measure => simp [intOf]
    · obtain ⟨z0, z, hcell, hxo, hst⟩ := spoil_step x.p.B a m 2 q wr gb HXQ.out (by omega) HA0.out HM.out I.out
      skip
      have hfrz : wr.frozen? ⟨gb, a + 2, none⟩ = false := frz_row _ I.out.choose_spec.1
      have hb0 : (0 : Int) ≤ (a : Int) + 2 := by omega
      have hb1 : (a : Int) + 2 < (q : Int) := by have := HA0.out; omega
      have hnk : ((a : Int) + 2).toNat = a + 2 := by omega
      have hwk : IntKind.i64.wrap ((a : Int) + 2) = (a : Int) + 2 := IntWalk.i64_in _ (by have := HA0.out; have := HQL.out; omega)
      have ST := Lib.hid hst
      clear hst
      have hxo' : bits BinOp.xor IntKind.u8 (z0 : Int) ((m : Int) / 65536 % 256) = ((z : Nat) : Int) := by
        rw [← hxo]
        congr 1
        unfold maskB
        rw [toNat_of (by have := HM.out; omega)]
        have := HM.out
        omega
      have hm0 : (0 : Int) ≤ (m : Int) := by omega
      have hm1 : (m : Int) < 4294967296 := by have := HM.out; omega
      clear hxo
      go_wp2_with fail
      go_roundw
      case rel => exact ⟨3, by rfl, by omega, ST, Lib.hid (KK.out.trans (KP.set (S := fun k => k = gb) wr gb _ _ rfl) fun _ _ h => h)⟩
      case measure => simp [intOf]
    · obtain ⟨z0, z, hcell, hxo, hst⟩ := spoil_step x.p.B a m 3 q wr gb HXQ.out (by omega) HA0.out HM.out I.out
      skip
      have hfrz : wr.frozen? ⟨gb, a + 3, none⟩ = false := frz_row _ I.out.choose_spec.1
      have hb0 : (0 : Int) ≤ (a : Int) + 3 := by omega
      have hb1 : (a : Int) + 3 < (q : Int) := by have := HA0.out; omega
      have hnk : ((a : Int) + 3).toNat = a + 3 := by omega
      have hwk : IntKind.i64.wrap ((a : Int) + 3) = (a : Int) + 3 := IntWalk.i64_in _ (by have := HA0.out; have := HQL.out; omega)
      have ST := Lib.hid hst
      clear hst
      have hxo' : bits BinOp.xor IntKind.u8 (z0 : Int) ((m : Int) / 16777216) = ((z : Nat) : Int) := by
        rw [← hxo]
        congr 1
        unfold maskB
        rw [toNat_of (by have := HM.out; omega)]
        have := HM.out
        omega
      have hm0 : (0 : Int) ≤ (m : Int) := by omega
      have hm1 : (m : Int) < 4294967296 := by have := HM.out; omega
      clear hxo
      go_wp2_with fail
      go_roundw
      case rel => exact ⟨4, by rfl, by omega, ST, Lib.hid (KK.out.trans (KP.set (S := fun k => k = gb) wr gb _ _ rfl) fun _ _ h => h)⟩
      case measure => simp [intOf]
    · have b5 : Below W2.heap.size W2 wr := B4.out.trans (KK.out.below (Nat.le_trans (Nat.le_refl _) B4.out.size) (fun k hk => by have h1 : k = gb := hk; rw [h1]; exact HGB.out))
      have P5 := (HP.out.below B2.out).below b5
      have l5 := P5.bag
      rw [HV.out, HN.out] at l5
      have row5 := P5.row
      rw [HV.out, HN.out] at row5
      have w05 : W.heap.size < wr.heap.size := Nat.lt_of_lt_of_le (Array.getElem?_eq_some_iff.1 R2.out).1 b5.size
      have p5 : wr.heap[W.heap.size]? = some (.cells #[.int .u8 fn, .int .u16 fl, .int .u8 tn, .int .u16 tl, .slice A q xc, .bool false] 36 (0, 0)) := (b5.block _ (Array.getElem?_eq_some_iff.1 R2.out).1).trans R2.out
      obtain ⟨cur5, hc5, ht5⟩ := I.out
      have o6 : (wr.alloc (.cells #[] 36)).ownsRow wr.heap.size 36 6 (.slice (some ⟨wr.heap.size, 0, none⟩) 0 0) 0 [] := ⟨rfl, .inr ⟨wr.heap.size, 0, #[], rfl, Nat.le_refl _, heap_alloc_new _ _, Nat.le_refl _, by unfold maxLen; omega, rfl, rfl⟩⟩
      obtain ⟨W6, hW6⟩ : ∃ X, wr.alloc (.cells #[] 36) = X := ⟨_, rfl⟩
      rw [hW6] at o6
      have b6 : Below wr.heap.size wr W6 := by rw [← hW6]; exact (Below.refl _ _).alloc (Nat.le_refl _) _
      have e1 := cell_of ((b6.block _ (Array.getElem?_eq_some_iff.1 l5).1).trans l5) 0 (.slice (some ⟨g, 0, none⟩) n c) rfl
      have HW6 := Lib.hid hW6
      have O6 := Lib.hid o6
      have B5 := Lib.hid b5
      have B6 := Lib.hid b6
      have L5 := Lib.hid l5
      have ROW6 := Lib.hid (own_kept' row5 b6)
      have W05 := Lib.hid w05
      have PB5 := Lib.hid p5
      have HC5 := Lib.hid hc5
      have HT5 := Lib.hid ht5
      have P5' := Lib.hid P5
      clear b5 P5 l5 row5 w05 p5 hc5 ht5 o6 b6 hW6 hk
      go_wp2_with (first
        | (rw [HW6.out])
        | (refine wpList_appD rfl 69 rfl (.tmp 64) (.tmp 68) rfl wr.heap.size _ 0 [] rfl O6.out ⟨g, 0, none⟩ M n c rfl HN.out.symm (fun j u hu => ROW6.out.cells (g := g) rfl j u hu) (by rw [HN.out]; have := P5'.out.few; have := P5'.out.most; rw [HN.out] at *; omega) B6.out.size ?_
           intro v7 W7 O7 g7
           have hg7 : W6.grownBy W7 (some wr.heap.size) := g7
           have b7 : Below wr.heap.size wr W7 := B6.out.grown hg7 B6.out.size (fun k hk => by cases hk; exact Nat.le_refl _)
           have O7' : W7.ownsRow wr.heap.size 36 6 v7 n (cellsL M) := by
             have h1 := O7
             rw [Nat.zero_add, HN.out, List.nil_append] at h1
             exact h1
           obtain ⟨gl, cap7, rfl⟩ := Joins.ownsRow_form O7' (by have := HI.out; omega)
           have hrow7 : ∃ cur, W7.heap[gl]? = some (.cells cur 36 (0, 0)) ∧ n ≤ cap7 ∧ cap7 ≤ maxLen ∧ cur.size = cap7 * 6 ∧ cur.toList.take (n * 6) = cellsL M ∧ wr.heap.size ≤ gl := by
             rcases O7'.2 with ⟨e, _⟩ | ⟨g', cap, cur, e, h0, h1, h2, h3, h4, h5⟩
             · cases e
             · cases e
               exact ⟨cur, h1, h2, h3, h4, h5, h0⟩
           obtain ⟨cur7, k1, k2, k3, k4, k5, k6⟩ := hrow7
           have p7 := (b7.block _ W05.out).trans PB5.out
           have l7 := (b7.block _ (Array.getElem?_eq_some_iff.1 L5.out).1).trans L5.out
           have y0 := cell_of p7 0 (.int .u8 fn) rfl
           have y1 := cell_of p7 1 (.int .u16 fl) rfl
           have y2 := cell_of p7 2 (.int .u8 tn) rfl
           have y3 := cell_of p7 3 (.int .u16 tl) rfl
           have ii0 : (0 : Int) ≤ (i : Int) := by omega
           have ii1 : (i : Int) < (n : Int) := by have := HI.out; omega
           have K1 := Lib.hid k1
           have K2 := Lib.hid k2
           have K3 := Lib.hid k3
           have K4 := Lib.hid k4
           have K5 := Lib.hid k5
           have K6 := Lib.hid k6
           have B7 := Lib.hid b7
           have L7 := Lib.hid l7
           clear O7 g7 hg7 b7 O7' k1 k2 k3 k4 k5 k6 p7 l7 e1)
        | (refine wpList_store_in rfl 36 (.tmp 78) (.tmp 77) rfl gl (i * 6) #[.int .u8 fn, .int .u16 fl, .int .u8 tn, .int .u16 tl, .slice (some ⟨gb, 0, none⟩) q c4, .bool true] (by rfl) (by rfl) 36 cur7 K1.out (by kernel_rfl) (by rw [K4.out]; have := HI.out; have := K2.out; show i * 6 + 6 ≤ _; omega) (by simp [Value.oneCell']) ?_
           obtain ⟨cs8, hcs8⟩ : ∃ cs, (cur7.toList.take (i * 6) ++ (#[.int .u8 fn, .int .u16 fl, .int .u8 tn, .int .u16 tl, .slice (some ⟨gb, 0, none⟩) q c4, .bool true] : Array Value).toList ++ cur7.toList.drop (i * 6 + (#[.int .u8 fn, .int .u16 fl, .int .u8 tn, .int .u16 tl, .slice (some ⟨gb, 0, none⟩) q c4, .bool true] : Array Value).size)).toArray = cs := ⟨_, rfl⟩
           rw [hcs8]
           have ne8 : r ≠ gl := fun e => by have h1 := (Array.getElem?_eq_some_iff.1 L5.out).1; have h2 := K6.out; omega
           have l8 := setRow_at L7.out ne8 cs8
           have f1 := cell_of l8 0 (.slice (some ⟨g, 0, none⟩) n c) rfl
           have f2 := frz_row 0 l8
           have L8 := Lib.hid l8
           have HCS8 := Lib.hid hcs8
           have NE8 := Lib.hid ne8
           clear l8 y0 y1 y2 y3 hcs8 ne8))
      go_ret
      have hlen := xorAt_length x.p.B a (maskB m) 4
      rw [HXQ.out] at hlen
      obtain ⟨y, hy⟩ : ∃ y, (Lp.mk ⟨fn, fl, tn, tl, xorAt x.p.B a (maskB m) 4, true⟩ (some ⟨gb, 0, none⟩) c4) = y := ⟨_, rfl⟩
      have ycs : y.cs = #[.int .u8 fn, .int .u16 fl, .int .u8 tn, .int .u16 tl, .slice (some ⟨gb, 0, none⟩) q c4, .bool true] := by
        rw [← hy]
        unfold Lp.cs
        simp only [hlen]
      have yp : y.p = (x.spoil a m).p := by
        have h := HXP.out
        have e1 := congrArg Pc.fn h
        have e2 := congrArg Pc.fl h
        have e3 := congrArg Pc.tn h
        have e4 := congrArg Pc.tl h
        rw [← hy]
        unfold Lp.spoil
        simp only at e1 e2 e3 e4 ⊢
        rw [e1, e2, e3, e4]
      have e8 : (cur7.toList.take (i * 6) ++ y.cs.toList ++ cur7.toList.drop (i * 6 + 6)).toArray = cs8 := by
        rw [← HCS8.out, ycs]
        rfl
      have rw0 := (Array.getElem?_eq_some_iff.1 HP.out.bag).1
      have s2 := B2.out.size
      have s5 := B5.out.size
      have gb1 := (Array.getElem?_eq_some_iff.1 HC5.out).1
      have gb2 := HGB.out
      have gl1 := K6.out
      have hbase := HP.out.hr
      obtain ⟨WF, hWF⟩ : ∃ X, (W7.setRow gl cs8).setCell ⟨r, 0, none⟩ (.slice (some ⟨gl, 0, none⟩) n cap7) = X := ⟨_, rfl⟩
      have far : ∀ (k : Nat) (o : Obj), W.heap[k]? = some o → k ≠ r → WF.heap[k]? = some o := fun k o h1 h2 => by
        have hk := (Array.getElem?_eq_some_iff.1 h1).1
        rw [← hWF]
        exact other_set (setRow_at ((B7.out.block k (by omega)).trans ((B5.out.block k (by omega)).trans ((B2.out.block k hk).trans h1))) (by omega) _) h2 _
      have ok7 : ∀ (z : Lp), z.Ok W base → z.Ok WF base := fun z hz => hz.keep fun k cur _ _ _ hk => far k _ hk (apart_of hk HP.out.bag (by decide))
      have gbF : WF.heap[gb]? = some (.cells cur5 5 (0, 0)) := by
        rw [← hWF]
        exact other_set (setRow_at ((B7.out.block gb gb1).trans HC5.out) (by omega) _) (by omega) _
      have yok : y.Ok WF W.heap.size := by
        rw [← hy]
        refine ⟨fun _ => ⟨gb, cur5, rfl, by omega, gbF, ?_⟩, ?_, MX4.out, (fun h => by cases h), ?_⟩
        · show cur5.toList.take (xorAt x.p.B a (maskB m) 4).length = _
          rw [hlen]
          exact HT5.out
        · show (xorAt x.p.B a (maskB m) 4).length ≤ c4
          have h1 := LE4.out
          rw [HXQ.out] at h1
          omega
        · show (xorAt x.p.B a (maskB m) 4).length ≤ _
          have h1 := HQL.out
          omega
      rw [hWF]
      refine ⟨rfl, y, yp, yok, ⟨.slice (some ⟨gl, 0, none⟩) n cap7, ⟨hbase, ?_, ?_, fun z hz => ?_, ?_, HP.out.most⟩⟩, ?_⟩
      · rw [← hWF]
        exact (row_set L8.out _).trans rfl
      · have h1 := own_set y (base := base) (by omega) HN.out HI.out K2.out K3.out K1.out K4.out K5.out
        rw [e8] at h1
        rw [List.length_set, HN.out, ← hWF]
        exact h1.kept (row := some r) ⟨rfl, rfl, rfl, by simp [World.setCell], fun k _ hk => Below.heap_setCell _ _ _ _ (by simpa using hk)⟩ (.inr fun e => by have e' : gl = r := (by simpa [Value.ownBlock] using e); omega)
      · rcases List.mem_or_eq_of_mem_set hz with h | h
        · exact ok7 z (HP.out.ok z h)
        · rw [h]
          exact yok.lower (by omega)
      · rw [List.length_set]
        exact HP.out.few
      · rw [← hWF]
        have k1 : KP (fun k => k = r) W W7 := ((KP.of_below B2.out).trans (KP.of_below (B5.out)) fun _ _ h => h).trans (KP.of_below B7.out) fun _ _ h => h
        have k2 := k1.trans (KP.setRow (S := fun k => k = gl) W7 gl cs8 rfl) fun k h1 h2 => absurd (show k = gl from h2) (by omega)
        exact k2.trans (KP.set (S := fun k => k = r) _ r 0 _ rfl) fun k _ hk => hk

end Go.Proofs.Yteaafpgkifmdeaa
