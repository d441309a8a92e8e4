/-
  slices.Delete of one parcel: by an exact answer. Condition: the row is the caller's own.
-/
import Derived.Test.YteaafpgkifmdeaaBpu
namespace Go.Proofs.Yteaafpgkifmdeaa
set_option linter.unusedSimpArgs false
set_option linter.unusedVariables false
open Go.RowKit Go.Sort

theorem setCells_row {g : Nat} {t : TypeId} {fr : Nat × Nat} : ∀ (vs : List Value) (o : Nat) (W : World) (cur : Array Value), W.heap[g]? = some (.cells cur t fr) → ∃ cur', (W.setCells g o vs).heap[g]? = some (.cells cur' t fr) ∧ cur'.size = cur.size ∧ ∀ j, j < o → cur'[j]? = cur[j]?
  | [], _, _, cur, h => ⟨cur, h, rfl, fun _ _ => rfl⟩
  | v :: vs, o, W, cur, h => by
    obtain ⟨cur', h1, h2, h3⟩ := setCells_row vs (o + 1) (W.setCell ⟨g, o, none⟩ v) _ (row_set (i := o) h v)
    refine ⟨cur', h1, by rw [h2]; simp, fun j hj => ?_⟩
    rw [h3 j (by omega), Array.getElem?_setIfInBounds_ne (by omega)]
theorem KP.setCells {S : Nat → Prop} {g : Nat} (hg : S g) : ∀ (vs : List Value) (o : Nat) (W : World), KP S W (W.setCells g o vs)
  | [], _, W => KP.refl S W
  | v :: vs, o, W => (KP.set W g o v hg).trans (KP.setCells hg vs (o + 1) (W.setCell ⟨g, o, none⟩ v)) fun _ _ h => h

theorem clearP (W : World) (ty : TypeId) (g a c : Nat) (hc : ∀ j, j < 6 → (W.cell? ⟨g, a + j, none⟩).isSome = true) (hf : ∀ j, W.frozen? ⟨g, j, none⟩ = false) :
    (Builtin.clear_ #[60] ty #[.slice (some ⟨g, a, none⟩) 1 c]).run Try.prog W = .ok (.tuple #[]) (W.setCells g a [.int .u8 0, .int .u16 0, .int .u8 0, .int .u16 0, .slice none 0 0, .bool false]) := by
  have hv : ∀ w, (zeroValue 45).run Try.prog w = .ok (.agg #[.int .u8 0, .int .u16 0, .int .u8 0, .int .u16 0, .slice none 0 0, .bool false]) w := fun w => by kernel_rfl
  have hz : (Builtin.zeroCells #[.int .u8 0, .int .u16 0, .int .u8 0, .int .u16 0, .slice none 0 0, .bool false] 1).toList = [.int .u8 0, .int .u16 0, .int .u8 0, .int .u16 0, .slice none 0 0, .bool false] := by kernel_rfl
  have hst := run_storeCells_cells (P := Try.prog) g a [.int .u8 0, .int .u16 0, .int .u8 0, .int .u16 0, .slice none 0 0, .bool false] 0 W (by simpa using hc) (by intro j _; exact hf _) (by simp [Value.oneCell'])
  simp only [Nat.add_zero] at hst
  have HST := Lib.hid hst
  clear hst
  simp [Builtin.clear_, run_underlying Try.underlying60, hv, Value.cells, hz]
  rw [HST.out]
  rfl

/-- an append for which there is room. -/
theorem wpList_room {w : World} {ops : Array Oper} {rest : List Oper} {o : Oper} {a : Act} {Q : Exit → Act → World → Prop} (hgd : o.guard = none) (d : Tmp) (hd : o.dst = some d) (s xo : Operand)
    (ho : o.op = .call { callee := .builtin .append, args := #[s, xo], argTypes := #[60, 60] })
    (g i c : Nat) (cur : Array Value) (hs : a.eval s = .slice (some ⟨g, 0, none⟩) i c) (hg : w.heap[g]? = some (.cells cur 45 (0, 0)))
    (ad : Addr) (m cc : Nat) (hx : a.eval xo = .slice (some ad) m cc) (news : List Value) (hl : news.length = m * 6) (hnews : ∀ j u, news[j]? = some u → w.cell? (ad.add j) = some u) (h1 : ∀ u ∈ news, u.oneCell' = true)
    (hroom : i + m ≤ c) (hfit : i * 6 + news.length ≤ cur.size)
    (h : wpList Try.prog ops Q rest (a.put (some d) (.slice (some ⟨g, 0, none⟩) (i + m) c)) (w.setRow g (cur.toList.take (i * 6) ++ news ++ cur.toList.drop (i * 6 + news.length)).toArray)) : wpList Try.prog ops Q (o :: rest) a w := by
  rw [← hd] at h
  obtain ⟨i0, hi0, hz0, hz1, hz2⟩ := info_parts bagI
  have hrun := run_append_room (P := Try.prog) w 60 o.type 45 i0 Try.underlying60 hi0 g i c cur hg ad m cc news (by rw [hz1]; exact hl) hnews h1 hroom (by rw [hz1]; exact hfit)
  rw [hz1] at hrun
  obtain ⟨W1, hW1⟩ : ∃ X, w.setRow g (cur.toList.take (i * 6) ++ news ++ cur.toList.drop (i * 6 + news.length)).toArray = X := ⟨_, rfl⟩
  rw [hW1] at hrun h
  refine wpList_plain hgd fun K hK => ?_
  unfold Oper.wp
  simp [execOp, ho, resolve, invoke, builtin, hs, hx, hrun, Result.andThen]
  exact hK _ _ h

/-- the two reslicings. -/
theorem slToP (g n c k : Nat) (hk : k ≤ n) (hc : n ≤ c) (w : World) : (Instr.sliceAt 60 (.slice (some ⟨g, 0, none⟩) n c) none (some (.int .i64 (k : Int))) none).run Try.prog w = .ok (.slice (some ⟨g, 0, none⟩) k c) w := by
  have h1 : (0 : Int) ≤ (k : Int) := by omega
  have h2 : (k : Int) ≤ (c : Int) := by omega
  go_simp
theorem slFromP (g n c k : Nat) (hk : k ≤ n) (hc : n ≤ c) : ∃ o, (∀ w, (Instr.sliceAt 60 (.slice (some ⟨g, 0, none⟩) n c) (some (.int .i64 (k : Int))) none none).run Try.prog w = .ok (.slice (some ⟨g, o, none⟩) (n - k) (c - k)) w) ∧ (k < n → o = k * 6) := by
  have h1 : (0 : Int) ≤ (k : Int) := by omega
  have h2 : (k : Int) ≤ (n : Int) := by omega
  have h3 : (n : Int) ≤ (c : Int) := by omega
  by_cases e : c = k
  · subst e
    exact ⟨0, fun w => by go_simp, fun h => by omega⟩
  · have h4 : (k : Int) < (c : Int) := by omega
    exact ⟨0 + k * 6, fun w => by go_simp, fun _ => by omega⟩
theorem slMidP (g n c k : Nat) (hk : k < n) (hc : n ≤ c) (w : World) : (Instr.sliceAt 60 (.slice (some ⟨g, 0, none⟩) k c) (some (.int .i64 (k : Int))) (some (.int .i64 (n : Int))) none).run Try.prog w = .ok (.slice (some ⟨g, k * 6, none⟩) (n - k) (c - k)) w := by
  have h1 : (0 : Int) ≤ (k : Int) := by omega
  have h2 : (k : Int) ≤ (n : Int) := by omega
  have h3 : (n : Int) ≤ (c : Int) := by omega
  have h4 : (k : Int) < (c : Int) := by omega
  go_simp
  intro h
  omega
theorem slOk (g n c i : Nat) (hi : i < n) (hc : n ≤ c) : ∃ v, ∀ w, (Instr.sliceAt 60 (.slice (some ⟨g, 0, none⟩) n c) (some (.int .i64 (i : Int))) (some (.int .i64 ((i : Int) + 1))) (some (.int .i64 (n : Int)))).run Try.prog w = .ok v w := by
  have h1 : (0 : Int) ≤ (i : Int) := by omega
  have h2 : (i : Int) ≤ (i : Int) + 1 := by omega
  have h3 : (i : Int) + 1 ≤ (n : Int) := by omega
  have h4 : (n : Int) ≤ (c : Int) := by omega
  by_cases e : n = i
  · omega
  · have h5 : (i : Int) < (n : Int) := by omega
    exact ⟨.slice (some ⟨g, i * 6, none⟩) 1 (n - i), fun w => by go_simp⟩

theorem run_slB {P : Program} {w : World} {a : Act} {sv xv : Value} {t t0 : TypeId} {x : Operand} {lo hi : Option Operand} {lo' hi' : Option Value} (hx : a.eval x = xv) (hlo : lo.map a.eval = lo') (hhi : hi.map a.eval = hi')
    (hr : (Instr.sliceAt t xv lo' hi' none).run P w = .ok sv w) : (execOp a.eval (bareO (.slice t x lo hi none) t0)).run P w = .ok (.value sv) w := by
  unfold execOp bareO
  simp only [hx, hlo, hhi, Option.map_none, Sem.run_bind, hr, Result.andThen_ok, Sem.run_pure]
theorem one_le_of {a b : Nat} (h : a < b) : a + 1 ≤ b := h
/-- what the row holds behind the removal. -/
theorem del_cells (L : List Lp) (i n c : Nat) (hi : i < n) (hn : L.length = n) (cur : Array Value) (hs : cur.size = c * 6) (hc : n ≤ c) (ht : cur.toList.take (n * 6) = cellsL L) :
    (cur.toList.take (i * 6) ++ cellsL (L.drop (i + 1)) ++ cur.toList.drop (i * 6 + (cellsL (L.drop (i + 1))).length)).length = c * 6 ∧
    (cur.toList.take (i * 6) ++ cellsL (L.drop (i + 1)) ++ cur.toList.drop (i * 6 + (cellsL (L.drop (i + 1))).length)).take ((n - 1) * 6) = cellsL (L.take i ++ L.drop (i + 1)) := by
  have hl : (cellsL (L.drop (i + 1))).length = (n - (i + 1)) * 6 := by rw [cellsL_length, List.length_drop, hn]
  have hcl : cur.toList.length = c * 6 := by simpa using hs
  have e1 : cur.toList.take (i * 6) = cellsL (L.take i) := by
    have h1 : cur.toList.take (i * 6) = (cur.toList.take (n * 6)).take (i * 6) := by rw [List.take_take, Nat.min_eq_left (by omega)]
    rw [h1, ht]
    have h2 : cellsL L = cellsL (L.take i) ++ cellsL (L.drop i) := by rw [← cellsL_append, List.take_append_drop]
    rw [h2, List.take_append_of_le_length (by rw [cellsL_length, List.length_take]; omega), List.take_of_length_le (by rw [cellsL_length, List.length_take]; omega)]
  refine ⟨by rw [List.length_append, List.length_append, List.length_take, List.length_drop, hl, hcl]; omega, ?_⟩
  rw [e1, ← cellsL_append, List.take_append_of_le_length (by rw [cellsL_length, List.length_append, List.length_take, List.length_drop]; omega), List.take_of_length_le (by rw [cellsL_length, List.length_append, List.length_take, List.length_drop]; omega)]

set_option maxRecDepth 100000 in
set_option maxHeartbeats 1000000 in
theorem delP (base g n c i : Nat) (L : List Lp) (W : World) (hg : base ≤ g) (hn : L.length = n) (hi : i < n) (h : W.ownsRow base 45 6 (.slice (some ⟨g, 0, none⟩) n c) n (cellsL L)) :
    Calls Try.prog 36 #[.slice (some ⟨g, 0, none⟩) n c, .int .i64 i, .int .i64 ((i : Int) + 1)] W fun e W' => e = .returned (.slice (some ⟨g, 0, none⟩) (n - 1) c) ∧ W'.ownsRow base 45 6 (.slice (some ⟨g, 0, none⟩) (n - 1) c) (n - 1) (cellsL (L.take i ++ L.drop (i + 1))) ∧ KP (fun k => k = g) W W' := by
  have h0 := h
  obtain ⟨cur, hcur, hnc, hcm, hcs, ht⟩ : ∃ cur, W.heap[g]? = some (.cells cur 45 (0, 0)) ∧ n ≤ c ∧ c ≤ maxLen ∧ cur.size = c * 6 ∧ cur.toList.take (n * 6) = cellsL L := by
    rcases h.2 with ⟨e, _⟩ | ⟨g', cap, cur, e, _, h1, h2, h3, h4, h5⟩
    · cases e
    · cases e
      exact ⟨cur, h1, h2, h3, h4, h5⟩
  obtain ⟨hd1, hd2⟩ := del_cells L i n c hi hn cur hcs hnc ht
  obtain ⟨vO, hO⟩ := slOk g n c i hi hnc
  obtain ⟨o5, h5, h5o⟩ := slFromP g n c (i + 1) (by omega) hnc
  have hw1 : Hid (((i + 1 : Nat) : Int) = (i : Int) + 1) := Lib.hid (by omega)
  rw [hw1.out] at h5
  have HO := Lib.hid hO
  have H5 := Lib.hid h5
  have HT := Lib.hid (slToP g n c i (by omega) hnc)
  have HM := Lib.hid (slMidP g n c (n - 1) (by omega) hnc)
  have HD1 := Lib.hid hd1
  have HD2 := Lib.hid hd2
  have HC := Lib.hid hcur
  have HCS := Lib.hid hcs
  have H0 := Lib.hid h0
  have hne : ((i : Int) == (i : Int) + 1) = false := by simp; omega
  have hne2 : ¬ (i : Int) = (i : Int) + 1 := by omega
  clear hO h5 hd1 hd2 hcur ht hcs h0 h
  go_enter Try.func36, Try.ntmps36
  go_wp2
  refine region_heldT (S := fun _ => True) 6 (by kernel_rfl) (by decide) (fun inv => ?_)
  change FirstH _ _ _ _ _ _ _ _ _ _ W.drew
  obtain ⟨W3, hW3⟩ : ∃ X, W.drew = X := ⟨_, rfl⟩
  have b3 : Below W.heap.size W W3 := by rw [← hW3]; exact (Below.refl _ _).drew
  rw [hW3]
  have HS : True := trivial
  refine FirstH.go (i := 0) (v := .slice (some ⟨g, 0, none⟩) n c) rfl rfl _ rfl _ rfl (by kernel_rfl) (fun _ _ _ h => h) inv (fun X _ => by unfold bareO; go_simp) HS (fun inv => ?_)
  try simp only [Act.put, List.setIfInBounds_toArray, List.set_cons_zero, List.set_cons_succ]
  refine FirstH.go (i := 1) (v := .int .i64 i) rfl rfl _ rfl _ rfl (by kernel_rfl) (fun _ _ _ h => h) inv (fun X _ => by unfold bareO; go_simp) HS (fun inv => ?_)
  try simp only [Act.put, List.setIfInBounds_toArray, List.set_cons_zero, List.set_cons_succ]
  refine FirstH.go (i := 2) (v := .slice (some ⟨g, 0, none⟩) i c) rfl rfl _ rfl _ rfl (by kernel_rfl) (fun _ _ _ h => h) inv (fun X _ => run_slB rfl rfl rfl (HT.out X)) HS (fun inv => ?_)
  try simp only [Act.put, List.setIfInBounds_toArray, List.set_cons_zero, List.set_cons_succ]
  refine FirstH.go (i := 3) (v := .slice (some ⟨g, 0, none⟩) n c) rfl rfl _ rfl _ rfl (by kernel_rfl) (fun _ _ _ h => h) inv (fun X _ => by unfold bareO; go_simp) HS (fun inv => ?_)
  try simp only [Act.put, List.setIfInBounds_toArray, List.set_cons_zero, List.set_cons_succ]
  refine FirstH.go (i := 4) (v := .int .i64 ((i : Int) + 1)) rfl rfl _ rfl _ rfl (by kernel_rfl) (fun _ _ _ h => h) inv (fun X _ => by unfold bareO; go_simp) HS (fun inv => ?_)
  try simp only [Act.put, List.setIfInBounds_toArray, List.set_cons_zero, List.set_cons_succ]
  refine FirstH.go (i := 5) (v := .slice (some ⟨g, o5, none⟩) (n - (i + 1)) (c - (i + 1))) rfl rfl _ rfl _ rfl (by kernel_rfl) (fun _ _ _ h => h) inv (fun X _ => run_slB rfl rfl rfl (H5.out X)) HS (fun inv => ?_)
  try simp only [Act.put, List.setIfInBounds_toArray, List.set_cons_zero, List.set_cons_succ]
  clear HS
  refine ⟨by kernel_rfl, ?_⟩
  simp only [List.drop_succ_cons, List.drop_zero]
  have C3 : W3.heap[g]? = some (.cells cur 45 (0, 0)) := (b3.block g (Array.getElem?_eq_some_iff.1 HC.out).1).trans HC.out
  have O3 : W3.ownsRow base 45 6 (.slice (some ⟨g, 0, none⟩) n c) n (cellsL L) := by rw [← hW3]; exact H0.out
  refine wpList_room rfl 26 rfl (.tmp 22) (.tmp 25) rfl g i c cur rfl C3 ⟨g, o5, none⟩ (n - (i + 1)) (c - (i + 1)) rfl (cellsL (L.drop (i + 1))) (by rw [cellsL_length, List.length_drop, hn]) ?_ (cellsL_one _) (by omega) (by rw [cellsL_length, List.length_drop, hn, HCS.out]; omega) ?_
  · intro j u hu
    have hj := (List.getElem?_eq_some_iff.1 hu).1
    rw [cellsL_length, List.length_drop, hn] at hj
    rw [h5o (by omega), addr_add]
    have h2 : cellsL L = cellsL (L.take (i + 1)) ++ cellsL (L.drop (i + 1)) := by rw [← cellsL_append, List.take_append_drop]
    have h3 : (cellsL L)[(i + 1) * 6 + j]? = some u := by
      rw [h2, List.getElem?_append_right (by rw [cellsL_length, List.length_take]; omega), cellsL_length, List.length_take, show min (i + 1) L.length = i + 1 by omega, Nat.add_sub_cancel_left]
      exact hu
    have h4 := O3.cells (g := g) rfl ((i + 1) * 6 + j) u h3
    rwa [addr_add, Nat.zero_add] at h4
  obtain ⟨cs2, hcs2⟩ : ∃ X, (cur.toList.take (i * 6) ++ cellsL (L.drop (i + 1)) ++ cur.toList.drop (i * 6 + (cellsL (L.drop (i + 1))).length)) = X := ⟨_, rfl⟩
  rw [hcs2] at HD1 HD2 ⊢
  have C4 := setRow_heap W3 g cur cs2.toArray _ _ C3
  have K4 := (KP.of_below (S := fun k => k = g) b3).trans (KP.setRow (S := fun k => k = g) W3 g cs2.toArray rfl) fun _ _ h => h
  obtain ⟨W4, hW4⟩ : ∃ X, W3.setRow g cs2.toArray = X := ⟨_, rfl⟩
  rw [hW4] at C4 K4 ⊢
  clear hW3 b3 C3 O3 hW4 hcs2
  rw [show i + (n - (i + 1)) = n - 1 by omega]
  have hfz : ∀ j, W4.frozen? ⟨g, j, none⟩ = false := fun j => frz_row j C4
  have hcl : ∀ ty, (Builtin.clear_ #[60] ty #[.slice (some ⟨g, (n - 1) * 6, none⟩) (n - (n - 1)) (c - (n - 1))]).run Try.prog W4 = .ok (.tuple #[]) (W4.setCells g ((n - 1) * 6) [.int .u8 0, .int .u16 0, .int .u8 0, .int .u16 0, .slice none 0 0, .bool false]) := fun ty => by
    rw [show n - (n - 1) = 1 by omega]
    refine clearP W4 ty g _ _ (fun j hj => ?_) hfz
    rw [cell_of_row _ _ _ _ _ _ C4]
    have h9 := HD1.out
    simp
    omega
  have hm1 : ∀ w, (Instr.sliceAt 60 (.slice (some ⟨g, 0, none⟩) (n - 1) c) (some (.int .i64 ((n - 1 : Nat) : Int))) (some (.int .i64 (n : Int))) none).run Try.prog w = .ok (.slice (some ⟨g, (n - 1) * 6, none⟩) (n - (n - 1)) (c - (n - 1))) w := HM.out
  obtain ⟨n1, hn1⟩ : ∃ n1, n - 1 = n1 := ⟨_, rfl⟩
  rw [hn1] at hm1 hcl ⊢
  have HC4 := Lib.hid C4
  have HK4 := Lib.hid K4
  clear C4 K4 hfz
  go_wp2
  go_ret
  obtain ⟨cur', q1, q2, q3⟩ := setCells_row [.int .u8 0, .int .u16 0, .int .u8 0, .int .u16 0, .slice none 0 0, .bool false] (n1 * 6) W4 _ HC4.out
  refine ⟨by rw [hn1]; rfl, ⟨?_, .inr ⟨g, c, cur', by rw [hn1], hg, q1, by omega, hcm, ?_, ?_⟩⟩, HK4.out.trans (KP.setCells (S := fun k => k = g) rfl _ _ _) fun _ _ h => h⟩
  · rw [cellsL_length, List.length_append, List.length_take, List.length_drop, hn]
    omega
  · rw [q2, List.size_toArray]
    exact HD1.out
  · rw [← HD2.out, hn1]
    apply List.ext_getElem?
    intro j
    rw [List.getElem?_take, List.getElem?_take]
    split
    · rename_i hj
      rw [Array.getElem?_toList, q3 j hj]
      simp
    · rfl


end Go.Proofs.Yteaafpgkifmdeaa
