/-
  The program's Out, its plain side: what is told, and the link behind it. Condition: the link lies in memory.
-/
import Derived.Test.YtnagbiicpecamaaJov
namespace Go.Proofs.Ytnagbiicpecamaa
set_option linter.unusedSimpArgs false
set_option linter.unusedVariables false
open Go.RowKit Go.Maps Go.Sort

theorem wpList_appPk {w : World} {ops : Array Oper} {rest : List Oper} {o : Oper} {a : Act} {Q : Exit → Act → World → Prop} (hgd : o.guard = none) (d : Tmp) (hd : o.dst = some d) (s xo : Operand)
    (ho : o.op = .call { callee := .builtin .append, args := #[s, xo], argTypes := #[28, 28] })
    (base : Nat) (v : Value) (n : Nat) (xs : List Value) (hs : a.eval s = v) (hown : w.ownsRow base 46 8 v n xs)
    (g : Nat) (cs : Array Value) (c : Nat) (hz : cs.size = 8) (h1 : ∀ u ∈ cs.toList, u.oneCell' = true) (hx : a.eval xo = .slice (some ⟨g, 0, none⟩) 1 c) (hr : w.heap[g]? = some (.cells cs 46 (0, 0)))
    (hlen : n ≤ 100000) (hbase : base ≤ w.heap.size)
    (h : ∀ v' w', w'.ownsRow base 46 8 v' (n + 1) (xs ++ cs.toList) → w.grownBy w' v.ownBlock → wpList Try.prog ops Q rest (a.put (some d) v') w') : wpList Try.prog ops Q (o :: rest) a w := by
  rw [← hd] at h
  obtain ⟨i0, hi0, hz0, hz1, hz2⟩ := info_parts pktI
  refine wpList_append_own w hgd s xo 28 ho base 46 i0 _ 8 56 Try.underlying28 hi0 hz0 hz1 hz2 rfl (by decide) v n xs hs hown ⟨g, 0, none⟩ 1 c cs.toList hx (by simp [hz]) (fun j u hu => ?_) h1
    (by unfold maxLen; omega) (by omega) hbase fun v' w' h2 h3 _ => h v' w' h2 h3
  rw [addr_add, Nat.zero_add, cell_of_row _ _ j _ _ _ hr]
  simpa using hu

/-- one element of a row is another one. -/
theorem RowO.setElem {α : Type} {f : α → Array Value} {W W' : World} {e : TypeId} {sz g o n c : Nat} {L : List α} (hs : ∀ x, (f x).size = sz) (hz : 0 < sz) (h : RowO W e sz (.slice (some ⟨g, o, none⟩) n c) n (flat f L)) (hn : L.length = n) {k : Nat} (hk : k < L.length) (y : α) (cur cur' : Array Value)
    (hc : W.heap[g]? = some (.cells cur e (0, 0))) (hc' : W'.heap[g]? = some (.cells cur' e (0, 0))) (hsz : cur'.size = cur.size) (hout : ∀ j, j < o + k * sz ∨ o + k * sz + sz ≤ j → cur'[j]? = cur[j]?) (hin : ∀ r, r < sz → cur'[o + k * sz + r]? = (f y)[r]?) :
    RowO W' e sz (.slice (some ⟨g, o, none⟩) n c) n (flat f (L.set k y)) := by
  refine ⟨by rw [flat_len hs, List.length_set, hn], ?_⟩
  rcases h.2 with ⟨h0, _⟩ | ⟨g', o', cap, cu, h1, hg, h2, h3, h4, h5⟩
  · cases h0
  · cases h1
    rw [hc] at hg
    cases hg
    refine .inr ⟨g, o, c, cur', rfl, hc', h2, h3, by rw [hsz]; exact h4, fun j u hu => ?_⟩
    have hj := (List.getElem?_eq_some_iff.1 hu).1
    rw [flat_len hs, List.length_set, hn] at hj
    have e1 : j / sz * sz + j % sz = j := Nat.div_add_mod' j sz
    have e2 : j % sz < sz := Nat.mod_lt _ hz
    have e3 : j / sz < n := Nat.div_lt_of_lt_mul (by rw [Nat.mul_comm]; exact hj)
    obtain ⟨i, hi⟩ : ∃ i, j / sz = i := ⟨_, rfl⟩
    obtain ⟨r, hr⟩ : ∃ r, j % sz = r := ⟨_, rfl⟩
    rw [hi] at e1 e3
    rw [hr] at e1 e2
    subst e1
    by_cases hik : i = k
    · subst hik
      rw [flat_at hs (L.set i y) i y (by rw [List.getElem?_set_self hk]) r e2] at hu
      rw [← Nat.add_assoc, hin r e2]
      exact hu
    · have hz := List.getElem?_eq_getElem (show i < L.length by omega)
      rw [flat_at hs (L.set k y) i _ ((List.getElem?_set_ne (fun e => hik e.symm)).trans hz) r e2] at hu
      rw [← flat_at hs L i _ hz r e2] at hu
      rw [hout]
      · exact h5 _ _ hu
      · rcases Nat.lt_or_gt_of_ne hik with hl | hl
        · left
          have := Nat.mul_le_mul_right sz (show i + 1 ≤ k from hl)
          rw [Nat.add_mul] at this
          omega
        · right
          have := Nat.mul_le_mul_right sz (show k + 1 ≤ i from hl)
          rw [Nat.add_mul] at this
          omega

/-- a body that is told now, if it is to be told. -/
def upd (now again : Int) (x : Ls) : Ls := if dueB x.told x.at_ now again then { x with told := true, at_ := now } else x
def outL (now again : Int) (L : List Ls) (k : Nat) : List Ls := (L.take k).map (upd now again) ++ L.drop k
def dueL' (now again : Int) (L : List Ls) (k : Nat) : List Ls := (L.take k).filter fun x => dueB x.told x.at_ now again
abbrev Pu := Int × Int × Int × Int × Nat × Nat × Bool × List UInt8
def Pk.pu (x : Pk) : Pu := (x.fn, x.fl, x.tn, x.tl, x.seq, x.ack, x.has, x.b.B)
def puOf (s : Sc) (x : Ls) : Pu := (s.mn, s.ml, s.pn, s.pl, x.seq, s.want, true, x.b.B)
theorem outL_len (now again : Int) (L : List Ls) (k : Nat) : (outL now again L k).length = L.length := by
  simp [outL]
  omega
theorem outL_zero (now again : Int) (L : List Ls) : outL now again L 0 = L := by simp [outL]
theorem outL_at (now again : Int) (L : List Ls) (k : Nat) (hk : k < L.length) : (outL now again L k)[k]? = some L[k] := by
  unfold outL
  rw [List.getElem?_append_right (by simp; omega)]
  simp [Nat.min_eq_left (Nat.le_of_lt hk), hk]
theorem outL_succ (now again : Int) (L : List Ls) (k : Nat) (hk : k < L.length) : outL now again L (k + 1) = (outL now again L k).set k (upd now again L[k]) := by
  unfold outL
  rw [List.set_append_right (h := by simp; omega), List.take_succ_eq_append_getElem hk, List.map_append, List.append_assoc]
  congr 1
  have e : k - (List.map (upd now again) (L.take k)).length = 0 := by simp; omega
  rw [e, List.drop_eq_getElem_cons hk]
  rfl
theorem outL_mem {now again : Int} {L : List Ls} {k : Nat} {y : Ls} (h : y ∈ outL now again L k) : ∃ x ∈ L, y = x ∨ y = { x with told := true, at_ := now } := by
  unfold outL at h
  rcases List.mem_append.1 h with h | h
  · obtain ⟨x, hx, rfl⟩ := List.mem_map.1 h
    refine ⟨x, List.mem_of_mem_take hx, ?_⟩
    unfold upd
    split
    · exact Or.inr rfl
    · exact Or.inl rfl
  · exact ⟨y, List.mem_of_mem_drop h, Or.inl rfl⟩
theorem dueL_succ_yes {now again : Int} {L : List Ls} {k : Nat} (hk : k < L.length) (hd : dueB L[k].told L[k].at_ now again = true) : dueL' now again L (k + 1) = dueL' now again L k ++ [L[k]] := by
  unfold dueL'
  rw [List.take_succ_eq_append_getElem hk, List.filter_append]
  simp [hd]
theorem dueL_succ_no {now again : Int} {L : List Ls} {k : Nat} (hk : k < L.length) (hd : dueB L[k].told L[k].at_ now again = false) : dueL' now again L (k + 1) = dueL' now again L k := by
  unfold dueL'
  rw [List.take_succ_eq_append_getElem hk, List.filter_append]
  simp [hd]

/-- an element that was told. -/
theorem PL.tell {base : Nat} {W : World} {b m g o n cp c : Nat} {s : Sc} {L : List Ls} {K : List Kr} (h : PL base W b m (.slice (some ⟨g, o, none⟩) n cp) c s L K) (hn : L.length = n) {k : Nat} {x : Ls} (hk : L[k]? = some x) (now : Int) (h1 : -9223372036854775808 ≤ now ∧ now ≤ 9223372036854775807) :
    PL base ((W.setCell ⟨g, o + k * 4 + 2, none⟩ (.bool true)).setCell ⟨g, o + k * 4 + 3, none⟩ (.int .i64 now)) b m (.slice (some ⟨g, o, none⟩) n cp) c s (L.set k { x with told := true, at_ := now }) K ∧
    KP (fun k => k = g) W ((W.setCell ⟨g, o + k * 4 + 2, none⟩ (.bool true)).setCell ⟨g, o + k * 4 + 3, none⟩ (.int .i64 now)) := by
  have hkl := (List.getElem?_eq_some_iff.1 hk).1
  have kp : KP (fun k => k = g) W ((W.setCell ⟨g, o + k * 4 + 2, none⟩ (.bool true)).setCell ⟨g, o + k * 4 + 3, none⟩ (.int .i64 now)) :=
    (KP.set (S := fun k => k = g) W g _ _ rfl).trans (KP.set (S := fun k => k = g) _ g _ _ rfl) fun _ _ h => h
  refine ⟨?_, kp⟩
  obtain ⟨cur, hc⟩ := h.row.block g rfl
  have hc' := row_set (i := o + k * 4 + 3) (row_set (i := o + k * 4 + 2) hc (.bool true)) (.int .i64 now)
  have hel : ∀ r, r < 4 → cur[o + k * 4 + r]? = x.cs[r]? := fun r hr => by
    have row := h.row
    rw [hn] at row
    have := RowO.elem Ls.sz row hk hr
    rwa [cell_of_row _ _ _ _ _ _ hc] at this
  have hin0 : ∀ r, r < 4 → o + k * 4 + r < cur.size := fun r hr => by
    have := hel r hr
    have h2 : x.cs[r]? = some (x.cs[r]'(by rw [Ls.sz]; exact hr)) := by simp [Ls.sz, hr]
    rw [h2] at this
    exact (Array.getElem?_eq_some_iff.1 this).1
  have row' := RowO.setElem Ls.sz (by decide) (by have := h.row; rw [hn] at this; exact this) hn hkl { x with told := true, at_ := now } cur _ hc hc' (by simp)
    (fun j hj => by rw [Array.getElem?_setIfInBounds_ne (by omega), Array.getElem?_setIfInBounds_ne (by omega)])
    (fun r hr => by
      have e0 := hel r hr
      have i0 := hin0 r hr
      rcases (by omega : r = 0 ∨ r = 1 ∨ r = 2 ∨ r = 3) with rfl | rfl | rfl | rfl
      · rw [Array.getElem?_setIfInBounds_ne (by omega), Array.getElem?_setIfInBounds_ne (by omega), e0]
        rfl
      · rw [Array.getElem?_setIfInBounds_ne (by omega), Array.getElem?_setIfInBounds_ne (by omega), e0]
        rfl
      · rw [Array.getElem?_setIfInBounds_ne (by omega), Array.getElem?_setIfInBounds_self]
        simp [i0, Ls.cs]
      · rw [Array.getElem?_setIfInBounds_self]
        simp [i0, Ls.cs])
  have hb : b ≠ g := fun e => h.ne_bv g rfl e.symm
  have hm : m ≠ g := fun e => h.ne_mv g rfl e.symm
  have hu : ∀ (g' : Nat) (cur : Array Value), W.heap[g']? = some (.cells cur 5 (0, 0)) → ¬ (g' = g) := fun g' cur' hg e => by
    subst e
    exact apart_of hg hc (by decide) rfl
  obtain ⟨nn, D, hk', ⟨es, cl, hmm, F, hs, hD⟩, M⟩ := h.map
  have lm : ∀ {y : Ls}, y ∈ L.set k { x with told := true, at_ := now } → y ∈ L ∨ y = { x with told := true, at_ := now } := fun hy => (List.mem_or_eq_of_mem_set hy)
  have xm := List.mem_of_getElem? hk
  refine ⟨h.hb, h.hm, h.hv, (kp.block b (blt h.lnk) hb).trans h.lnk, by rw [List.length_set, hn]; exact row', fun y hy => ?_, ⟨nn, D, hk', ⟨es, cl, (kp.block m (blt hmm) hm).trans hmm, F, hs, hD⟩, M⟩, fun y hy => (h.okK y hy).keepK kp hu, by rw [List.length_set]; exact h.few, h.nxt, h.wnt, h.agn, fun i y hy => ?_, fun y hy => ?_⟩
  · rcases lm hy with hy | rfl
    · exact (h.okL y hy).keepK kp hu
    · exact (h.okL x xm).keepK kp hu
  · rw [List.length_set]
    by_cases hik : k = i
    · subst hik
      rw [List.getElem?_set_self hkl] at hy
      cases hy
      exact h.seqs k x hk
    · rw [List.getElem?_set_ne hik] at hy
      exact h.seqs i y hy
  · rcases lm hy with hy | rfl
    · exact h.ats y hy
    · exact h1

theorem outL_min (now again : Int) (L : List Ls) : outL now again L (min L.length 8) = outL now again L 8 := by
  unfold outL
  by_cases h : L.length ≤ 8
  · rw [Nat.min_eq_left h, List.take_of_length_le (Nat.le_refl _), List.take_of_length_le h, List.drop_eq_nil_of_le (Nat.le_refl _), List.drop_eq_nil_of_le h]
  · rw [Nat.min_eq_right (by omega)]
theorem dueL_min (now again : Int) (L : List Ls) : dueL' now again L (min L.length 8) = dueL' now again L 8 := by
  unfold dueL'
  by_cases h : L.length ≤ 8
  · rw [Nat.min_eq_left h, List.take_of_length_le (Nat.le_refl _), List.take_of_length_le h]
  · rw [Nat.min_eq_right (by omega)]
/-- the link's row alone has changed. -/
theorem PL.num {base : Nat} {W W' : World} {b m : Nat} {v : Value} {c : Nat} {s s' : Sc} {L : List Ls} {K : List Kr} (h : PL base W b m v c s L K) (k : KP (fun k => k = b) W W') (hl : W'.heap[b]? = some (.cells (s'.cs v m) 64 (0, 0))) (h1 : s'.next = s.next) (h2 : s'.again = s.again) (h3 : s'.want ≤ 18446744073709551615) : PL base W' b m v c s' L K := by
  have hu : ∀ (g' : Nat) (cur : Array Value), W.heap[g']? = some (.cells cur 5 (0, 0)) → ¬ (g' = b) := fun g' cur hg e => h.u8 g' cur hg (Or.inl e)
  obtain ⟨nn, D, hk', ⟨es, cl, hmm, F, hs, hD⟩, M⟩ := h.map
  exact ⟨h.hb, h.hm, h.hv, hl, h.row.keepK k h.ne_bv, fun y hy => (h.okL y hy).keepK k hu, ⟨nn, D, hk', ⟨es, cl, (k.block m (blt hmm) h.ne_bm.symm).trans hmm, F, hs, hD⟩, M⟩, fun y hy => (h.okK y hy).keepK k hu, h.few, by rw [h1]; exact h.nxt, h3, by rw [h2]; exact h.agn, by rw [h1]; exact h.seqs, h.ats⟩
theorem PL.owe {base : Nat} {W : World} {b m : Nat} {v : Value} {c : Nat} {s : Sc} {L : List Ls} {K : List Kr} (h : PL base W b m v c s L K) (o : Bool) : PL base (W.setCell ⟨b, 8, none⟩ (.bool o)) b m v c { s with owed := o } L K :=
  h.num (KP.set (S := fun k => k = b) W b 8 _ rfl) ((row_set h.lnk _).trans rfl) rfl rfl h.wnt

end Go.Proofs.Ytnagbiicpecamaa
