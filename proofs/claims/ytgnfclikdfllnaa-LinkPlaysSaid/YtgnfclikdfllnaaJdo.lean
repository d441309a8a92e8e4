/-
  The document's Out: by an exact answer. Condition: the link lies in memory.
-/
import Derived.Test.YtgnfclikdfllnaaJds
namespace Go.Proofs.Ytgnfclikdfllnaa
set_option linter.unusedSimpArgs false
set_option linter.unusedVariables false
open Go.RowKit Go.Maps Go.Sort

theorem rpI : (Try.prog.info? 37).map (fun i => (i.zero, i.size, i.bytes)) = some (some (.agg #[.int .u8 0, .int .u16 0, .int .u8 0, .int .u16 0, .int .u64 0, .int .u64 0, .bool false, .slice none 0 0]), 8, 56) := by kernel_rfl
theorem wpOp_appRp {w : World} {ops : Array Oper} {o : Oper} {i : Nat} {a : Act} {K : Act → World → Prop} {Q : Exit → Act → World → Prop} (hi : ops[i]? = some o) (hgd : o.guard = none) (d : Tmp) (hd : o.dst = some d) (s xo : Operand)
    (ho : o.op = .call { callee := .builtin .append, args := #[s, xo], argTypes := #[47, 47] })
    (base : Nat) (v : Value) (n : Nat) (xs : List Value) (hs : a.eval s = v) (hown : w.ownsRow base 37 8 v n xs)
    (g : Nat) (cs : Array Value) (c : Nat) (hz : cs.size = 8) (h1 : ∀ u ∈ cs.toList, u.oneCell' = true) (hx : a.eval xo = .slice (some ⟨g, 0, none⟩) 1 c) (hr : w.heap[g]? = some (.cells cs 37 (0, 0)))
    (hlen : n ≤ 100000) (hbase : base ≤ w.heap.size)
    (h : ∀ v' w', w'.ownsRow base 37 8 v' (n + 1) (xs ++ cs.toList) → w.grownBy w' v.ownBlock → K (a.put (some d) v') w') : wpOp Try.prog ops Q i K a w := by
  rw [← hd] at h
  obtain ⟨i0, hi0, hz0, hz1, hz2⟩ := info_parts rpI
  refine wpOp_any hi hgd (wp_append_own w s xo 47 ho base 37 i0 _ 8 56 Try.underlying47 hi0 hz0 hz1 hz2 rfl (by decide) v n xs hs hown ⟨g, 0, none⟩ 1 c cs.toList hx (by simp [hz]) (fun j u hu => ?_) h1
    (by unfold maxLen; omega) (by omega) hbase fun v' w' h2 h3 _ => h v' w' h2 h3)
  rw [addr_add, Nat.zero_add, cell_of_row _ _ j _ _ _ hr]
  simpa using hu
/-- an element that was told. -/
theorem DL.tell {base : Nat} {W : World} {b g o n cp : Nat} {w : Value} {s : Sc} {L : List Ls} {K : List Kr} (h : DL base W b (.slice (some ⟨g, o, none⟩) n cp) w s L K) (hn : L.length = n) {k : Nat} {x : Ls} (hk : L[k]? = some x) (now : Int) (h1 : -9223372036854775808 ≤ now ∧ now ≤ 9223372036854775807) :
    DL base ((W.setCell ⟨g, o + k * 4 + 2, none⟩ (.bool true)).setCell ⟨g, o + k * 4 + 3, none⟩ (.int .i64 now)) b (.slice (some ⟨g, o, none⟩) n cp) w s (L.set k { x with told := true, at_ := now }) K ∧
    KP (fun k => k = g) W ((W.setCell ⟨g, o + k * 4 + 2, none⟩ (.bool true)).setCell ⟨g, o + k * 4 + 3, none⟩ (.int .i64 now)) := by
  have hkl := (List.getElem?_eq_some_iff.1 hk).1
  have kp : KP (fun k => k = g) W ((W.setCell ⟨g, o + k * 4 + 2, none⟩ (.bool true)).setCell ⟨g, o + k * 4 + 3, none⟩ (.int .i64 now)) :=
    (KP.set (S := fun k => k = g) W g _ _ rfl).trans (KP.set (S := fun k => k = g) _ g _ _ rfl) fun _ _ h => h
  refine ⟨?_, kp⟩
  obtain ⟨cur, hc⟩ := h.row.block g rfl
  have hc' := row_set (i := o + k * 4 + 3) (row_set (i := o + k * 4 + 2) hc (.bool true)) (.int .i64 now)
  have hel : ∀ r, r < 4 → cur[o + k * 4 + r]? = x.cs[r]? := fun r hr => by
    have row := h.row
    rw [hn] at row
    have := RowO.elem Ls.sz row hk hr
    rwa [cell_of_row _ _ _ _ _ _ hc] at this
  have hin0 : ∀ r, r < 4 → o + k * 4 + r < cur.size := fun r hr => by
    have := hel r hr
    have h2 : x.cs[r]? = some (x.cs[r]'(by rw [Ls.sz]; exact hr)) := by simp [Ls.sz, hr]
    rw [h2] at this
    exact (Array.getElem?_eq_some_iff.1 this).1
  have row' := RowO.setElem Ls.sz (by decide) (by have := h.row; rw [hn] at this; exact this) hn hkl { x with told := true, at_ := now } cur _ hc hc' (by simp)
    (fun j hj => by rw [Array.getElem?_setIfInBounds_ne (by omega), Array.getElem?_setIfInBounds_ne (by omega)])
    (fun r hr => by
      have e0 := hel r hr
      have i0 := hin0 r hr
      rcases (by omega : r = 0 ∨ r = 1 ∨ r = 2 ∨ r = 3) with rfl | rfl | rfl | rfl
      · rw [Array.getElem?_setIfInBounds_ne (by omega), Array.getElem?_setIfInBounds_ne (by omega), e0]
        rfl
      · rw [Array.getElem?_setIfInBounds_ne (by omega), Array.getElem?_setIfInBounds_ne (by omega), e0]
        rfl
      · rw [Array.getElem?_setIfInBounds_ne (by omega), Array.getElem?_setIfInBounds_self]
        simp [i0, Ls.cs]
      · rw [Array.getElem?_setIfInBounds_self]
        simp [i0, Ls.cs])
  have hb : b ≠ g := fun e => h.ne_bv g rfl e.symm
  have hu : ∀ (g' : Nat) (cur : Array Value), W.heap[g']? = some (.cells cur 5 (0, 0)) → ¬ (g' = g) := fun g' cur' hg e => by
    subst e
    exact apart_of hg hc (by decide) rfl
  have lm : ∀ {y : Ls}, y ∈ L.set k { x with told := true, at_ := now } → y ∈ L ∨ y = { x with told := true, at_ := now } := fun hy => (List.mem_or_eq_of_mem_set hy)
  have xm := List.mem_of_getElem? hk
  refine ⟨h.hb, h.hv, h.hw, (kp.block b (blt h.lnk) hb).trans h.lnk, by rw [List.length_set, hn]; exact row', h.krow.keepK kp (fun g' hg e => h.ne_vw g rfl (by rw [← e]; exact hg)), fun y hy => ?_, fun y hy => (h.okK y hy).keepK kp hu, by rw [List.length_set]; exact h.few, h.kfew, h.nxt, h.wnt, h.agn, fun i y hy => ?_, fun y hy => ?_⟩
  · rcases lm hy with hy | rfl
    · exact (h.okL y hy).keepK kp hu
    · exact (h.okL x xm).keepK kp hu
  · rw [List.length_set]
    by_cases hik : k = i
    · subst hik
      rw [List.getElem?_set_self hkl] at hy
      cases hy
      exact h.seqs k x hk
    · rw [List.getElem?_set_ne hik] at hy
      exact h.seqs i y hy
  · rcases lm hy with hy | rfl
    · exact h.ats y hy
    · exact h1

/-- while it is told. -/
structure OutD (base : Nat) (W : World) (b : Nat) (v w : Value) (s : Sc) (L : List Ls) (K : List Kr) (now : Int) (k : Nat) (pv : Value) (P : List Pk) (wr : World) : Prop where
  dl : DL base wr b v w s (outL now s.again L k) K
  row : wr.ownsRow W.heap.size 37 8 pv P.length (flat Pk.cs P)
  eq : P.map Pk.pu = (dueL' now s.again L k).map (puOf s)
  ok : ∀ x ∈ P, x.b.Ok wr
  kp : KP (FD b v w) W wr
theorem OutD.len {base : Nat} {W : World} {b : Nat} {v w : Value} {s : Sc} {L : List Ls} {K : List Kr} {now : Int} {k : Nat} {pv : Value} {P : List Pk} {wr : World} (h : OutD base W b v w s L K now k pv P wr) : P.length ≤ k := by
  have e := congrArg List.length h.eq
  rw [List.length_map, List.length_map] at e
  rw [e]
  unfold dueL'
  refine Nat.le_trans (List.length_filter_le _ _) ?_
  rw [List.length_take]
  omega
theorem OutD.no {base : Nat} {W : World} {b : Nat} {v w : Value} {s : Sc} {L : List Ls} {K : List Kr} {now : Int} {k : Nat} {pv : Value} {P : List Pk} {wr : World} (h : OutD base W b v w s L K now k pv P wr) {x : Ls} (hx : L[k]? = some x) (hd : dueB x.told x.at_ now s.again = false) : OutD base W b v w s L K now (k + 1) pv P wr := by
  obtain ⟨hk, rfl⟩ := List.getElem?_eq_some_iff.1 hx
  have e : outL now s.again L (k + 1) = outL now s.again L k := by
    rw [outL_succ now s.again L k hk]
    have e1 : upd now s.again L[k] = L[k] := by
      unfold upd
      rw [hd]
      rfl
    rw [e1]
    have h2 := outL_at now s.again L k hk
    have h3 := (List.getElem?_eq_some_iff.1 h2)
    obtain ⟨h4, h5⟩ := h3
    conv => lhs; arg 3; rw [← h5]
    exact List.set_getElem_self h4
  exact ⟨by rw [e]; exact h.dl, h.row, by rw [dueL_succ_no hk hd]; exact h.eq, h.ok, h.kp⟩
/-- the round's end. -/
theorem OutD.yes {base : Nat} {W : World} {b g o n cp : Nat} {w : Value} {s : Sc} {L : List Ls} {K : List Kr} {now : Int} {k : Nat} {pv pv' : Value} {P : List Pk} {w0 w1 w2 w3 : World} {x : Ls} {bd : Bd} (h : OutD base W b (.slice (some ⟨g, o, none⟩) n cp) w s L K now k pv P w0) (hn : L.length = n) (hx0 : L[k]? = some x) (hd : dueB x.told x.at_ now s.again = true)
    (hnow : -9223372036854775808 ≤ now ∧ now ≤ 9223372036854775807)
    (hw1 : (w0.setCell ⟨g, o + k * 4 + 2, none⟩ (.bool true)).setCell ⟨g, o + k * 4 + 3, none⟩ (.int .i64 now) = w1) (b2 : Below w1.heap.size w1 w2) (hbd : bd.Ok w2) (hB : bd.B = x.b.B)
    (row : w3.ownsRow W.heap.size 37 8 pv' (P.length + 1) (flat Pk.cs P ++ (Pk.cs ⟨s.mn, s.ml, s.pn, s.pl, x.seq, s.want, true, bd⟩).toList)) (g3 : w2.grownBy w3 pv.ownBlock) :
    OutD base W b (.slice (some ⟨g, o, none⟩) n cp) w s L K now (k + 1) pv' (P ++ [⟨s.mn, s.ml, s.pn, s.pl, x.seq, s.want, true, bd⟩]) w3 := by
  obtain ⟨hk, hx⟩ := List.getElem?_eq_some_iff.1 hx0
  have hol : (outL now s.again L k).length = n := by rw [outL_len, hn]
  have hat : (outL now s.again L k)[k]? = some x := by rw [outL_at now s.again L k hk, hx]
  obtain ⟨p1, k1⟩ := h.dl.tell hol hat now hnow
  rw [hw1] at p1 k1
  have e : (outL now s.again L k).set k { x with told := true, at_ := now } = outL now s.again L (k + 1) := by
    rw [outL_succ now s.again L k hk, hx]
    unfold upd
    rw [hd]
    rfl
  rw [e] at p1
  have p2 := p1.below b2
  have hrow : ∀ k, pv.ownBlock = some k → W.heap.size ≤ k ∧ k < w0.heap.size := fun k hk => h.row.lt k hk
  have k3 : KP (fun k => pv.ownBlock = some k) w2 w3 := KP.grown g3 fun k hk => hk
  have s1 := k1.size
  have s2 := b2.size
  have hbW := h.kp
  have pvT : ∀ g', pv.ownBlock = some g' → ∃ cur, w0.heap[g']? = some (.cells cur 37 (0, 0)) := fun g' hg => row_block h.row hg
  have pvW : ∀ g', pv.ownBlock = some g' → ∃ cur, w2.heap[g']? = some (.cells cur 37 (0, 0)) := fun g' hg => by
    obtain ⟨cur, hc⟩ := pvT g' hg
    obtain ⟨cu, hcu⟩ := h.dl.row.block g rfl
    have h1 := (k1.block g' (blt hc) (apart_of hc hcu (by decide))).trans hc
    exact ⟨cur, (b2.block g' (blt h1)).trans h1⟩
  have u8 : ∀ (g' : Nat) (cur : Array Value), w2.heap[g']? = some (.cells cur 5 (0, 0)) → ¬ (pv.ownBlock = some g') := fun g' cur hg hp => by
    obtain ⟨cu, hcu⟩ := pvW g' hp
    exact apart_of hg hcu (by decide) rfl
  refine ⟨p2.keepK k3 ?_ ?_ ?_ u8, ?_, ?_, fun y hy => ?_, ?_⟩
  · intro hp
    obtain ⟨cu, hcu⟩ := pvW b hp
    exact apart_of p2.lnk hcu (by decide) rfl
  · intro g' hg hp
    obtain ⟨cu, hcu⟩ := pvW g' hp
    obtain ⟨c2, h2⟩ := p2.row.block g' hg
    exact apart_of h2 hcu (by decide) rfl
  · intro g' hg hp
    obtain ⟨cu, hcu⟩ := pvW g' hp
    obtain ⟨c2, h2⟩ := p2.krow.block g' hg
    exact apart_of h2 hcu (by decide) rfl
  · rw [flat_append, List.length_append]
    have : flat Pk.cs [(⟨s.mn, s.ml, s.pn, s.pl, x.seq, s.want, true, bd⟩ : Pk)] = (Pk.cs ⟨s.mn, s.ml, s.pn, s.pl, x.seq, s.want, true, bd⟩).toList := by simp [flat]
    rw [this]
    exact row
  · rw [List.map_append, h.eq, dueL_succ_yes hk (by rw [hx]; exact hd), List.map_append, hx]
    congr 1
    simp [Pk.pu, puOf, hB]
  · rcases List.mem_append.1 hy with hy | hy
    · have u0 : ∀ (g' : Nat) (cur : Array Value), w0.heap[g']? = some (.cells cur 5 (0, 0)) → ¬ (g' = g) := fun g' cur hg e => by
        obtain ⟨cu, hcu⟩ := h.dl.row.block g rfl
        exact apart_of hg hcu (by decide) e
      exact (((h.ok y hy).keepK k1 u0).below b2).keepK k3 u8
    · obtain rfl : y = ⟨s.mn, s.ml, s.pn, s.pl, x.seq, s.want, true, bd⟩ := by simpa using hy
      exact hbd.keepK k3 u8
  · refine ((h.kp.trans (k1.mono (T := FD b (.slice (some ⟨g, o, none⟩) n cp) w) fun k hk => Or.inr (Or.inl (by rw [hk]; rfl))) fun _ _ h => h).trans ((KP.of_below b2).trans k3 fun _ _ h => h) fun k hk hp => ?_)
    have := (hrow k hp).1
    omega

end Go.Proofs.Ytgnfclikdfllnaa
