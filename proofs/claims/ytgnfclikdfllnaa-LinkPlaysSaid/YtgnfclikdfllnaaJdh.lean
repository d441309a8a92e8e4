/-
  The document's Hear, its plain side and what it shares. Condition: the link lies in memory.
-/
import Derived.Test.YtgnfclikdfllnaaJdk
import Derived.Test.YtgnfclikdfllnaaJah
namespace Go.Proofs.Ytgnfclikdfllnaa
set_option linter.unusedSimpArgs false
set_option linter.unusedVariables false
open Go.RowKit Go.Maps Go.Sort

/-- what is kept is ahead of what is wanted, by less than eight. -/
structure KW (w : Nat) (K : List Kr) : Prop where
  ap : K.Pairwise fun x y => x.seq ≠ y.seq
  rg : ∀ x ∈ K, w < x.seq ∧ x.seq < w + 8 ∧ x.seq ≤ 18446744073709551615
theorem KW.none {w : Nat} {K : List Kr} (h : KW w K) : fK K w = none := fK_out fun y hy => by have := (h.rg y hy).1; omega
theorem fKp_none {K : List Kr} {q : Nat} (h : fK K q = none) : fP (K.map Kr.p) q = none := by rw [fP_map, h]; rfl
theorem comeP_none {f : Nat} {K : List KPu} {w : Nat} (h : fP K w = none) : comeP f K w = (K, w, []) := by
  cases f with
  | zero => rfl
  | succ f => simp [comeP, h]
theorem hear_no {s : Sc} {L : List Ls} {K : List Kr} {p : Hp} (h : ¬ p.mine s) : hearP s L (K.map Kr.p) p = (s, L, K.map Kr.p, []) := by
  unfold hearP
  rw [if_neg h]
theorem hear_bare {s : Sc} {L : List Ls} {K : List Kr} {p : Hp} (h : p.mine s) (hh : p.has = false) : hearP s L (K.map Kr.p) p = (s, L.drop (ackN s.next p.ack L.length), K.map Kr.p, []) := by
  unfold hearP
  rw [if_pos h, if_neg (by simp [hh])]
/-- a body that is out of reach, or kept already. -/
theorem hear_same {s : Sc} {L : List Ls} {K : List Kr} {p : Hp} (h : p.mine s) (hh : p.has = true) (hK : KW s.want K) (hs : p.seq < s.want ∨ 8 ≤ p.seq - s.want ∨ (fK K p.seq).isSome = true) :
    hearP s L (K.map Kr.p) p = ({ s with owed := true }, L.drop (ackN s.next p.ack L.length), K.map Kr.p, []) := by
  have e : keepP s.want (K.map Kr.p) p.seq p.B = K.map Kr.p := by
    unfold keepP
    rw [if_pos]
    rw [fP_map]
    simpa using hs
  unfold hearP
  rw [if_pos h, if_pos hh, e, comeP_none (fKp_none hK.none)]
/-- a body that is kept from now on. -/
theorem hear_keep {s : Sc} {L : List Ls} {K : List Kr} {p : Hp} (h : p.mine s) (hh : p.has = true) (hK : KW s.want K) (h1 : s.want < p.seq) (h2 : p.seq - s.want < 8) (h3 : fK K p.seq = none) (x : Kr) (hx : x.p = (p.seq, p.B)) :
    hearP s L (K.map Kr.p) p = ({ s with owed := true }, L.drop (ackN s.next p.ack L.length), (K ++ [x]).map Kr.p, []) := by
  have e : keepP s.want (K.map Kr.p) p.seq p.B = (K ++ [x]).map Kr.p := by
    unfold keepP
    rw [if_neg]
    · rw [List.map_append, List.map_cons, hx]
      rfl
    · rw [fP_map, h3]
      simp
      omega
  have hn : fK (K ++ [x]) s.want = none := fK_out fun y hy => by
    rcases List.mem_append.1 hy with hy | hy
    · have := (hK.rg y hy).1
      omega
    · obtain rfl : y = x := by simpa using hy
      have : y.seq = p.seq := congrArg Prod.fst hx
      omega
  unfold hearP
  rw [if_pos h, if_pos hh, e, comeP_none (fKp_none hn)]
/-- the body that is wanted. -/
theorem hear_come {s : Sc} {L : List Ls} {K : List Kr} {p : Hp} (h : p.mine s) (hh : p.has = true) (hK : KW s.want K) (h1 : p.seq = s.want) (x : Kr) (hx : x.p = (p.seq, p.B)) :
    hearP s L (K.map Kr.p) p = ({ s with owed := true, want := (comeF K.length K (inc s.want)).2.1 }, L.drop (ackN s.next p.ack L.length), (comeF K.length K (inc s.want)).1.map Kr.p, (x :: (comeF K.length K (inc s.want)).2.2).map Kr.p) := by
  have e : keepP s.want (K.map Kr.p) p.seq p.B = (K ++ [x]).map Kr.p := by
    unfold keepP
    rw [if_neg]
    · rw [List.map_append, List.map_cons, hx]
      rfl
    · rw [fP_map, h1, hK.none]
      simp
  have hxs : x.seq = s.want := (congrArg Prod.fst hx).trans h1
  have hf : fK (K ++ [x]) s.want = some x := by
    unfold fK
    rw [List.find?_append]
    have := hK.none
    unfold fK at this
    rw [this]
    simp [hxs]
  have ho : outN (K ++ [x]) s.want = K := by
    unfold outN
    rw [List.filter_append]
    have e1 : K.filter (fun y => decide (y.seq ≠ s.want)) = K := List.filter_eq_self.2 fun y hy => by have := (hK.rg y hy).1; simp; omega
    rw [e1]
    simp [hxs]
  have hl : ((K ++ [x]).map Kr.p).length = K.length + 1 := by simp
  unfold hearP
  rw [if_pos h, if_pos hh, e, hl, comeP_map, comeF_some hf, ho]
theorem inc_small {w : Nat} (h : w < 18446744073709551615) : inc w = w + 1 := by unfold inc; omega
/-- how the kept ones stand while they come. -/
structure CW (w i : Nat) (K : List Kr) : Prop where
  ap : K.Pairwise fun x y => x.seq ≠ y.seq
  rg : ∀ x ∈ K, w + i < x.seq ∧ x.seq < w + 8 ∧ x.seq ≤ 18446744073709551615
theorem CW.step {w i u : Nat} {K : List Kr} {x : Kr} (h : CW w i K) (hu : u = (w + 1 + i) % 18446744073709551616) (hf : fK K u = some x) : CW w (i + 1) (outN K u) ∧ inc u = (w + 1 + (i + 1)) % 18446744073709551616 ∧ i < 7 := by
  obtain ⟨hx, hxu⟩ := fK_some hf
  have h1 := h.rg x hx
  have hlt : w + 1 + i ≤ 18446744073709551615 := by omega
  have hue : u = w + 1 + i := by omega
  refine ⟨⟨h.ap.filter _, fun y hy => ?_⟩, by unfold inc; omega, by omega⟩
  obtain ⟨h2, h3⟩ := mem_outN.1 hy
  have := h.rg y h2
  omega
/-- the same, once what came has come. -/
theorem comeF_KW : ∀ (f i w u : Nat) (K : List Kr), K.length ≤ f → CW w i K → u = (w + 1 + i) % 18446744073709551616 → w ≤ 18446744073709551615 → KW (comeF f K u).2.1 (comeF f K u).1 ∧ (comeF f K u).2.1 ≤ 18446744073709551615 ∧ (comeF f K u).1.length ≤ K.length
  | f, i, w, u, K, hl, hC, hu, hw => by
    cases hf : fK K u with
    | none =>
      rw [comeF_none hf]
      refine ⟨⟨hC.ap, fun x hx => ?_⟩, by show u ≤ _; omega, Nat.le_refl _⟩
      have h1 := hC.rg x hx
      have h2 := fK_none hf x hx
      show u < x.seq ∧ x.seq < u + 8 ∧ _
      have : w + 1 + i ≤ 18446744073709551615 := by omega
      omega
    | some x =>
      obtain ⟨hx, hxu⟩ := fK_some hf
      obtain ⟨h1, h2, h3⟩ := hC.step hu hf
      have hlen := outN_len hC.ap hx
      rw [hxu] at hlen
      cases f with
      | zero => omega
      | succ f =>
        rw [comeF_some hf]
        obtain ⟨r1, r2, r3⟩ := comeF_KW f (i + 1) w (inc u) (outN K u) (by omega) h1 h2 hw
        exact ⟨r1, r2, by show (comeF f (outN K u) (inc u)).1.length ≤ _; omega⟩
theorem KW.cw {w : Nat} {K : List Kr} (h : KW w K) : CW w 0 K := ⟨h.ap, fun x hx => by have := h.rg x hx; omega⟩
/-- while it is heard. -/
structure HJ (base : Nat) (W : World) (b : Nat) (v w : Value) (s : Sc) (K : List Kr) (p : Hp) (XA : Option Addr) (xc : Nat) (v' : Value) (L' : List Ls) (wr : World) : Prop where
  dl : DL base wr b v' w s L' K
  pk : wr.heap[W.heap.size]? = some (.cells (p.cs XA xc) 37 (0, 0))
  x : BytesAt wr base XA p.B
  kp : KP (FD b v w) W wr
  hv : v'.ownBlock = v.ownBlock
theorem HJ.below {base : Nat} {W : World} {b : Nat} {v w : Value} {s : Sc} {K : List Kr} {p : Hp} {XA : Option Addr} {xc : Nat} {v' : Value} {L' : List Ls} {wr wz : World} (h : HJ base W b v w s K p XA xc v' L' wr) (hb : Below wr.heap.size wr wz) (hbase : base ≤ wr.heap.size) : HJ base W b v w s K p XA xc v' L' wz :=
  ⟨h.dl.below hb, (hb.block _ (blt h.pk)).trans h.pk, h.x.below hb hbase (Nat.le_refl _), h.kp.trans (KP.of_below hb) fun _ _ h => h, h.hv⟩
theorem HJ.base {base : Nat} {W : World} {b : Nat} {v w : Value} {s : Sc} {K : List Kr} {p : Hp} {XA : Option Addr} {xc : Nat} {v' : Value} {L' : List Ls} {wr : World} (h : HJ base W b v w s K p XA xc v' L' wr) : base ≤ wr.heap.size := by
  have := h.dl.hb
  have := blt h.dl.lnk
  omega
theorem HJ.owe {base : Nat} {W : World} {b : Nat} {v w : Value} {s : Sc} {K : List Kr} {p : Hp} {XA : Option Addr} {xc : Nat} {v' : Value} {L' : List Ls} {wr : World} (h : HJ base W b v w s K p XA xc v' L' wr) (o : Bool) : HJ base W b v w { s with owed := o } K p XA xc v' L' (wr.setCell ⟨b, 9, none⟩ (.bool o)) :=
  ⟨h.dl.owe o, (Below.heap_setCell _ _ _ _ (fun e => apart_of h.pk h.dl.lnk (by decide) e)).trans h.pk, h.x.keep (Nat.le_refl _) fun k i hk => World.cell?_setCell_far _ _ _ _ (by have := h.dl.hb; show b ≠ k; omega), h.kp.trans (KP.set (S := fun k => k = b) wr b 9 _ rfl) fun k _ hk => Or.inl hk, h.hv⟩
/-- the first one that waits is let go. -/
theorem HJ.step {base : Nat} {W : World} {b : Nat} {v w : Value} {s : Sc} {K : List Kr} {p : Hp} {XA : Option Addr} {xc : Nat} {g o o' n c : Nat} {x : Ls} {L' : List Ls} {wr : World} (h : HJ base W b v w s K p XA xc (.slice (some ⟨g, o, none⟩) (n + 1) (c + 1)) (x :: L') wr) (hn : L'.length = n) (ho : (c = 0 ∧ o' = o) ∨ (0 < c ∧ o' = o + 4)) :
    HJ base W b v w s K p XA xc (.slice (some ⟨g, o', none⟩) n c) L' (wr.setCell ⟨b, 7, none⟩ (.slice (some ⟨g, o', none⟩) n c)) := by
  have hd := h.dl
  have kp : KP (fun k => k = b) wr (wr.setCell ⟨b, 7, none⟩ (.slice (some ⟨g, o', none⟩) n c)) := KP.set (S := fun k => k = b) wr b 7 _ rfl
  have hu : ∀ (g' : Nat) (cur : Array Value), wr.heap[g']? = some (.cells cur 5 (0, 0)) → ¬ (g' = b) := fun g' cur hg e => hd.u8 g' cur hg (Or.inl e)
  have row : RowO wr 88 4 (.slice (some ⟨g, o', none⟩) n c) L'.length (flat Ls.cs L') := by
    have hr := hd.row
    refine ⟨flat_len Ls.sz L', ?_⟩
    rcases hr.2 with ⟨h0, _⟩ | ⟨g', o2, cap, cu, h1, hg, h2, h3, h4, h5⟩
    · cases h0
    · have e : Value.slice (some ⟨g, o, none⟩) (n + 1) (c + 1) = .slice (some ⟨g', o2, none⟩) (x :: L').length cap := h1
      injection e with e1 e2 e3
      injection e1 with e1
      injection e1 with e4 e5 _
      subst e4 e5 e3
      refine .inr ⟨g, o', c, cu, by rw [hn], hg, by rw [List.length_cons] at h2; omega, by unfold maxLen at h3 ⊢; omega, by omega, fun j u hu' => ?_⟩
      have hj := (List.getElem?_eq_some_iff.1 hu').1
      rw [flat_len Ls.sz] at hj
      have hc : 0 < c := by
        rw [List.length_cons] at h2
        have : 0 < L'.length := by
          rcases Nat.eq_zero_or_pos L'.length with h | h
          · rw [h] at hj
            omega
          · exact h
        omega
      have ho' : o' = o + 4 := by omega
      rw [ho', Nat.add_assoc]
      refine h5 (4 + j) u ?_
      rw [flat_cons, List.getElem?_append_right (by simp [Ls.cs])]
      simp [Ls.cs]
      exact hu'
  have hx2 : BytesAt (wr.setCell ⟨b, 7, none⟩ (.slice (some ⟨g, o', none⟩) n c)) base XA p.B := h.x.keep (Nat.le_refl _) fun k i hk => World.cell?_setCell_far _ _ _ _ (by have := hd.hb; show b ≠ k; omega)
  refine ⟨⟨hd.hb, hd.hv, hd.hw, (row_set hd.lnk _).trans rfl, row.keepK kp hd.ne_bv, hd.krow.keepK kp hd.ne_bw, fun y hy => (hd.okL y (List.mem_cons_of_mem _ hy)).keepK kp hu, fun y hy => (hd.okK y hy).keepK kp hu, by have := hd.few; rw [List.length_cons] at this; omega, hd.kfew, hd.nxt, hd.wnt, hd.agn, fun i y hy => ?_, fun y hy => hd.ats y (List.mem_cons_of_mem _ hy)⟩, ?_, hx2, h.kp.trans kp fun k _ hk => Or.inl hk, h.hv⟩
  · have := hd.seqs (i + 1) y (by simpa using hy)
    rw [List.length_cons] at this
    omega
  · exact (kp.block _ (blt h.pk) (fun e => apart_of h.pk hd.lnk (by decide) e)).trans h.pk
def HearDR (base : Nat) (W : World) (b : Nat) (v w : Value) (s : Sc) (L : List Ls) (K : List Kr) (p : Hp) (e : Ending) (W' : World) : Prop :=
  ∃ (dv v' w' : Value) (K' D : List Kr), e = .returned dv ∧ W'.ownsRow W.heap.size 35 1 dv D.length (bvs D) ∧ (∀ x ∈ D, x.b.Ok W') ∧ DL base W' b v' w' (hearP s L (K.map Kr.p) p).1 (hearP s L (K.map Kr.p) p).2.1 K' ∧
    K'.map Kr.p = (hearP s L (K.map Kr.p) p).2.2.1 ∧ D.map Kr.p = (hearP s L (K.map Kr.p) p).2.2.2 ∧ KP (FD b v w) W W'
theorem neqRP (a b c d : Int) (r : Bool) (hr : decide (a = c ∧ b = d) = r) (W : World) : (binOp .neq 24 (.agg #[.int .u8 a, .int .u16 b]) (.agg #[.int .u8 c, .int .u16 d])).run Try.prog W = .ok (.bool (!r)) W := by
  subst hr
  go_simp
  by_cases h1 : a = c <;> by_cases h2 : b = d <;> simp [h1, h2]

end Go.Proofs.Ytgnfclikdfllnaa
