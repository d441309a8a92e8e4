/-
  The program's Out: by an exact answer. Condition: the link lies in memory.
-/
import Derived.Test.YtnagbiicpecamaaJot
namespace Go.Proofs.Ytnagbiicpecamaa
set_option linter.unusedSimpArgs false
set_option linter.unusedVariables false
open Go.RowKit Go.Maps Go.Sort

/-- while it is told. -/
structure OutJ (base : Nat) (W : World) (b m : Nat) (v : Value) (c : Nat) (s : Sc) (L : List Ls) (K : List Kr) (now : Int) (k : Nat) (pv : Value) (P : List Pk) (wr : World) : Prop where
  pl : PL base wr b m v c s (outL now s.again L k) K
  row : wr.ownsRow W.heap.size 46 8 pv P.length (flat Pk.cs P)
  eq : P.map Pk.pu = (dueL' now s.again L k).map (puOf s)
  ok : ∀ x ∈ P, x.b.Ok wr
  kp : KP (FP b m v) W wr
theorem OutJ.len {base : Nat} {W : World} {b m : Nat} {v : Value} {c : Nat} {s : Sc} {L : List Ls} {K : List Kr} {now : Int} {k : Nat} {pv : Value} {P : List Pk} {wr : World} (h : OutJ base W b m v c s L K now k pv P wr) : P.length ≤ k := by
  have e := congrArg List.length h.eq
  rw [List.length_map, List.length_map] at e
  rw [e]
  unfold dueL'
  refine Nat.le_trans (List.length_filter_le _ _) ?_
  rw [List.length_take]
  omega
/-- the plain answer. -/
def fOut (s : Sc) (now : Int) (L : List Ls) : List Pu :=
  if (dueL' now s.again L 8).length = 0 ∧ s.owed = true then [(s.mn, s.ml, s.pn, s.pl, 0, s.want, false, [])] else (dueL' now s.again L 8).map (puOf s)
theorem OutJ.no {base : Nat} {W : World} {b m : Nat} {v : Value} {c : Nat} {s : Sc} {L : List Ls} {K : List Kr} {now : Int} {k : Nat} {pv : Value} {P : List Pk} {wr : World} (h : OutJ base W b m v c s L K now k pv P wr) {x : Ls} (hx : L[k]? = some x) (hd : dueB x.told x.at_ now s.again = false) : OutJ base W b m v c s L K now (k + 1) pv P wr := by
  obtain ⟨hk, rfl⟩ := List.getElem?_eq_some_iff.1 hx
  have e : outL now s.again L (k + 1) = outL now s.again L k := by
    rw [outL_succ now s.again L k hk]
    have e1 : upd now s.again L[k] = L[k] := by
      unfold upd
      rw [hd]
      rfl
    rw [e1]
    have h2 := outL_at now s.again L k hk
    have h3 := (List.getElem?_eq_some_iff.1 h2)
    obtain ⟨h4, h5⟩ := h3
    conv => lhs; arg 3; rw [← h5]
    exact List.set_getElem_self h4
  exact ⟨by rw [e]; exact h.pl, h.row, by rw [dueL_succ_no hk hd]; exact h.eq, h.ok, h.kp⟩

/-- the round's end. -/
theorem OutJ.yes {base : Nat} {W : World} {b m g o n cp : Nat} {c : Nat} {s : Sc} {L : List Ls} {K : List Kr} {now : Int} {k : Nat} {pv pv' : Value} {P : List Pk} {w0 w1 w2 w3 : World} {x : Ls} {bd : Bd} (h : OutJ base W b m (.slice (some ⟨g, o, none⟩) n cp) c s L K now k pv P w0) (hn : L.length = n) (hx0 : L[k]? = some x) (hd : dueB x.told x.at_ now s.again = true)
    (hnow : -9223372036854775808 ≤ now ∧ now ≤ 9223372036854775807)
    (hw1 : (w0.setCell ⟨g, o + k * 4 + 2, none⟩ (.bool true)).setCell ⟨g, o + k * 4 + 3, none⟩ (.int .i64 now) = w1) (b2 : Below w1.heap.size w1 w2) (hbd : bd.Ok w2) (hB : bd.B = x.b.B)
    (row : w3.ownsRow W.heap.size 46 8 pv' (P.length + 1) (flat Pk.cs P ++ (Pk.cs ⟨s.mn, s.ml, s.pn, s.pl, x.seq, s.want, true, bd⟩).toList)) (g3 : w2.grownBy w3 pv.ownBlock) :
    OutJ base W b m (.slice (some ⟨g, o, none⟩) n cp) c s L K now (k + 1) pv' (P ++ [⟨s.mn, s.ml, s.pn, s.pl, x.seq, s.want, true, bd⟩]) w3 := by
  obtain ⟨hk, hx⟩ := List.getElem?_eq_some_iff.1 hx0
  have hol : (outL now s.again L k).length = n := by rw [outL_len, hn]
  have hat : (outL now s.again L k)[k]? = some x := by rw [outL_at now s.again L k hk, hx]
  obtain ⟨p1, k1⟩ := h.pl.tell hol hat now hnow
  rw [hw1] at p1 k1
  have e : (outL now s.again L k).set k { x with told := true, at_ := now } = outL now s.again L (k + 1) := by
    rw [outL_succ now s.again L k hk, hx]
    unfold upd
    rw [hd]
    rfl
  rw [e] at p1
  have p2 := p1.below b2
  have hrow : ∀ k, pv.ownBlock = some k → W.heap.size ≤ k ∧ k < w0.heap.size := fun k hk => h.row.lt k hk
  have k3 : KP (fun k => pv.ownBlock = some k) w2 w3 := KP.grown g3 fun k hk => hk
  have s1 := k1.size
  have s2 := b2.size
  have hbW := h.kp
  obtain ⟨es, cl, hm0⟩ := h.pl.ml
  have pvT : ∀ g', pv.ownBlock = some g' → ∃ cur, w0.heap[g']? = some (.cells cur 46 (0, 0)) := fun g' hg => row_block h.row hg
  have pvW : ∀ g', pv.ownBlock = some g' → ∃ cur, w2.heap[g']? = some (.cells cur 46 (0, 0)) := fun g' hg => by
    obtain ⟨cur, hc⟩ := pvT g' hg
    obtain ⟨cu, hcu⟩ := h.pl.row.block g rfl
    have h1 := (k1.block g' (blt hc) (apart_of hc hcu (by decide))).trans hc
    exact ⟨cur, (b2.block g' (blt h1)).trans h1⟩
  have u8 : ∀ (g' : Nat) (cur : Array Value), w2.heap[g']? = some (.cells cur 5 (0, 0)) → ¬ (pv.ownBlock = some g') := fun g' cur hg hp => by
    obtain ⟨cu, hcu⟩ := pvW g' hp
    exact apart_of hg hcu (by decide) rfl
  refine ⟨p2.keepK k3 ?_ ?_ ?_ u8, ?_, ?_, fun y hy => ?_, ?_⟩
  · intro hp
    obtain ⟨cu, hcu⟩ := pvW b hp
    exact apart_of p2.lnk hcu (by decide) rfl
  · intro hp
    obtain ⟨cu, hcu⟩ := pvW m hp
    obtain ⟨es, cl, hm⟩ := p2.ml
    rw [hm] at hcu
    cases hcu
  · intro g' hg hp
    obtain ⟨cu, hcu⟩ := pvW g' hp
    obtain ⟨c2, h2⟩ := p2.row.block g' hg
    exact apart_of h2 hcu (by decide) rfl
  · rw [flat_append, List.length_append]
    have : flat Pk.cs [(⟨s.mn, s.ml, s.pn, s.pl, x.seq, s.want, true, bd⟩ : Pk)] = (Pk.cs ⟨s.mn, s.ml, s.pn, s.pl, x.seq, s.want, true, bd⟩).toList := by simp [flat]
    rw [this]
    exact row
  · rw [List.map_append, h.eq, dueL_succ_yes hk (by rw [hx]; exact hd), List.map_append, hx]
    congr 1
    simp [Pk.pu, puOf, hB]
  · rcases List.mem_append.1 hy with hy | hy
    · have u0 : ∀ (g' : Nat) (cur : Array Value), w0.heap[g']? = some (.cells cur 5 (0, 0)) → ¬ (g' = g) := fun g' cur hg e => by
        obtain ⟨cu, hcu⟩ := h.pl.row.block g rfl
        exact apart_of hg hcu (by decide) e
      exact (((h.ok y hy).keepK k1 u0).below b2).keepK k3 u8
    · obtain rfl : y = ⟨s.mn, s.ml, s.pn, s.pl, x.seq, s.want, true, bd⟩ := by simpa using hy
      exact hbd.keepK k3 u8
  · refine ((h.kp.trans (k1.mono (T := FP b m (.slice (some ⟨g, o, none⟩) n cp)) fun k hk => Or.inr (Or.inr (by rw [hk]; rfl))) fun _ _ h => h).trans ((KP.of_below b2).trans k3 fun _ _ h => h) fun k hk hp => ?_)
    have := (hrow k hp).1
    omega

end Go.Proofs.Ytnagbiicpecamaa
