/-
  The walk of the law LinkPlays. Condition: the acts lie in memory.
-/
import Derived.Test.YtgnfclikdfllnaaJpj
namespace Go.Proofs.Ytgnfclikdfllnaa
set_option linter.unusedSimpArgs false
set_option linter.unusedVariables false
open Go.RowKit Go.Maps Go.Sort

theorem comeP_len : ∀ (f : Nat) (K : List KPu) (w : Nat), (comeP f K w).2.2.length ≤ f
  | 0, K, w => Nat.le_refl _
  | f + 1, K, w => by
    unfold comeP
    split
    · exact Nat.zero_le _
    · have := comeP_len f (outP K w) (inc w)
      simp only [List.length_cons]
      omega
theorem hear_len {α : Type} (s : Sc) (L : List α) (K : List KPu) (p : Hp) : (hearP s L K p).2.2.2.length ≤ K.length + 1 := by
  unfold hearP
  split
  · split
    · refine Nat.le_trans (comeP_len _ _ _) ?_
      unfold keepP
      split
      · exact Nat.le_succ _
      · simp
    · exact Nat.zero_le _
  · exact Nat.zero_le _
theorem PL.nf {base : Nat} {W : World} {b m : Nat} {v : Value} {c : Nat} {s : Sc} {L : List Ls} {K : List Kr} (h : PL base W b m v c s L K) {g : Nat} {cu : Array Value} {t : TypeId} (hg : W.heap[g]? = some (.cells cu t (0, 0))) (h1 : t ≠ 82) (h2 : t ≠ 86) : ¬ FP b m v g := by
  obtain ⟨es', cl', hmm'⟩ := h.ml
  rintro (e | e | e)
  · exact apart_of hg h.lnk h1 e
  · rw [e, hmm'] at hg
    cases hg
  · obtain ⟨c2, hc⟩ := h.row.block g e
    exact apart_of hg hc h2 rfl
theorem DL.nf {base : Nat} {W : World} {b : Nat} {v w : Value} {s : Sc} {L : List Ls} {K : List Kr} (h : DL base W b v w s L K) {g : Nat} {cu : Array Value} {t : TypeId} (hg : W.heap[g]? = some (.cells cu t (0, 0))) (h1 : t ≠ 60) (h2 : t ≠ 88) (h3 : t ≠ 98) : ¬ FD b v w g := by
  rintro (e | e | e)
  · exact apart_of hg h.lnk h1 e
  · obtain ⟨c2, hc⟩ := h.row.block g e
    exact apart_of hg hc h2 rfl
  · obtain ⟨c2, hc⟩ := h.krow.block g e
    exact apart_of hg hc h3 rfl
theorem sSend_want (s : Sc) (n : Nat) : (sSend s n).want = s.want := by
  unfold sSend
  split <;> rfl
theorem JB.sent {W0 : World} {bx mx : Nat} {v : Value} {s : Sc} {L : List Ls} {K : List Kr} {bd : Nat} {v2 w2 : Value} {L2 : List Ls} {K2 : List Kr} {i : Nat} {W3 W4 W5 : World} (h : JB W0 bx mx v s L K bd v2 w2 L2 K2 i W3) {v' v2' : Value} {L' L2' : List Ls} {X : List UInt8} (p4 : PL W0.heap.size W4 bx mx v' i (sSend s L.length) L' K) (k4 : KP (FP bx mx v) W3 W4) (e4 : L'.map Ls.p = lSend s (L.map Ls.p) X)
    (d5 : DL W0.heap.size W5 bd v2' w2 (sSend s L2.length) L2' K2) (k5 : KP (FD bd v2 w2) W4 W5) (e5 : L2'.map Ls.p = lSend s (L2.map Ls.p) X) : JB W0 bx mx v' (sSend s L.length) L' K bd v2' w2 L2' K2 (i + 1) W5 := by
  have hl := lp_len h.eL
  have d4 := h.dl.over h.pl k4
  have b4 := h.pl.kbelow k4 h.bl.size
  have b5 := d4.kbelow k5 (Nat.le_trans h.bl.size k4.size)
  refine ⟨(p4.over d4 k5).mono (Nat.le_succ _), by rw [hl]; exact d5, by rw [e4, e5, h.eL], h.eK, by rw [sSend_want]; exact h.kw, Nat.le_succ_of_le h.kn, h.bl.trans (b4.trans b5)⟩
theorem JB.outd {W0 : World} {bx mx : Nat} {v : Value} {s : Sc} {L : List Ls} {K : List Kr} {bd : Nat} {v2 w2 : Value} {L2 : List Ls} {K2 : List Kr} {i : Nat} {W3 W4 W5 : World} (h : JB W0 bx mx v s L K bd v2 w2 L2 K2 i W3) {now : Int} (p4 : PL W0.heap.size W4 bx mx v i { s with owed := false } (outL now s.again L 8) K) (k4 : KP (FP bx mx v) W3 W4)
    (d5 : DL W0.heap.size W5 bd v2 w2 { s with owed := false } (outL now s.again L2 8) K2) (k5 : KP (FD bd v2 w2) W4 W5) : JB W0 bx mx v { s with owed := false } (outL now s.again L 8) K bd v2 w2 (outL now s.again L2 8) K2 (i + 1) W5 := by
  have d4 := h.dl.over h.pl k4
  have b4 := h.pl.kbelow k4 h.bl.size
  have b5 := d4.kbelow k5 (Nat.le_trans h.bl.size k4.size)
  exact ⟨(p4.over d4 k5).mono (Nat.le_succ _), d5, outL_p h.eL 8, h.eK, h.kw, Nat.le_succ_of_le h.kn, h.bl.trans (b4.trans b5)⟩
theorem JB.heard {W0 : World} {bx mx : Nat} {v : Value} {s : Sc} {L : List Ls} {K : List Kr} {bd : Nat} {v2 w2 : Value} {L2 : List Ls} {K2 : List Kr} {i : Nat} {W3 W4 W5 : World} (h : JB W0 bx mx v s L K bd v2 w2 L2 K2 i W3) {p : Hp} {v' v2' w2' : Value} {K' K2' : List Kr} (hq : p.seq ≤ 18446744073709551615) (p4 : PL W0.heap.size W4 bx mx v' (i + 1) (hearP s L (K.map Kr.p) p).1 (hearP s L (K.map Kr.p) p).2.1 K') (k4 : KP (FP bx mx v) W3 W4) (e4 : K'.map Kr.p = (hearP s L (K.map Kr.p) p).2.2.1)
    (d5 : DL W0.heap.size W5 bd v2' w2' (hearP s L2 (K2.map Kr.p) p).1 (hearP s L2 (K2.map Kr.p) p).2.1 K2') (k5 : KP (FD bd v2 w2) W4 W5) (e5 : K2'.map Kr.p = (hearP s L2 (K2.map Kr.p) p).2.2.1) :
    JB W0 bx mx v' (hearP s L (K.map Kr.p) p).1 (hearP s L (K.map Kr.p) p).2.1 K' bd v2' w2' (hearP s L2 (K.map Kr.p) p).2.1 K2' (i + 1) W5 ∧ (hearP s L (K.map Kr.p) p).2.2.2 = (hearP s L2 (K2.map Kr.p) p).2.2.2 := by
  have d4 := h.dl.over h.pl k4
  have b4 := h.pl.kbelow k4 h.bl.size
  have b5 := d4.kbelow k5 (Nat.le_trans h.bl.size k4.size)
  obtain ⟨q1, q2, q3⟩ := hear_p (s := s) (K := K.map Kr.p) (p := p) h.eL
  rw [← h.eK] at d5 e5
  obtain ⟨r1, r2⟩ := hear_KW h.kw h.pl.wnt hq e4
  refine ⟨⟨p4.over d4 k5, by rw [q1]; exact d5, q2, by rw [e4, e5, q3], r1, by have := h.kn; omega, h.bl.trans (b4.trans b5)⟩, ?_⟩
  rw [← h.eK, q3]

end Go.Proofs.Ytgnfclikdfllnaa
