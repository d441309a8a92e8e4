/-
  Send of the program's link, with where its row then lies. Condition: the link lies in memory.
-/
import Derived.Test.YtnagbiicpecamaaJqi
namespace Go.Proofs.Ytnagbiicpecamaa
set_option linter.unusedSimpArgs false
set_option linter.unusedVariables false
open Go.RowKit Go.Maps Go.Sort

theorem sendPA (base : Nat) (W : World) (b m : Nat) (v : Value) (c : Nat) (s : Sc) (L : List Ls) (K : List Kr) (h : PL base W b m v c s L K) (XA : Option Addr) (X : List UInt8) (xc : Nat) (hx : BytesAt W W.heap.size XA X) (hl : X.length ≤ 1000000) (hc : X.length ≤ xc) (hm : xc ≤ maxLen) :
    Calls Try.prog 11 #[.pointer (some ⟨b, 0, none⟩), .slice XA X.length xc] W fun e W' => e = .returned (.int .i64 (fSendR s L.length)) ∧ ∃ v' L', PL base W' b m v' c (sSend s L.length) L' K ∧ KP (FP b m v) W W' ∧ L'.map Ls.p = lSend s (L.map Ls.p) X ∧ (v'.ownBlock = v.ownBlock ∨ ∃ g, v'.ownBlock = some g ∧ W.heap.size ≤ g) := by
  by_cases h1 : s.next = 18446744073709551615
  · refine (send_full base W b m v c s L K h XA X xc h1).mono fun e W' ⟨he, hw⟩ => ?_
    subst hw
    have e1 : fSendR s L.length = 11 := by unfold fSendR; rw [if_pos h1]
    refine ⟨by rw [he, e1], v, L, ?_, KP.refl _ _, ?_, Or.inl rfl⟩
    · unfold sSend
      rw [e1, if_neg (by decide)]
      exact h
    · unfold lSend
      rw [List.length_map, e1, if_neg (by decide)]
  · by_cases h2 : 32 ≤ L.length
    · refine (send_busy base W b m v c s L K h XA X xc ⟨h1, h2⟩).mono fun e W' ⟨he, hw⟩ => ?_
      subst hw
      have e1 : fSendR s L.length = 10 := by unfold fSendR; rw [if_neg h1, if_pos h2]
      refine ⟨by rw [he, e1], v, L, ?_, KP.refl _ _, ?_, Or.inl rfl⟩
      · unfold sSend
        rw [e1, if_neg (by decide)]
        exact h
      · unfold lSend
        rw [List.length_map, e1, if_neg (by decide)]
    · refine (send_ok base W b m v c s L K h XA X xc hx hl hc hm h1 (by omega)).mono fun e W' ⟨he, x, v', x1, x2, x3, x4, hp, hk, hv⟩ => ?_
      have e1 : fSendR s L.length = 0 := by unfold fSendR; rw [if_neg h1, if_neg h2]
      refine ⟨by rw [he, e1], v', L ++ [x], ?_, hk, ?_, hv⟩
      · unfold sSend
        rw [e1, if_pos rfl]
        exact hp
      · unfold lSend
        rw [List.length_map, e1, if_pos rfl, List.map_append]
        simp [Ls.p, x1, x2, x3, x4]

end Go.Proofs.Ytnagbiicpecamaa
