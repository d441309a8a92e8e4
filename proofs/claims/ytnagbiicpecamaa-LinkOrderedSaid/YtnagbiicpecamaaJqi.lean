/-
  The field of the law LinkOrdered: sent and told, in plain lists. Plain mathematics.
-/
import Derived.Test.YtnagbiicpecamaaJqh
namespace Go.Proofs.Ytnagbiicpecamaa
set_option linter.unusedSimpArgs false
set_option linter.unusedVariables false
open Go.RowKit Go.Maps Go.Sort

theorem Fz.tick {F : Nat} {y : Fc} {a c a' c' : Nat} (h : Fz F y a c a' c') {t : Int} (ht : y.now ≤ t) : Fz F { y with now := t } a c a' c' :=
  ⟨h.fl.later ht, h.c1, h.c0, h.n0, h.n1, h.sm⟩
theorem Fz.fly {F : Nat} {y : Fc} {a c a' c' : Nat} (h : Fz F y a c a' c') (P : List Pk) : Fz F { y with P := P } a c a' c' :=
  ⟨h.fl, h.c1, h.c0, h.n0, h.n1, h.sm⟩
theorem lSend_p {s : Sc} {L : List Ls} {X : List UInt8} : lSend s (L.map Ls.p) X = if fSendR s L.length = 0 then L.map Ls.p ++ [(s.next, X, false, 0)] else L.map Ls.p := by
  unfold lSend
  rw [List.length_map]
theorem sSend_mn (s : Sc) (n : Nat) : (sSend s n).mn = s.mn := by
  unfold sSend
  split <;> rfl
theorem Fz.send0 {F : Nat} {y y' : Fc} {a c a' c' : Nat} (h : Fz F y a c a' c') (hn : 0 ≤ y.now) {X : List UInt8} (hr : fSendR y.s0 y.L0.length = 0) {L' : List Ls} (eL : L'.map Ls.p = lSend y.s0 (y.L0.map Ls.p) X) (hs : F + y.S0.length + 1 < 18446744073709551615)
    (hy : y' = { y with s0 := sSend y.s0 y.L0.length, L0 := L', S0 := y.S0 ++ [X] }) : Fz F y' a c a' c' := by
  have hr' : fSendR y.e0.s y.e0.L.length = 0 := by
    show fSendR y.s0 (y.L0.map Ls.p).length = 0
    rw [List.length_map]
    exact hr
  have q := h.fl.send hn X hr'
  have e1 : y'.e0 = y.e0.send X := by
    rw [hy]
    show En.mk (sSend y.s0 y.L0.length) (L'.map Ls.p) _ = En.mk (sSend y.s0 (y.L0.map Ls.p).length) (lSend y.s0 (y.L0.map Ls.p) X) _
    rw [List.length_map, eL]
    rfl
  have e0 : y'.e1 = y.e1 := by rw [hy]; rfl
  refine ⟨?_, ?_, ?_, ?_, ?_, ?_⟩
  · rw [e1, e0, hy]
    exact q
  · rw [hy]
    show y.C1 = (y.S0 ++ [X]).take c
    rw [List.take_append_of_le_length h.fl.d.cS]
    exact h.c1
  · rw [hy]
    exact h.c0
  · rw [hy]
    show (sSend y.s0 y.L0.length).mn ≠ 2
    rw [sSend_mn]
    exact h.n0
  · rw [hy]
    exact h.n1
  · rw [hy]
    have h1 := h.sm
    have h2 : (y.S0 ++ [X]).length = y.S0.length + 1 := by simp
    exact ⟨by show F + (y.S0 ++ [X]).length < _; omega, h1.2⟩
theorem Fz.nosend0 {F : Nat} {y y' : Fc} {a c a' c' : Nat} (h : Fz F y a c a' c') {X : List UInt8} (hr : fSendR y.s0 y.L0.length ≠ 0) {L' : List Ls} (eL : L'.map Ls.p = lSend y.s0 (y.L0.map Ls.p) X)
    (hy : y' = { y with s0 := sSend y.s0 y.L0.length, L0 := L' }) : Fz F y' a c a' c' := by
  have e2 : sSend y.s0 y.L0.length = y.s0 := by unfold sSend; rw [if_neg hr]
  have e3 : L'.map Ls.p = y.L0.map Ls.p := by rw [eL, lSend_p, if_neg hr]
  have e1 : y'.e0 = y.e0 := by
    rw [hy]
    show En.mk (sSend y.s0 y.L0.length) (L'.map Ls.p) _ = En.mk y.s0 (y.L0.map Ls.p) _
    rw [e2, e3]
  have e0 : y'.e1 = y.e1 := by rw [hy]; rfl
  refine ⟨?_, ?_, ?_, ?_, ?_, ?_⟩
  · rw [e1, e0, hy]
    exact h.fl
  · rw [hy]
    exact h.c1
  · rw [hy]
    exact h.c0
  · rw [hy]
    show (sSend y.s0 y.L0.length).mn ≠ 2
    rw [sSend_mn]
    exact h.n0
  · rw [hy]
    exact h.n1
  · rw [hy]
    exact h.sm
theorem Fz.out0 {F : Nat} {y y' : Fc} {a c a' c' : Nat} (h : Fz F y a c a' c') (hy : y' = { y with s0 := { y.s0 with owed := false }, L0 := outL y.now y.s0.again y.L0 8 }) : Fz F y' a c a' c' ∧ y'.e0 = y.e0.out y.now ∧ y'.e1 = y.e1 := by
  have q := h.fl.out
  have e1 : y'.e0 = y.e0.out y.now := by
    rw [hy]
    show En.mk _ ((outL y.now y.s0.again y.L0 8).map Ls.p) _ = En.mk _ (outLp y.now y.s0.again (y.L0.map Ls.p) 8) _
    rw [outL_lp]
    rfl
  have e0 : y'.e1 = y.e1 := by rw [hy]; rfl
  refine ⟨⟨?_, ?_, ?_, ?_, ?_, ?_⟩, e1, e0⟩
  · rw [e1, e0, hy]
    exact q
  · rw [hy]
    exact h.c1
  · rw [hy]
    exact h.c0
  · rw [hy]
    exact h.n0
  · rw [hy]
    exact h.n1
  · rw [hy]
    exact h.sm
theorem Fz.told0 {F : Nat} {y : Fc} {a c a' c' : Nat} (h : Fz F y a c a' c') {P : List Pk} (hP : P.map Pk.pu = fOut y.s0 y.now y.L0) : ∀ x ∈ P, Good F y.S0 c' x.hp ∧ x.hp.mine y.s1 := by
  intro x hx
  have h1 : x.hp.pu ∈ fOutP y.s0 y.now (y.L0.map Ls.p) := by
    rw [← fOut_lp, ← hP]
    exact List.mem_map_of_mem hx
  obtain ⟨g1, g2, _⟩ := h.fl.told (p := x.hp) h1
  exact ⟨g1, g2⟩
theorem Fz.send1 {F : Nat} {y y' : Fc} {a c a' c' : Nat} (h : Fz F y a c a' c') (hn : 0 ≤ y.now) {X : List UInt8} (hr : fSendR y.s1 y.L1.length = 0) {L' : List Ls} (eL : L'.map Ls.p = lSend y.s1 (y.L1.map Ls.p) X) (hs : F + y.S1.length + 1 < 18446744073709551615)
    (hy : y' = { y with s1 := sSend y.s1 y.L1.length, L1 := L', S1 := y.S1 ++ [X] }) : Fz F y' a c a' c' := by
  have hr' : fSendR y.e1.s y.e1.L.length = 0 := by
    show fSendR y.s1 (y.L1.map Ls.p).length = 0
    rw [List.length_map]
    exact hr
  have q := h.fl.swap.send hn X hr'
  have e1 : y'.e1 = y.e1.send X := by
    rw [hy]
    show En.mk (sSend y.s1 y.L1.length) (L'.map Ls.p) _ = En.mk (sSend y.s1 (y.L1.map Ls.p).length) (lSend y.s1 (y.L1.map Ls.p) X) _
    rw [List.length_map, eL]
    rfl
  have e0 : y'.e0 = y.e0 := by rw [hy]; rfl
  refine ⟨?_, ?_, ?_, ?_, ?_, ?_⟩
  · rw [e1, e0, hy]
    exact q.swap
  · rw [hy]
    exact h.c1
  · rw [hy]
    show y.C0 = (y.S1 ++ [X]).take c'
    rw [List.take_append_of_le_length h.fl.d'.cS]
    exact h.c0
  · rw [hy]
    exact h.n0
  · rw [hy]
    show (sSend y.s1 y.L1.length).mn = 2
    rw [sSend_mn]
    exact h.n1
  · rw [hy]
    have h1 := h.sm
    have h2 : (y.S1 ++ [X]).length = y.S1.length + 1 := by simp
    exact ⟨h1.1, by show F + (y.S1 ++ [X]).length < _; omega⟩
theorem Fz.nosend1 {F : Nat} {y y' : Fc} {a c a' c' : Nat} (h : Fz F y a c a' c') {X : List UInt8} (hr : fSendR y.s1 y.L1.length ≠ 0) {L' : List Ls} (eL : L'.map Ls.p = lSend y.s1 (y.L1.map Ls.p) X)
    (hy : y' = { y with s1 := sSend y.s1 y.L1.length, L1 := L' }) : Fz F y' a c a' c' := by
  have e2 : sSend y.s1 y.L1.length = y.s1 := by unfold sSend; rw [if_neg hr]
  have e3 : L'.map Ls.p = y.L1.map Ls.p := by rw [eL, lSend_p, if_neg hr]
  have e1 : y'.e1 = y.e1 := by
    rw [hy]
    show En.mk (sSend y.s1 y.L1.length) (L'.map Ls.p) _ = En.mk y.s1 (y.L1.map Ls.p) _
    rw [e2, e3]
  have e0 : y'.e0 = y.e0 := by rw [hy]; rfl
  refine ⟨?_, ?_, ?_, ?_, ?_, ?_⟩
  · rw [e1, e0, hy]
    exact h.fl
  · rw [hy]
    exact h.c1
  · rw [hy]
    exact h.c0
  · rw [hy]
    exact h.n0
  · rw [hy]
    show (sSend y.s1 y.L1.length).mn = 2
    rw [sSend_mn]
    exact h.n1
  · rw [hy]
    exact h.sm
theorem Fz.out1 {F : Nat} {y y' : Fc} {a c a' c' : Nat} (h : Fz F y a c a' c') (hy : y' = { y with s1 := { y.s1 with owed := false }, L1 := outL y.now y.s1.again y.L1 8 }) : Fz F y' a c a' c' ∧ y'.e1 = y.e1.out y.now ∧ y'.e0 = y.e0 := by
  have q := h.fl.swap.out
  have e1 : y'.e1 = y.e1.out y.now := by
    rw [hy]
    show En.mk _ ((outL y.now y.s1.again y.L1 8).map Ls.p) _ = En.mk _ (outLp y.now y.s1.again (y.L1.map Ls.p) 8) _
    rw [outL_lp]
    rfl
  have e0 : y'.e0 = y.e0 := by rw [hy]; rfl
  refine ⟨⟨?_, ?_, ?_, ?_, ?_, ?_⟩, e1, e0⟩
  · rw [e1, e0, hy]
    exact q.swap
  · rw [hy]
    exact h.c1
  · rw [hy]
    exact h.c0
  · rw [hy]
    exact h.n0
  · rw [hy]
    exact h.n1
  · rw [hy]
    exact h.sm
theorem Fz.told1 {F : Nat} {y : Fc} {a c a' c' : Nat} (h : Fz F y a c a' c') {P : List Pk} (hP : P.map Pk.pu = fOut y.s1 y.now y.L1) : ∀ x ∈ P, Good F y.S1 c x.hp ∧ x.hp.mine y.s0 := by
  intro x hx
  have h1 : x.hp.pu ∈ fOutP y.s1 y.now (y.L1.map Ls.p) := by
    rw [← fOut_lp, ← hP]
    exact List.mem_map_of_mem hx
  obtain ⟨g1, g2, _⟩ := h.fl.swap.told (p := x.hp) h1
  exact ⟨g1, g2⟩

end Go.Proofs.Ytnagbiicpecamaa
