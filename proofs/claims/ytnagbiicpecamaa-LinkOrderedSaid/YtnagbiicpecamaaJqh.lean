/-
  The field of the law LinkOrdered: what is so of it, in plain lists. Plain mathematics.
-/
import Derived.Test.YtnagbiicpecamaaJqg
namespace Go.Proofs.Ytnagbiicpecamaa
set_option linter.unusedSimpArgs false
set_option linter.unusedVariables false
open Go.RowKit Go.Maps Go.Sort

def Pk.hp (x : Pk) : Hp := ⟨x.fn, x.fl, x.tn, x.tl, x.seq, x.ack, x.has, x.b.B⟩
theorem Pk.hp_pu (x : Pk) : x.hp.pu = x.pu := rfl
def Fc.e0 (y : Fc) : En := ⟨y.s0, y.L0.map Ls.p, y.K0.map Kr.p⟩
def Fc.e1 (y : Fc) : En := ⟨y.s1, y.L1.map Ls.p, y.K1.map Kr.p⟩
theorem hear_map (s : Sc) (L : List Ls) (K : List KPu) (p : Hp) : (hearP s (L.map Ls.p) K p).1 = (hearP s L K p).1 ∧ (hearP s (L.map Ls.p) K p).2.1 = (hearP s L K p).2.1.map Ls.p ∧ (hearP s (L.map Ls.p) K p).2.2 = (hearP s L K p).2.2 := by
  unfold hearP
  split
  · split
    · refine ⟨rfl, ?_, rfl⟩
      show (L.map Ls.p).drop _ = (L.drop _).map Ls.p
      rw [List.map_drop, List.length_map]
    · refine ⟨rfl, ?_, rfl⟩
      show (L.map Ls.p).drop _ = (L.drop _).map Ls.p
      rw [List.map_drop, List.length_map]
  · exact ⟨rfl, rfl, rfl⟩
/-- a packet in flight: to the second end, or to the first one. -/
def Fly (F : Nat) (y : Fc) (c c' : Nat) (p : Hp) : Prop := (Good F y.S0 c' p ∧ p.mine y.s1) ∨ (Good F y.S1 c p ∧ p.mine y.s0)
structure Fz (F : Nat) (y : Fc) (a c a' c' : Nat) : Prop where
  fl : Fl F y.S0 y.S1 y.e0 y.e1 a c a' c' y.now
  c1 : y.C1 = y.S0.take c
  c0 : y.C0 = y.S1.take c'
  n0 : y.s0.mn ≠ 2
  n1 : y.s1.mn = 2
  sm : F + y.S0.length < 18446744073709551615 ∧ F + y.S1.length < 18446744073709551615
theorem mine_to {p : Hp} {s : Sc} (h : p.mine s) : p.tn = s.mn := h.2.2.1
/-- a packet comes to the second end. -/
theorem Fz.hear1 {F : Nat} {y y' : Fc} {a c a' c' : Nat} (h : Fz F y a c a' c') {p : Hp} (hm : p.mine y.s1) (hg : Good F y.S0 c' p) {K' : List Kr} (eK : K'.map Kr.p = (hearP y.s1 y.L1 (y.K1.map Kr.p) p).2.2.1)
    (hy : y' = { y with s1 := (hearP y.s1 y.L1 (y.K1.map Kr.p) p).1, L1 := (hearP y.s1 y.L1 (y.K1.map Kr.p) p).2.1, K1 := K', C1 := y.C1 ++ (hearP y.s1 y.L1 (y.K1.map Kr.p) p).2.2.2.map (·.2) }) :
    ∃ a2 c2, Fz F y' a c2 a2 c' ∧ c ≤ c2 ∧ a' ≤ a2 ∧ y'.e1 = y.e1.hear p := by
  obtain ⟨a2, c2, r1, r2, r3, r4, r5, r6, r7⟩ := h.fl.hear h.sm.1 hm hg
  obtain ⟨q1, q2, q3⟩ := hear_map y.s1 y.L1 (y.K1.map Kr.p) p
  have e1 : y'.e1 = y.e1.hear p := by
    rw [hy]
    show En.mk _ _ _ = En.mk (hearP y.s1 (y.L1.map Ls.p) (y.K1.map Kr.p) p).1 (hearP y.s1 (y.L1.map Ls.p) (y.K1.map Kr.p) p).2.1 (hearP y.s1 (y.L1.map Ls.p) (y.K1.map Kr.p) p).2.2.1
    rw [q1, q2, q3, ← eK]
  have e0 : y'.e0 = y.e0 := by rw [hy]; rfl
  have r7' : (hearP y.s1 y.L1 (y.K1.map Kr.p) p).1 = { y.s1 with want := F + c2, owed := y.s1.owed || p.has } := by
    rw [← q1]
    exact r7
  have r2' : (hearP y.s1 y.L1 (y.K1.map Kr.p) p).2.2.2.map (·.2) = (y.S0.drop c).take (c2 - c) := by
    rw [← q3]
    exact r2
  refine ⟨a2, c2, ⟨?_, ?_, ?_, ?_, ?_, ?_⟩, r3, r4, e1⟩
  · rw [e1, e0, hy]
    exact r1
  · rw [hy]
    show y.C1 ++ _ = y.S0.take c2
    rw [r2', h.c1, ← take_more r3]
  · rw [hy]
    exact h.c0
  · rw [hy]
    exact h.n0
  · rw [hy]
    show (hearP y.s1 y.L1 (y.K1.map Kr.p) p).1.mn = 2
    rw [r7']
    exact h.n1
  · rw [hy]
    exact h.sm
/-- .. to the first one. -/
theorem Fz.hear0 {F : Nat} {y y' : Fc} {a c a' c' : Nat} (h : Fz F y a c a' c') {p : Hp} (hm : p.mine y.s0) (hg : Good F y.S1 c p) {K' : List Kr} (eK : K'.map Kr.p = (hearP y.s0 y.L0 (y.K0.map Kr.p) p).2.2.1)
    (hy : y' = { y with s0 := (hearP y.s0 y.L0 (y.K0.map Kr.p) p).1, L0 := (hearP y.s0 y.L0 (y.K0.map Kr.p) p).2.1, K0 := K', C0 := y.C0 ++ (hearP y.s0 y.L0 (y.K0.map Kr.p) p).2.2.2.map (·.2) }) :
    ∃ a2 c2, Fz F y' a2 c a' c2 ∧ c' ≤ c2 ∧ a ≤ a2 ∧ y'.e0 = y.e0.hear p := by
  obtain ⟨a2, c2, r1, r2, r3, r4, r5, r6, r7⟩ := h.fl.swap.hear h.sm.2 hm hg
  obtain ⟨q1, q2, q3⟩ := hear_map y.s0 y.L0 (y.K0.map Kr.p) p
  have e1 : y'.e0 = y.e0.hear p := by
    rw [hy]
    show En.mk _ _ _ = En.mk (hearP y.s0 (y.L0.map Ls.p) (y.K0.map Kr.p) p).1 (hearP y.s0 (y.L0.map Ls.p) (y.K0.map Kr.p) p).2.1 (hearP y.s0 (y.L0.map Ls.p) (y.K0.map Kr.p) p).2.2.1
    rw [q1, q2, q3, ← eK]
  have e0 : y'.e1 = y.e1 := by rw [hy]; rfl
  have r7' : (hearP y.s0 y.L0 (y.K0.map Kr.p) p).1 = { y.s0 with want := F + c2, owed := y.s0.owed || p.has } := by
    rw [← q1]
    exact r7
  have r2' : (hearP y.s0 y.L0 (y.K0.map Kr.p) p).2.2.2.map (·.2) = (y.S1.drop c').take (c2 - c') := by
    rw [← q3]
    exact r2
  refine ⟨a2, c2, ⟨?_, ?_, ?_, ?_, ?_, ?_⟩, r3, r4, e1⟩
  · rw [e1, e0, hy]
    exact r1.swap
  · rw [hy]
    exact h.c1
  · rw [hy]
    show y.C0 ++ _ = y.S1.take c2
    rw [r2', h.c0, ← take_more r3]
  · rw [hy]
    show (hearP y.s0 y.L0 (y.K0.map Kr.p) p).1.mn ≠ 2
    rw [r7']
    exact h.n0
  · rw [hy]
    exact h.n1
  · rw [hy]
    exact h.sm

end Go.Proofs.Ytnagbiicpecamaa
