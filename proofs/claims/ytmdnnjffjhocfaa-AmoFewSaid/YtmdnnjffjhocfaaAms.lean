/-
  Plain: of the roots of a client at most window stand beside those that are old and running. No condition on any program.
-/
import Derived.Test.YtmdnnjffjhocfaaAmp
namespace Go.Proofs.Ytmdnnjffjhocfaa
set_option linter.unusedSimpArgs false
set_option linter.unusedVariables false
open Go.RowKit Go.Maps Go.Sort

/-- is it counted? -/
def few (t : Tt) (n l : Int) (y : Rw) : Bool := decide (y.id.n = n ∧ y.id.l = l) && decide (y.id.d = 0) && (y.en || decide (floorF t.F y.id.n y.id.l < y.id.s))
theorem rise_count : ∀ (L : List Int) (f w : Int), 0 ≤ w → L.Pairwise (· < ·) → (∀ s ∈ L, f < s ∧ s ≤ f + w) → (L.length : Int) ≤ w
  | [], _, _, h, _, _ => by simpa using h
  | a :: L, f, w, hw, hp, hm => by
    obtain ⟨h1, h2⟩ := List.pairwise_cons.1 hp
    have ha := hm a (List.mem_cons_self ..)
    have ih := rise_count L a (f + w - a) (by omega) h2 (fun s hs => by
      have := h1 s hs
      have := hm s (List.mem_cons_of_mem _ hs)
      omega)
    simp only [List.length_cons]
    omega
theorem rise_seq {x y : I10} (hx : x.Fit) (hy : y.Fit) (hn : x.n = y.n) (hl : x.l = y.l) (dx : x.d = 0) (dy : y.d = 0) (kx : x.ok = true) (ky : y.ok = true) (h : x.cmp y < 0) : x.s < y.s := by
  rw [cmp_key hx hy] at h
  have key : ∀ z : I10, z.d = 0 → ∃ r, z.key = z.n :: z.l :: z.s :: r := fun z hz => ⟨_, rfl⟩
  rcases Int.lt_trichotomy x.s y.s with h1 | h1 | h1
  · exact h1
  · have e : x = y := by
      have q1 := hx.a (by omega)
      have q2 := hx.b (by omega)
      have q3 := hx.c (by omega)
      have q4 := hy.a (by omega)
      have q5 := hy.b (by omega)
      have q6 := hy.c (by omega)
      clear h hx hy kx ky key
      obtain ⟨n, l, s, d, a0, a1, b0, b1, c0, c1⟩ := x
      obtain ⟨n', l', s', d', x0, x1, y0, y1, z0, z1⟩ := y
      simp_all
    subst e
    rw [(lc_zero _ _).2 rfl] at h
    omega
  · obtain ⟨r, hr⟩ := key x dx
    obtain ⟨r', hr'⟩ := key y dy
    rw [hr, hr', hn, hl] at h
    rcases lc_cons y.n y.n (y.l :: x.s :: r) (y.l :: y.s :: r') with q | q | q
    · omega
    · rw [q.2] at h
      rcases lc_cons y.l y.l (x.s :: r) (y.s :: r') with q | q | q
      · omega
      · rw [q.2] at h
        rcases lc_cons x.s y.s r r' with q | q | q
        · omega
        · omega
        · omega
      · omega
    · omega
theorem few_count {t : Tt} (h : t.Ok) (hF : FewI t) (n l : Int) : ((t.L.filter (few t n l)).length : Int) ≤ t.win := by
  have hm : ∀ y ∈ t.L.filter (few t n l), y ∈ t.L ∧ y.id.n = n ∧ y.id.l = l ∧ y.id.d = 0 ∧ floorF t.F n l < y.id.s ∧ y.id.s ≤ floorF t.F n l + t.win := by
    intro y hy
    obtain ⟨hy, hf⟩ := List.mem_filter.1 hy
    unfold few at hf
    simp only [Bool.and_eq_true, decide_eq_true_eq, Bool.or_eq_true] at hf
    obtain ⟨⟨⟨h1, h2⟩, hd⟩, h4⟩ := hf
    have h5 := hF y hy hd
    rw [h1, h2] at h5 h4
    refine ⟨hy, h1, h2, hd, ?_, h5.1⟩
    rcases h4 with h4 | h4
    · exact h5.2 h4
    · exact h4
  have hp : ((t.L.filter (few t n l)).map fun y => y.id.s).Pairwise (· < ·) := by
    refine List.pairwise_map.2 ?_
    have hr := h.rise.filter (few t n l)
    refine List.Pairwise.imp_of_mem (fun {a b} ha hb hab => ?_) hr
    obtain ⟨ma, na, la, da, _, _⟩ := hm a ha
    obtain ⟨mb, nb, lb, db, _, _⟩ := hm b hb
    exact rise_seq (h.fit ma) (h.fit mb) (na.trans nb.symm) (la.trans lb.symm) da db (h.rng a ma).2.1 (h.rng b mb).2.1 hab
  have := rise_count _ (floorF t.F n l) t.win (by have := h.win; omega) hp (fun s hs => by
    obtain ⟨y, hy, rfl⟩ := List.mem_map.1 hs
    exact (hm y hy).2.2.2.2)
  rwa [List.length_map] at this
theorem few_take {t : Tt} {n l : Int} (j : Nat) : ((t.L.take j).filter (few t n l)).length ≤ (t.L.filter (few t n l)).length := by
  have := (List.take_sublist j t.L).filter (few t n l)
  exact this.length_le
theorem few_step {t : Tt} {n l : Int} {j : Nat} {y : Rw} (hy : t.L[j]? = some y) : ((t.L.take (j + 1)).filter (few t n l)).length = ((t.L.take j).filter (few t n l)).length + (if few t n l y then 1 else 0) := by
  rw [List.take_add_one, hy, List.filter_append, List.length_append]
  by_cases hf : few t n l y = true <;> simp [hf]

end Go.Proofs.Ytmdnnjffjhocfaa
