/-
  The document's Set: where an identifier stands, and append of a list of identifiers at a step whose order is open. Condition: the lists lie in memory.
-/
import Derived.Test.YtehkofeokccdeaaIrow
import Derived.Test.YtehkofeokccdeaaFnd
import Derived.Deep.AppendLies
import Derived.RegionTactic
namespace Go.Proofs.Ytehkofeokccdeaa
set_option linter.unusedSimpArgs false
set_option linter.unusedVariables false
open Go.RowKit

theorem cells_of_rowsI {W : World} {B : Nat} {ad : Addr} {X : List I10} (h : RowsI W B (some ad) X) : ∀ j u, (cellsI X)[j]? = some u → W.cell? (ad.add j) = some u := by
  intro j u hu
  have hj : j < X.length * 10 := by
    have := (List.getElem?_eq_some_iff.1 hu).1
    rwa [cellsI_length] at this
  have hne : X ≠ [] := by rintro rfl; simp at hj
  obtain ⟨b, o, e, _, hc⟩ := h hne
  have e' : ad = ⟨b, o, none⟩ := Option.some.inj e
  subst e'
  have hi : j / 10 < X.length := by omega
  have hx : X[j / 10]? = some X[j / 10] := List.getElem?_eq_getElem hi
  have P := hc (j / 10) _ hx
  have hat := cellsI_at X (j / 10) _ hx (j % 10) (by omega)
  rw [show j / 10 * 10 + j % 10 = j by omega, hu] at hat
  have ea : (⟨b, o, none⟩ : Addr).add j = ⟨b, o + j / 10 * 10 + j % 10, none⟩ := by
    unfold Addr.add
    by_cases h0 : j = 0
    · subst h0; simp
    · simp [h0]; omega
  rw [ea]
  have hr : j % 10 = 0 ∨ j % 10 = 1 ∨ j % 10 = 2 ∨ j % 10 = 3 ∨ j % 10 = 4 ∨ j % 10 = 5 ∨ j % 10 = 6 ∨ j % 10 = 7 ∨ j % 10 = 8 ∨ j % 10 = 9 := by omega
  rcases hr with hr | hr | hr | hr | hr | hr | hr | hr | hr | hr <;> rw [hr] at hat ⊢
  · rw [hat]; exact P.c0
  · rw [hat]; exact P.c1
  · rw [hat]; exact P.c2
  · rw [hat]; exact P.c3
  · rw [hat]; exact P.c4
  · rw [hat]; exact P.c5
  · rw [hat]; exact P.c6
  · rw [hat]; exact P.c7
  · rw [hat]; exact P.c8
  · rw [hat]; exact P.c9

theorem stepAppI {w : World} {ops : Array Oper} {o : Oper} {a : Act} {K : Act → World → Prop} {Q : Exit → Act → World → Prop} {E : Prop} (hgd : o.guard = none) (s xo : Operand)
    (ho : o.op = .call { callee := .builtin .append, args := #[s, xo], argTypes := #[27, 27] })
    (base : Nat) (v : Value) (n : Nat) (xs : List Value) (hs : a.eval s = v) (hown : w.ownsRow base 38 10 v n xs)
    (ad : Addr) (X : List I10) (m c B : Nat) (hx : a.eval xo = .slice (some ad) m c) (hmm : m = X.length) (hr : RowsI w B (some ad) X)
    (hlen : (n + X.length) * 16 ≤ 140737488355328) (hbase : base ≤ w.heap.size)
    (h : ∀ v' w', w'.ownsRow base 38 10 v' (n + X.length) (xs ++ cellsI X) → w.grownBy w' v.ownBlock → K (a.put o.dst v') w') :
    if Region.wanted o (yielded ops a.tmps) = true then Oper.wp Try.prog o a w K Q else E := by
  subst hmm
  have hw : Region.wanted o (yielded ops a.tmps) = true := by simp [Region.wanted, hgd]
  rw [if_pos hw]
  obtain ⟨i0, hi0, hz0, hz1, hz2⟩ := info_parts refid_info
  exact wp_append_own w s xo 27 ho base 38 i0 _ 10 16 Try.underlying27 hi0 hz0 hz1 hz2 rfl (by decide) v n xs hs hown ad X.length c (cellsI X) hx (cellsI_length X) (cells_of_rowsI hr) (cellsI_one X)
    (by unfold maxLen; omega) hlen hbase fun v' w' h2 h3 _ => h v' w' h2 h3

/-- Find, of a list that the document's Set owns. -/
theorem findOwn (X : List I10) (x : I10) (rb base : Nat) (v : Value) (w : World) (h0 : w.cell? ⟨rb, 0, none⟩ = some v) (O : w.ownsRow base 38 10 v X.length (cellsI X)) (rX : ∀ y ∈ X, y.Rng) (rx : x.Rng) :
    Calls Try.prog 12 #[.pointer (some ⟨rb, 0, none⟩), .agg #[.int .u8 x.n, .int .u16 x.l, .int .u32 x.s, .int .u8 x.d, .int .u8 x.a0, .int .u8 x.a1, .int .u8 x.b0, .int .u8 x.b1, .int .u8 x.c0, .int .u8 x.c1]] w fun e w' => e = .returned (.tuple #[.int .i64 (fnd X x), .bool (isAt X x)]) ∧ Below w.heap.size w w' := by
  rcases O.2 with ⟨rfl, hn⟩ | ⟨g, cap, cur, rfl, hb, hg, hnc, hcm, hcs, ht⟩
  · have : X = [] := List.eq_nil_of_length_eq_zero hn
    subst this
    exact findNil x rb w h0
  · refine find X x rb g cap w hnc hcm h0 (O.lt g rfl).2 (fun i y hy => ?_) rX rx
    have hc := O.cells (g := g) rfl
    have e := cellsI_at X i y hy
    have ec : ∀ j u, (cellsI X)[j]? = some u → w.cell? ⟨g, j, none⟩ = some u := fun j u hu => by
      have := hc j u hu
      by_cases hj : j = 0
      · subst hj; exact this
      · simpa [Addr.add, hj] using this
    exact ⟨ec _ _ ((e 0 (by omega)).trans rfl), ec _ _ ((e 1 (by omega)).trans rfl), ec _ _ ((e 2 (by omega)).trans rfl), ec _ _ ((e 3 (by omega)).trans rfl), ec _ _ ((e 4 (by omega)).trans rfl), ec _ _ ((e 5 (by omega)).trans rfl), ec _ _ ((e 6 (by omega)).trans rfl), ec _ _ ((e 7 (by omega)).trans rfl), ec _ _ ((e 8 (by omega)).trans rfl), ec _ _ ((e 9 (by omega)).trans rfl)⟩

end Go.Proofs.Ytehkofeokccdeaa
