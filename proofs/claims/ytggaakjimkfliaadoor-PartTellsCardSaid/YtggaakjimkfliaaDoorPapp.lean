/-
  append of a list of parts, wherever it lies, at a step whose order is open. Condition: the new row takes at most 2^47 bytes.
-/
import Derived.Test.YtggaakjimkfliaaDoorProw
import Derived.Deep.AppendLies
import Derived.RegionTactic
namespace Go.Proofs.YtggaakjimkfliaaDoor
set_option linter.unusedSimpArgs false
set_option linter.unusedVariables false
open Go.RowKit

theorem cells_of_rowsP {W : World} {B : Nat} {ad : Addr} {X : List P5} (h : RowsP W B (some ad) X) : ∀ j u, (cellsP X)[j]? = some u → W.cell? (ad.add j) = some u := by
  intro j u hu
  have hj : j < X.length * 5 := by
    have := (List.getElem?_eq_some_iff.1 hu).1
    rwa [cellsP_length] at this
  have hne : X ≠ [] := by rintro rfl; simp at hj
  obtain ⟨b, o, e, _, hc⟩ := h hne
  have e' : ad = ⟨b, o, none⟩ := Option.some.inj e
  subst e'
  have hi : j / 5 < X.length := by omega
  have hx : X[j / 5]? = some X[j / 5] := List.getElem?_eq_getElem hi
  have P := hc (j / 5) _ hx
  have hat := cellsP_at X (j / 5) _ hx (j % 5) (by omega)
  rw [show j / 5 * 5 + j % 5 = j by omega, hu] at hat
  have ea : (⟨b, o, none⟩ : Addr).add j = ⟨b, o + j / 5 * 5 + j % 5, none⟩ := by
    unfold Addr.add
    by_cases h0 : j = 0
    · subst h0; simp
    · simp [h0]; omega
  rw [ea]
  have hr : j % 5 = 0 ∨ j % 5 = 1 ∨ j % 5 = 2 ∨ j % 5 = 3 ∨ j % 5 = 4 := by omega
  rcases hr with hr | hr | hr | hr | hr <;> rw [hr] at hat ⊢
  · rw [hat]; exact P.c0
  · rw [hat]; exact P.c1
  · rw [hat]; exact P.c2
  · rw [hat]; exact P.c3
  · rw [hat]; exact P.c4
theorem ref_info : (Tryd.prog.info? 30).map (fun i => (i.zero, i.size, i.bytes)) = some (some (.agg #[.int .u8 0, .int .u8 0, .string ByteArray.empty, .string ByteArray.empty, .int .i64 0]), 5, 48) := by kernel_rfl

theorem stepApp {w : World} {ops : Array Oper} {o : Oper} {a : Act} {K : Act → World → Prop} {Q : Exit → Act → World → Prop} {E : Prop} (hgd : o.guard = none) (s xo : Operand)
    (ho : o.op = .call { callee := .builtin .append, args := #[s, xo], argTypes := #[22, 22] })
    (base : Nat) (v : Value) (n : Nat) (xs : List Value) (hs : a.eval s = v) (hown : w.ownsRow base 30 5 v n xs)
    (A : Option Addr) (X : List P5) (c B : Nat) (hx : a.eval xo = .slice A X.length c) (hr : RowsP w B A X) (hcn : A = none → c = 0)
    (hlen : (n + X.length) * 48 ≤ 140737488355328) (hbase : base ≤ w.heap.size)
    (h : ∀ v' w', w'.ownsRow base 30 5 v' (n + X.length) (xs ++ cellsP X) → w.grownBy w' v.ownBlock → K (a.put o.dst v') w') :
    if Region.wanted o (yielded ops a.tmps) = true then Oper.wp Tryd.prog o a w K Q else E := by
  have hw : Region.wanted o (yielded ops a.tmps) = true := by simp [Region.wanted, hgd]
  rw [if_pos hw]
  obtain ⟨i0, hi0, hz0, hz1, hz2⟩ := info_parts ref_info
  cases A with
  | none =>
    have hX : X = [] := by
      rcases List.eq_nil_or_concat X with h | ⟨l, y, h⟩
      · exact h
      · obtain ⟨b, o', e, _⟩ := hr (by rw [h]; simp)
        cases e
    subst hX
    have hc := hcn rfl
    subst hc
    have hrun := run_append_owned_none (P := Tryd.prog) w base 22 o.type 30 i0 5 Tryd.underlying22 hi0 v n xs hown
    unfold Oper.wp execOp
    simp only [ho, resolve, invoke, builtin, Sem.run_bind, Sem.run_pure, Result.andThen_ok, List.map_toArray, List.map_cons, List.map_nil, hs, hx, List.length_nil, hrun]
    exact h v w (by simpa [cellsP] using hown) (World.grownBy.refl w _)
  | some ad =>
    exact wp_append_own w s xo 22 ho base 30 i0 _ 5 48 Tryd.underlying22 hi0 hz0 hz1 hz2 rfl (by decide) v n xs hs hown ad X.length c (cellsP X) hx (cellsP_length X) (cells_of_rowsP hr) (cellsP_one X)
      (by unfold maxLen; omega) hlen hbase fun v' w' h2 h3 _ => h v' w' h2 h3

end Go.Proofs.YtggaakjimkfliaaDoor
