/-
  The document's kept: by exact answers. Condition: the link lies in memory; what is kept has numbers of its own.
-/
import Derived.Test.YtnagbiicpecamaaJdp
import Derived.Test.YtnagbiicpecamaaJag
namespace Go.Proofs.Ytnagbiicpecamaa
set_option linter.unusedSimpArgs false
set_option linter.unusedVariables false
open Go.RowKit Go.Maps Go.Sort

theorem run_slB {P : Program} {w : World} {a : Act} {sv xv : Value} {t t0 : TypeId} {x : Operand} {lo hi : Option Operand} {lo' hi' : Option Value} (hx : a.eval x = xv) (hlo : lo.map a.eval = lo') (hhi : hi.map a.eval = hi')
    (hr : (Instr.sliceAt t xv lo' hi' none).run P w = .ok sv w) : (execOp a.eval (bareO (.slice t x lo hi none) t0)).run P w = .ok (.value sv) w := by
  unfold execOp bareO
  simp only [hx, hlo, hhi, Option.map_none, Sem.run_bind, hr, Result.andThen_ok, Sem.run_pure]
/-- all but one: what stands ahead of it and behind it. -/
theorem outN_at {K : List Kr} (h : K.Pairwise fun x y => x.seq ≠ y.seq) {i : Nat} {x : Kr} (hi : K[i]? = some x) : outN K x.seq = K.take i ++ K.drop (i + 1) := by
  induction K generalizing i with
  | nil => simp at hi
  | cons a K ih =>
    obtain ⟨h1, h2⟩ := List.pairwise_cons.1 h
    cases i with
    | zero =>
      simp at hi
      subst hi
      unfold outN
      rw [List.filter_cons]
      simp
      intro y hy e
      exact h1 y hy e.symm
    | succ i =>
      simp at hi
      have hne := h1 x (List.mem_of_getElem? hi)
      have e := ih h2 hi
      unfold outN at e ⊢
      rw [List.filter_cons, if_pos (by simpa using hne), e]
      rfl
theorem fK_at {K : List Kr} {q : Nat} {x : Kr} {i : Nat} (hn : ∀ j y, j < i → K[j]? = some y → y.seq ≠ q) (hi : K[i]? = some x) (hx : x.seq = q) : fK K q = some x := by
  induction K generalizing i with
  | nil => simp at hi
  | cons a K ih =>
    unfold fK
    cases i with
    | zero =>
      simp at hi
      subst hi
      simp [hx]
    | succ i =>
      have ha := hn 0 a (by omega) rfl
      rw [List.find?_cons_of_neg (by simpa using ha)]
      exact ih (i := i) (fun j y hj hy => hn (j + 1) y (by omega) (by simpa using hy)) (by simpa using hi)
theorem fK_out {K : List Kr} {q : Nat} (hn : ∀ y ∈ K, y.seq ≠ q) : fK K q = none := List.find?_eq_none.2 fun y hy => by simpa using hn y hy
end Go.Proofs.Ytnagbiicpecamaa
