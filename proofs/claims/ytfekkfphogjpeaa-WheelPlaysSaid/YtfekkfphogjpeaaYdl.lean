/-
  The document's wheel: Set of a timer that there is room for: by an exact answer. Condition: the wheel lies in memory.
-/
import Derived.Test.YtfekkfphogjpeaaYds
namespace Go.Proofs.Ytfekkfphogjpeaa
set_option linter.unusedSimpArgs false
set_option linter.unusedVariables false
open Go.RowKit Go.Maps Go.Sort

theorem rowT_one {W : World} {g : Nat} {t : Tm} (h : W.heap[g]? = some (.cells t.cs 83 (0, 0))) : RowT W (some ⟨g, 0, none⟩) [t] := fun _ => ⟨g, 0, rfl, fun j u hu => by
  rw [Nat.zero_add]
  exact cell_of h j u (by simpa [cellsT] using hu)⟩
theorem ins_len (T : List Tm) (t : Tm) (i : Nat) : (insT T t i).length = T.length + 1 := by rw [(ins_perm T t i).length_eq]; rfl
theorem ins_few {T : List Tm} {x : K13} {most : Nat} (ap : T.Pairwise fun a b => a.k ≠ b.k) (few : T.length ≤ most) (h : (∃ t ∈ T, t.k = x) ∨ T.length < most) : (outK T x).length + 1 ≤ most := by
  by_cases hx : ∃ t ∈ T, t.k = x
  · obtain ⟨t, ht, rfl⟩ := hx
    rw [outK_len ap ht]
    exact few
  · rw [outK_none fun t ht e => hx ⟨t, ht, e⟩]
    rcases h with h | h
    · exact absurd h hx
    · omega
theorem ins_ap {T : List Tm} {t : Tm} {i : Nat} (ap : T.Pairwise fun a b => a.k ≠ b.k) (h : ∀ a ∈ T, a.k ≠ t.k) : (insT T t i).Pairwise fun a b => a.k ≠ b.k :=
  (ins_perm T t i).symm.pairwise (List.pairwise_cons.2 ⟨fun a ha e => h a ha e.symm, ap⟩) fun {_ _} hne e => hne e.symm

end Go.Proofs.Ytfekkfphogjpeaa
