/-
  The keys of the map behind an Add and a Remove. Condition: the map's keys were just the identifiers of the list.
-/
import Derived.Test.YtehkofeokccdeaaKin
import Derived.Maps.Views
namespace Go.Proofs.Ytehkofeokccdeaa
set_option linter.unusedSimpArgs false
set_option linter.unusedVariables false
open Go.RowKit Go.Maps Go.Sort Go.Shelf

theorem KeysX.hasnt {H : Type} {D : DataW H} {X : List I10} {x : I10} (h : KeysX D X) (rx : x.Rng) (hn : x ∉ X) : has D x.lit = false := by
  cases hh : has D x.lit with
  | false => rfl
  | true =>
    obtain ⟨y, hy, e⟩ := h.all _ hh
    exact absurd (lit_inj rx (h.rng y hy) e ▸ hy) hn

theorem KeysX.put {H : Type} {D : DataW H} {X Y : List I10} {x : I10} (h : KeysX D X) (hT : Tidy D) (hI : IsMap D) (rx : x.Rng) (hn : x ∉ X) (hp : Y.Perm (x :: X)) (d : DataW H) : KeysX (D.put x.lit d) Y where
  nodup := hp.nodup_iff.2 (List.nodup_cons.2 ⟨hn, h.nodup⟩)
  rng y hy := by
    rcases List.mem_cons.1 (hp.mem_iff.1 hy) with rfl | hm
    · exact rx
    · exact h.rng y hm
  all kl hk := by
    by_cases e : kl = x.lit
    · exact ⟨x, hp.mem_iff.2 (List.mem_cons_self ..), e⟩
    · rw [has_put_other e] at hk
      obtain ⟨y, hy, ey⟩ := h.all kl hk
      exact ⟨y, hp.mem_iff.2 (List.mem_cons_of_mem _ hy), ey⟩
  has_ y hy := by
    by_cases e : y.lit = x.lit
    · rw [e]
      exact has_put_same hI (idKeyed.key (keyVal rx)) d
    · rw [has_put_other e]
      rcases List.mem_cons.1 (hp.mem_iff.1 hy) with rfl | hm
      · exact absurd rfl e
      · exact h.has_ y hm
  size := by
    rw [size_put hT, h.hasnt rx hn, hp.length_eq, List.length_cons, ← h.size]
    rfl

theorem KeysX.del {H : Type} {D : DataW H} {X Y : List I10} {x : I10} (h : KeysX D X) (hT : Tidy D) (hp : X.Perm (x :: Y)) : KeysX (D.del x.lit) Y := by
  have hx : x ∈ X := hp.mem_iff.2 (List.mem_cons_self ..)
  have hnd := List.nodup_cons.1 (hp.nodup_iff.1 h.nodup)
  have hmem : ∀ y ∈ Y, y ∈ X := fun y hy => hp.mem_iff.2 (List.mem_cons_of_mem _ hy)
  refine ⟨hnd.2, fun y hy => h.rng y (hmem y hy), fun kl hk => ?_, fun y hy => ?_, ?_⟩
  · by_cases e : kl = x.lit
    · rw [e, has_del_same] at hk
      cases hk
    · rw [has_del_other e] at hk
      obtain ⟨y, hy, ey⟩ := h.all kl hk
      rcases List.mem_cons.1 (hp.mem_iff.1 hy) with rfl | hm
      · exact absurd ey e
      · exact ⟨y, hm, ey⟩
  · have hne : y.lit ≠ x.lit := fun e => hnd.1 (lit_inj (h.rng y (hmem y hy)) (h.rng x hx) e ▸ hy)
    rw [has_del_other hne]
    exact h.has_ y (hmem y hy)
  · have := size_del (k := x.lit) hT
    rw [h.has_ x hx, h.size, hp.length_eq, List.length_cons] at this
    simpa using this

end Go.Proofs.Ytehkofeokccdeaa
