/-
  The greatest number that a majority has; the program's sort of numbers by its contract. No condition.
-/
import Derived.Test.YtjdmjiikpnlkjaaRob
import Derived.Test.YtjdmjiikpnlkjaaShelf
import Derived.Sort.OwnSortedInts
import Derived.Deep.MidRow
namespace Go.Proofs.Ytjdmjiikpnlkjaa
set_option linter.unusedSimpArgs false
set_option linter.unusedVariables false
open Go.RowKit Go.Maps Go.Sort
open V (P2)

theorem topN_eq {f : Nat → Bool} {x : Nat} : ∀ N, x ≤ N → (x = 0 ∨ f x = true) → (∀ y, x < y → y ≤ N → f y = false) → topN f N = x
  | 0, h, _, _ => by simp [topN]; omega
  | N + 1, h, h1, h2 => by
    unfold topN
    by_cases e : x = N + 1
    · subst e
      rcases h1 with h1 | h1
      · omega
      · rw [if_pos h1]
    · rw [if_neg (by rw [h2 (N + 1) (by omega) (Nat.le_refl _)]; simp)]
      exact topN_eq N (by omega) h1 fun y a b => h2 y a (by omega)
theorem topN_le (f : Nat → Bool) : ∀ N, topN f N ≤ N
  | 0 => Nat.le_refl _
  | N + 1 => by
    unfold topN
    split
    · exact Nat.le_refl _
    · exact Nat.le_succ_of_le (topN_le f N)
theorem topN_is (f : Nat → Bool) : ∀ N, topN f N = 0 ∨ f (topN f N) = true
  | 0 => .inl rfl
  | N + 1 => by
    unfold topN
    split
    · rename_i h
      exact .inr h
    · exact topN_is f N
/-- numbers sorted. -/
def srt (X : List Nat) : List Int := (X.map fun n : Nat => (n : Int)).mergeSort fun x y => decide (x ≤ y)
theorem srt_perm (X : List Nat) : (srt X).Perm (X.map fun n : Nat => (n : Int)) := List.mergeSort_perm _ _
theorem srt_len (X : List Nat) : (srt X).length = X.length := by rw [(srt_perm X).length_eq, List.length_map]
theorem srt_asc (X : List Nat) : (srt X).Pairwise fun x y => x ≤ y := by
  have h := List.pairwise_mergeSort (le := fun (x y : Int) => decide (x ≤ y)) (fun a b c h1 h2 => by simp at *; omega) (fun a b => by simp; omega) (X.map fun n : Nat => (n : Int))
  exact h.imp fun h => by simpa using h
theorem srt_count (X : List Nat) (y : Nat) : (X.filter fun x => decide (y ≤ x)).length = ((srt X).filter fun x => decide ((y : Int) ≤ x)).length := by
  rw [((srt_perm X).filter _).length_eq, List.filter_map, List.length_map]
  congr 1
  refine List.filter_congr fun x _ => ?_
  simp
theorem srt_top (X : List Nat) (mj : Nat) (h1 : 1 ≤ mj) (h2 : mj ≤ X.length) (h4 : ∀ x ∈ X, x ≤ 400) : (srt X)[X.length - mj]? = some ((topN (fun y => decide (mj ≤ (X.filter fun x => decide (y ≤ x)).length)) 400 : Nat) : Int) := by
  have hlen := srt_len X
  have hi : X.length - mj < (srt X).length := by omega
  obtain ⟨x, hx⟩ : ∃ x, (srt X)[X.length - mj]? = some x := ⟨_, List.getElem?_eq_getElem hi⟩
  have hmem : x ∈ X.map fun n : Nat => (n : Int) := (srt_perm X).mem_iff.1 (List.mem_of_getElem? hx)
  obtain ⟨n, hn, rfl⟩ := List.mem_map.1 hmem
  have hasc := srt_asc X
  have hsplit : srt X = (srt X).take (X.length - mj) ++ ((n : Int) :: (srt X).drop (X.length - mj + 1)) := by
    have e := List.drop_eq_getElem_cons hi
    rw [List.getElem?_eq_getElem hi] at hx
    injection hx with hx
    rw [hx] at e
    rw [← e, List.take_append_drop]
  have hp := hasc
  rw [hsplit, List.pairwise_append] at hp
  obtain ⟨_, hp2, hp3⟩ := hp
  obtain ⟨hp4, _⟩ := List.pairwise_cons.1 hp2
  have hd : ((srt X).drop (X.length - mj + 1)).length = mj - 1 := by rw [List.length_drop, hlen]; omega
  rw [hx, topN_eq 400 (h4 n hn)]
  · right
    rw [srt_count, hsplit, List.filter_append, List.length_append, List.filter_cons_of_pos (by simp), List.length_cons]
    have : ((srt X).drop (X.length - mj + 1)).filter (fun x => decide ((n : Int) ≤ x)) = (srt X).drop (X.length - mj + 1) := List.filter_eq_self.2 fun y hy => by simpa using hp4 y hy
    rw [this, hd]
    simp
    omega
  · intro y hy _
    rw [srt_count, hsplit, List.filter_append, List.length_append, List.filter_cons_of_neg (by simp; omega)]
    have h5 : ((srt X).take (X.length - mj)).filter (fun x => decide ((y : Int) ≤ x)) = [] := List.filter_eq_nil_iff.2 fun z hz => by
      have := hp3 z hz n (by simp)
      simp
      omega
    have h6 := List.length_filter_le (fun x => decide ((y : Int) ≤ x)) ((srt X).drop (X.length - mj + 1))
    rw [h5]
    simp at h6 ⊢
    omega
theorem Rd.cnt_map (d : Rd) (y : Nat) : d.cnt y = ((d.M.map d.has).filter fun x => decide (y ≤ x)).length := by
  unfold Rd.cnt
  rw [List.filter_map, List.length_map]
  rfl
theorem Rd.srt_top (d : Rd) (h1 : 1 ≤ d.M.length) (h4 : ∀ p ∈ d.M, d.has p ≤ 400) : (srt (d.M.map d.has))[d.M.length - d.maj]? = some ((d.top : Nat) : Int) := by
  have := Go.Proofs.Ytjdmjiikpnlkjaa.srt_top (d.M.map d.has) d.maj (by unfold Rd.maj; omega) (by rw [List.length_map]; unfold Rd.maj; omega) (fun x hx => by
    obtain ⟨p, hp, rfl⟩ := List.mem_map.1 hx
    exact h4 p hp)
  rw [List.length_map] at this
  rw [this]
  unfold Rd.top
  simp only [Rd.cnt_map]
set_option maxRecDepth 100000 in
set_option maxHeartbeats 2000000 in
theorem sortC (X : List Nat) (base : Nat) (w : World) (v : Value) (hO : w.ownsRow base 3 1 v X.length (X.map fun n : Nat => Value.int .i64 n)) (hne : X ≠ []) (hl : X.length ≤ 1000) :
    Calls Try.prog 61 #[v] w fun e w' => e = .returned (.tuple #[]) ∧ w'.ownsRow base 3 1 v X.length ((srt X).map (Value.int .i64)) ∧ Below base w w' := by
  rcases hO.2 with ⟨rfl, h0⟩ | ⟨g, cap, cur, rfl, hb, hg, hn, hm, hs, ht⟩
  · exact absurd (List.eq_nil_of_length_eq_zero h0) hne
  · have e1 : (X.map fun n : Nat => Value.int .i64 n) = (X.map fun n : Nat => (n : Int)).map (Value.int .i64) := by simp
    have hlen : (X.map fun n : Nat => (n : Int)).length = X.length := List.length_map _
    have hH : Sort.Holds (Value.int .i64) w g 0 (X.map fun n : Nat => (n : Int)).toArray := holds_of_blockI hg (by
      rw [hlen, ← e1]
      simpa using ht)
    have hk := Try.slices_Sort_int g 0 cap (X.map fun n : Nat => (n : Int)) w hH (heap_lt hg) (by rw [hlen]; omega)
    rw [hlen] at hk
    refine hk.mono ?_
    rintro e w' ⟨rfl, n, os, rfl⟩
    refine ⟨rfl, ?_, ?_⟩
    · have := ownsRow_sortedI (base := base) (os := os) (n := n) (ss := X.map fun n : Nat => (n : Int)) (ts := srt X) (by rw [srt_len, hlen]) hb hg (by rw [hlen]; exact hn) hm hs
      rw [hlen] at this
      exact this
    · exact (Below.refl base w).grown (grownBy_sortedI _) (Nat.le_trans hb (Nat.le_of_lt (heap_lt hg))) (fun k hk => by cases hk; exact hb)

end Go.Proofs.Ytjdmjiikpnlkjaa
