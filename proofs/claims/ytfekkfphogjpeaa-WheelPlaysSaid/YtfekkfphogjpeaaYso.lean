/-
  slices.SortFunc over the places of two rows, under inOrder's comparison: the places in the order of their timers. Condition: the rows lie in memory, all timers are different, each number of a key fits its kind.
-/
import Derived.Test.YtfekkfphogjpeaaYci
import Derived.Test.YtfekkfphogjpeaaShelf
import Derived.Sort.Grow
import Derived.Sort.LotA
namespace Go.Proofs.Ytfekkfphogjpeaa
set_option linter.unusedSimpArgs false
set_option linter.unusedVariables false
open Go.RowKit Go.Sort Go.Shelf

def idx (L : List Tm) (i : Fin L.length) : Tm := L[i.val]
def encI {n : Nat} (i : Fin n) : Value := .int .i64 (i.val : Int)
def tcf (L : List Tm) (i j : Fin L.length) : Int := (idx L i).cmp (idx L j)
theorem idx_mem (L : List Tm) (i : Fin L.length) : idx L i ∈ L := List.getElem_mem _
section
variable {L : List Tm} (hR : ∀ t ∈ L, t.k.Rng) (hN : L.Nodup)
include hR
omit hR in
theorem tlt_iff {i j : Fin L.length} : ltOf (tcf L) i j = true ↔ tcf L i j < 0 := decide_eq_true_iff
theorem tnlt_iff {i j : Fin L.length} : ltOf (tcf L) i j = false ↔ tcf L j i ≤ 0 := by
  have h : ltOf (tcf L) i j = false ↔ ¬ tcf L i j < 0 := decide_eq_false_iff_not
  rw [h]
  have := tcmp_anti (hR _ (idx_mem L i)) (hR _ (idx_mem L j))
  unfold tcf
  omega
theorem tcf_trans {i j k : Fin L.length} (h : tcf L i j ≤ 0) (h' : tcf L j k ≤ 0) : tcf L i k ≤ 0 := tcmp_trans (hR _ (idx_mem L i)) (hR _ (idx_mem L j)) (hR _ (idx_mem L k)) h h'
theorem tswo : SWO (ltOf (tcf L)) where
  irrefl i := by
    rw [tnlt_iff hR]
    have : tcf L i i = 0 := tcmp_zero.2 rfl
    omega
  trans i j k h1 h2 := by
    rw [tlt_iff] at *
    exact tcmp_lt (hR _ (idx_mem L i)) (hR _ (idx_mem L j)) (hR _ (idx_mem L k)) h1 h2
  ntrans i j k h1 h2 := by
    rw [tnlt_iff hR] at *
    exact tcf_trans hR h2 h1
include hN
theorem ttotal (i j : Fin L.length) (h1 : ltOf (tcf L) i j = false) (h2 : ltOf (tcf L) j i = false) : i = j := by
  rw [tnlt_iff hR] at *
  have h3 := tcmp_anti (hR _ (idx_mem L i)) (hR _ (idx_mem L j))
  have h4 : tcf L i j = 0 := by unfold tcf at *; omega
  have h5 : L[i.val] = L[j.val] := tcmp_zero.1 h4
  exact Fin.ext ((List.getElem?_inj i.isLt hN).1 (by rw [List.getElem?_eq_getElem i.isLt, List.getElem?_eq_getElem j.isLt, h5]))
omit hN
theorem sorted_le (X : List (Fin L.length)) : (X.mergeSort fun x y => !(ltOf (tcf L)) y x).Pairwise fun i j => tcf L i j ≤ 0 := by
  have h := List.pairwise_mergeSort (le := fun x y => !(ltOf (tcf L)) y x) (fun a b c h1 h2 => by
    simp only [Bool.not_eq_true'] at *
    rw [tnlt_iff hR] at *
    exact tcf_trans hR h1 h2) (fun a b => by
    cases h : ltOf (tcf L) b a
    · simp
    · rw [tlt_iff] at h
      have : ltOf (tcf L) a b = false := by
        rw [tnlt_iff hR]
        omega
      simp [this]) X
  refine h.imp ?_
  intro a b hab
  simp only [Bool.not_eq_true'] at hab
  rwa [tnlt_iff hR] at hab
end

theorem sw_heap {α : Type} [Inhabited α] (enc : α → Value) (w : World) (blk off m : Nat) (dk : Array α) (os : Array Obj) (k : Nat) (hk : k < w.heap.size) (hb : blk ≠ k) : (sortWorld enc w blk off m dk os).heap[k]? = w.heap[k]? := by
  simp [sortWorld, grow, putRow, mapBlock, Sort.ahead, Array.getElem?_append, Array.getElem?_modify, Array.getElem_modify, hk, hb]

theorem map_idx (L : List Tm) : (List.finRange L.length).map (idx L) = L := by
  apply List.ext_getElem
  · simp
  · intro i h1 h2
    simp [idx]

/-- **slices.SortFunc under inOrder's comparison.** -/
theorem sortI (L : List Tm) (hne : L ≠ []) (hR : ∀ t ∈ L, t.k.Rng) (hN : L.Nodup) (hs : L.length < 1000000000) (W : World) (g cap tb kb tg kg ct ck : Nat) (hg : g < W.heap.size) (g1 : g ≠ tb) (g2 : g ≠ kb) (g3 : g ≠ tg) (g4 : g ≠ kg)
    (ht : W.cell? ⟨tb, 0, none⟩ = some (.slice (some ⟨tg, 0, none⟩) L.length ct)) (hk : W.cell? ⟨kb, 0, none⟩ = some (.slice (some ⟨kg, 0, none⟩) L.length ck))
    (hT : ∀ i t, L[i]? = some t → W.cell? ⟨tg, i, none⟩ = some (.int .i64 t.at_)) (hK : ∀ i t, L[i]? = some t → KAt W kg (i * 13) t.k)
    (hr : ∀ i, i < L.length → W.cell? ⟨g, i, none⟩ = some (.int .i64 (i : Int))) (hf : ∀ j, W.frozen? ⟨g, j, none⟩ = false) :
    Calls Try.prog 38 #[.slice (some ⟨g, 0, none⟩) L.length cap, .func (.func 39) #[] #[.pointer (some ⟨tb, 0, none⟩), .pointer (some ⟨kb, 0, none⟩)]] W fun e W' => e = .returned (.tuple #[]) ∧
      ∃ S : List (Fin L.length), (S.map (idx L)).Perm L ∧ (S.Pairwise fun i j => tcf L i j ≤ 0) ∧ S.length = L.length ∧ (∀ j i, S[j]? = some i → W'.cell? ⟨g, j, none⟩ = some (.int .i64 (i.val : Int))) ∧ W.grownBy W' (some g) := by
  have hpos : 0 < L.length := List.length_pos_iff.2 hne
  let inst : Inhabited (Fin L.length) := ⟨⟨0, hpos⟩⟩
  have eg : ∀ args w, (callFunc 39 args).run Try.prog w = .ok (.enter 39 args) w := enters_of Try.func39 (by kernel_rfl) rfl
  have hsz0 : (List.finRange L.length).toArray.size = L.length := by simp
  have hH : Holds encI W g 0 (List.finRange L.length).toArray := by
    intro j hj
    have hj' : j < L.length := by simpa using hj
    refine ⟨?_, hf _⟩
    rw [Nat.zero_add, getElem!_pos _ j hj, hr j hj']
    simp [encI]
  have ltb := World.block_lt_of_cell? W _ ht
  have lkb := World.block_lt_of_cell? W _ hk
  have ltg := World.block_lt_of_cell? W _ (hT 0 _ (List.getElem?_eq_getElem hpos))
  have lkg := World.block_lt_of_cell? W _ (hK 0 _ (List.getElem?_eq_getElem hpos) 0 _ rfl)
  have lays : CmpLays1 Try.prog 39 #[.pointer (some ⟨tb, 0, none⟩), .pointer (some ⟨kb, 0, none⟩)] encI (tcf L) g 0 (List.finRange L.length).toArray.size W := by
    intro m os dk hdk i j
    have e1 := sw_heap encI W g 0 m dk os
    have hi : (i.val : Int) < (L.length : Int) := by have := i.isLt; omega
    have hj : (j.val : Int) < (L.length : Int) := by have := j.isLt; omega
    refine (Go.Proofs.Ytfekkfphogjpeaa.L.cmpIdx (sortWorld encI W g 0 m dk os) tb kb tg kg ct ck L.length i.val j.val (idx L i).at_ (idx L j).at_ (idx L i).k (idx L j).k (hR _ (idx_mem L i)) (hR _ (idx_mem L j)) ((cell_same (e1 tb ltb g1)).trans ht) ((cell_same (e1 kb lkb g2)).trans hk) hi hj
      ((cell_same (e1 tg ltg g3)).trans (hT _ _ (List.getElem?_eq_getElem i.isLt))) ((cell_same (e1 tg ltg g3)).trans (hT _ _ (List.getElem?_eq_getElem j.isLt))) ((hK _ _ (List.getElem?_eq_getElem i.isLt)).same (e1 kg lkg g4)) ((hK _ _ (List.getElem?_eq_getElem j.isLt)).same (e1 kg lkg g4))).mono ?_
    rintro e w' ⟨he, hb⟩
    obtain ⟨p, hp⟩ := Go.Proofs.Ytfekkfphogjpeaa.L.regrown_of_below hb
    exact ⟨he, p.d, p.os, hp⟩
  have h := Any.slices_SortFunc Try.sortInt encI (fun _ => rfl) (tcf L) (tswo hR) 39 #[.pointer (some ⟨tb, 0, none⟩), .pointer (some ⟨kb, 0, none⟩)] g 0 cap (List.finRange L.length).toArray W eg lays hH hg (by rw [hsz0]; omega)
  rw [hsz0] at h
  refine h.mono ?_
  rintro e W' ⟨rfl, d', n, os, hp, hso, rfl⟩
  have hd' := sorted_unique_holds (tswo hR) (ttotal hR hN) (List.finRange L.length).toArray d' (by rw [hsz0]; exact hp) (by rw [hsz0]; exact hso)
  have hP := List.mergeSort_perm (List.finRange L.length) (fun x y => !(ltOf (tcf L)) y x)
  have hA := sorted_le hR (List.finRange L.length)
  rw [show (List.finRange L.length).toArray.toList = List.finRange L.length from rfl] at hd'
  generalize ((List.finRange L.length).mergeSort fun x y => !(ltOf (tcf L)) y x) = S at hd' hP hA
  obtain rfl : d' = S.toArray := by rw [← hd']
  clear hd'
  have hlS : S.length = L.length := by rw [hP.length_eq]; simp
  refine ⟨rfl, S, ?_, hA, hlS, ?_, ?_⟩
  · have := hP.map (idx L)
    rwa [map_idx] at this
  · intro j i hj
    have hh := holds_grow encI (putRow encI (Sort.ahead W n) g 0 S.toArray) os g 0 S.toArray (by simp [putRow, mapBlock, Sort.ahead]; exact hg) (holds_putRow encI (Sort.ahead W n) g 0 (List.finRange L.length).toArray S.toArray (holds_ahead encI W n g 0 _ hH) (by simp [hlS]))
    obtain ⟨hjl, hje⟩ := List.getElem?_eq_some_iff.1 hj
    have := (hh j (by simpa using hjl)).1
    rw [Nat.zero_add, getElem!_pos S.toArray j (by simpa using hjl)] at this
    rw [← hje]
    simp only [encI, List.getElem_toArray] at this
    exact this
  · exact ⟨rfl, rfl, rfl, by simp [sortWorld, grow, putRow, mapBlock, Sort.ahead], fun k hk hne => sw_heap encI W g 0 n S.toArray os k hk (by rintro rfl; exact hne rfl)⟩

end Go.Proofs.Ytfekkfphogjpeaa
