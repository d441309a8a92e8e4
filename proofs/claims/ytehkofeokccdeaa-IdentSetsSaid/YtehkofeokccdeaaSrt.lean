/-
  slices.SortFunc at identifiers that fit, under Compare: the row holds them in order. Condition: the row lies in a block from B0 on, none of it is frozen.
-/
import Derived.Test.YtehkofeokccdeaaLcmp
import Derived.Test.YtehkofeokccdeaaLex
import Derived.Test.YtehkofeokccdeaaIrow
import Derived.Test.YtehkofeokccdeaaSort
namespace Go.Proofs.Ytehkofeokccdeaa
set_option linter.unusedSimpArgs false
set_option linter.unusedVariables false
open Go.RowKit Go.Sort Go.Shelf

/-- identifiers that fit. -/
abbrev Fx := {x : I10 // x.Fit}
instance : Inhabited Fx := ⟨⟨⟨0, 0, 0, 0, 0, 0, 0, 0, 0, 0⟩, ⟨by decide, by decide, fun _ => ⟨rfl, rfl⟩, fun _ => ⟨rfl, rfl⟩, fun _ => ⟨rfl, rfl⟩⟩⟩⟩
def Fx.enc (x : Fx) : List Value := x.1.cells
def Fx.cf (x y : Fx) : Int := x.1.cmp y.1

theorem Fx.lt_iff {x y : Fx} : ltOf Fx.cf x y = true ↔ x.1.cmp y.1 < 0 := decide_eq_true_iff
theorem Fx.nlt_iff {x y : Fx} : ltOf Fx.cf x y = false ↔ y.1.cmp x.1 ≤ 0 := by
  have := cmp_anti y.2 x.2
  have h : ltOf Fx.cf x y = false ↔ ¬ x.1.cmp y.1 < 0 := decide_eq_false_iff_not
  rw [h]
  omega

theorem Fx.swo : SWO (ltOf Fx.cf) where
  irrefl x := by
    rw [Fx.nlt_iff]
    have := (cmp_zero x.2 x.2).2 rfl
    omega
  trans x y z h1 h2 := by
    rw [Fx.lt_iff] at *
    have a := cmp_trans x.2 y.2 z.2 (by omega) (by omega)
    have b := cmp_anti x.2 y.2
    have c := cmp_anti y.2 z.2
    have d := cmp_anti x.2 z.2
    rcases Int.lt_or_eq_of_le a with h | h
    · exact h
    · have e := cmp_trans z.2 x.2 y.2 (by omega) (by omega)
      omega
  ntrans x y z h1 h2 := by
    rw [Fx.nlt_iff] at *
    exact cmp_trans z.2 y.2 x.2 h2 h1

theorem Fx.total (x y : Fx) (h1 : ltOf Fx.cf x y = false) (h2 : ltOf Fx.cf y x = false) : x = y := by
  rw [Fx.nlt_iff] at *
  have := cmp_anti x.2 y.2
  exact Subtype.ext ((cmp_zero x.2 y.2).1 (by omega))

theorem Fx.len (x : Fx) : x.enc.length = 10 := rfl
theorem Fx.one (x : Fx) : ∀ v ∈ x.enc, v.oneCell' = true := by
  intro v h
  simp only [Fx.enc, I10.cells, List.mem_cons, List.not_mem_nil, or_false] at h
  rcases h with rfl | rfl | rfl | rfl | rfl | rfl | rfl | rfl | rfl | rfl <;> rfl

theorem Fx.lays (blk off size : Nat) (w : World) : CmpLays Try.prog 30 #[] Fx.enc 10 Fx.cf blk off size w :=
  fun _ _ _ _ x y => L.compare_lays _ _ _ _ _ _ _ _ _ _ _ _ _ _ _ _ _ _ _ _ _ x.2.d0 y.2.d0

theorem IdAt.cell_ {W : World} {b o : Nat} {x : I10} (h : IdAt W b o x) (c : Nat) (hc : c < 10) : W.cell? ⟨b, o + c, none⟩ = some x.cells[c]! := by
  have : c = 0 ∨ c = 1 ∨ c = 2 ∨ c = 3 ∨ c = 4 ∨ c = 5 ∨ c = 6 ∨ c = 7 ∨ c = 8 ∨ c = 9 := by omega
  rcases this with rfl | rfl | rfl | rfl | rfl | rfl | rfl | rfl | rfl | rfl
  · exact h.c0
  · exact h.c1
  · exact h.c2
  · exact h.c3
  · exact h.c4
  · exact h.c5
  · exact h.c6
  · exact h.c7
  · exact h.c8
  · exact h.c9

theorem holds_of_rows {w : World} {b o : Nat} {d : Array Fx} (hr : ∀ i, i < d.size → IdAt w b (o + i * 10) d[i]!.1) (hf : ∀ j, w.frozen? ⟨b, j, none⟩ = false) : HoldsK Fx.enc 10 w b o d := by
  intro j hj
  rw [size_flatK] at hj
  refine ⟨?_, hf _⟩
  rw [get_flatK _ _ _ _ hj]
  have h := (hr (j / 10) (by omega)).cell_ (j % 10) (by omega)
  rw [show o + j / 10 * 10 + j % 10 = o + j by omega] at h
  exact h

theorem rows_of_holds {w : World} {b o : Nat} {d : Array Fx} (h : HoldsK Fx.enc 10 w b o d) (i : Nat) (hi : i < d.size) : IdAt w b (o + i * 10) d[i]!.1 :=
  ⟨(h.cell hi (c := 0) (by decide)).1, (h.cell hi (c := 1) (by decide)).1, (h.cell hi (c := 2) (by decide)).1, (h.cell hi (c := 3) (by decide)).1, (h.cell hi (c := 4) (by decide)).1,
   (h.cell hi (c := 5) (by decide)).1, (h.cell hi (c := 6) (by decide)).1, (h.cell hi (c := 7) (by decide)).1, (h.cell hi (c := 8) (by decide)).1, (h.cell hi (c := 9) (by decide)).1⟩

/-- **slices.SortFunc under Compare.** -/
theorem sortIDs (B0 b o cap : Nat) (d : Array Fx) (w : World) (hB : B0 ≤ b) (hb : b < w.heap.size) (hr : ∀ i, i < d.size → IdAt w b (o + i * 10) d[i]!.1) (hf : ∀ j, w.frozen? ⟨b, j, none⟩ = false) (hs : d.size < 4611686018427387904) :
    Calls Try.prog 38 #[.slice (some ⟨b, o, none⟩) d.size cap, .func (.func 30) #[] #[]] w fun e w' => e = .returned (.tuple #[]) ∧ Below B0 w w' ∧
      ∃ d' : Array Fx, d' = (d.toList.mergeSort fun x y => !(ltOf Fx.cf) y x).toArray ∧ d'.size = d.size ∧ (∀ i, i < d'.size → IdAt w' b (o + i * 10) d'[i]!.1) ∧ ∀ j, w'.frozen? ⟨b, j, none⟩ = false := by
  have eg : ∀ args w, (callFunc 30 args).run Try.prog w = .ok (.enter 30 args) w := enters_of Try.func30 (by kernel_rfl) rfl
  have hH := holds_of_rows hr hf
  refine (AnyQ.slices_SortFunc_total Try.sortID 10 (fun _ => by kernel_rfl) (fun _ => by kernel_rfl) Fx.enc Fx.len Fx.one Fx.cf Fx.swo 30 #[] b o cap d w eg (Fx.lays b o d.size w) hH hb hs Fx.total).mono ?_
  rintro e w' ⟨rfl, n, os, rfl⟩
  have hsz : (d.toList.mergeSort fun x y => !(ltOf Fx.cf) y x).toArray.size = d.size := by simp
  generalize (d.toList.mergeSort fun x y => !(ltOf Fx.cf) y x).toArray = d' at hsz ⊢
  refine ⟨rfl, ⟨rfl, rfl, rfl, ?_, fun k hk => ?_⟩, d', rfl, hsz, ?_⟩
  · simp [sortWorldK, grow, putRowK, putRow, mapBlock, Sort.ahead]
  · have h1 : k < w.heap.size := by omega
    have h2 : b ≠ k := by omega
    simp [sortWorldK, grow, putRowK, putRow, mapBlock, Sort.ahead, Array.getElem?_append, Array.getElem?_modify, Array.getElem_modify, h1, h2]
  · have h := holdsK_grow Fx.enc 10 (putRowK Fx.enc 10 (Sort.ahead w n) b o d') os b o d' (by simp [putRowK, putRow, mapBlock, Sort.ahead]; exact hb) (holdsK_putRowK Fx.enc 10 (Sort.ahead w n) b o d d' (holdsK_ahead Fx.enc 10 w n b o d hH) hsz)
    refine ⟨fun i hi => rows_of_holds h i hi, fun j => ?_⟩
    have e : (sortWorldK Fx.enc 10 w b o n d' os).frozen? ⟨b, j, none⟩ = (putRowK Fx.enc 10 (Sort.ahead w n) b o d').frozen? ⟨b, j, none⟩ := World.frozen?_of_block (heap_grow_old _ _ (by simp [putRowK, putRow, mapBlock, Sort.ahead]; exact hb))
    rw [e]
    exact (frozen?_putRow id (Sort.ahead w n) b o _ _).trans (hf j)

end Go.Proofs.Ytehkofeokccdeaa
