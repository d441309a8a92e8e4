/-
  slices.SortFunc at the writes of a list in which no two have one key, by their keys: the row holds them by rising keys. Condition: the row lies in a block from B0 on, none of it is frozen.
-/
import Derived.Test.YthmdnbgfnaokkaaDoorQkap
import Derived.Test.YthmdnbgfnaokkaaDoorShelf
import Derived.Lib.Bytealg
import Derived.Sort.Grow
namespace Go.Proofs.YthmdnbgfnaokkaaDoor
set_option linter.unusedSimpArgs false
set_option linter.unusedVariables false
open Go.RowKit Go.Sort Go.Shelf Go.Lib

theorem cb_anti : ∀ a b : List UInt8, compareBytes b a = - compareBytes a b
  | [], [] => rfl
  | [], _ :: _ => rfl
  | _ :: _, [] => rfl
  | a :: p, b :: q => by
    have ih := cb_anti p q
    simp only [compareBytes, UInt8.lt_iff_toNat_lt]
    split <;> split <;> first | rfl | omega
theorem cb_zero : ∀ a b : List UInt8, compareBytes a b = 0 ↔ a = b
  | [], [] => by simp [compareBytes]
  | [], _ :: _ => by simp [compareBytes]
  | _ :: _, [] => by simp [compareBytes]
  | a :: p, b :: q => by
    have ih := cb_zero p q
    simp only [compareBytes, UInt8.lt_iff_toNat_lt, List.cons.injEq]
    by_cases h1 : a.toNat < b.toNat
    · rw [if_pos h1]
      refine ⟨fun h => by omega, fun ⟨h, _⟩ => by rw [h] at h1; omega⟩
    · rw [if_neg h1]
      by_cases h2 : b.toNat < a.toNat
      · rw [if_pos h2]
        refine ⟨fun h => by omega, fun ⟨h, _⟩ => by rw [h] at h2; omega⟩
      · rw [if_neg h2, ih]
        have e : a = b := UInt8.toNat_inj.1 (by omega)
        simp [e]
theorem cb_trans : ∀ a b c : List UInt8, compareBytes a b ≤ 0 → compareBytes b c ≤ 0 → compareBytes a c ≤ 0
  | [], _, [], _, _ => by simp [compareBytes]
  | [], _, _ :: _, _, _ => by simp [compareBytes]
  | _ :: _, [], _, h, _ => by simp [compareBytes] at h
  | _ :: _, _ :: _, [], _, h => by simp [compareBytes] at h
  | a :: p, b :: q, c :: r, h1, h2 => by
    have ih := cb_trans p q r
    simp only [compareBytes, UInt8.lt_iff_toNat_lt] at *
    by_cases p1 : a.toNat < b.toNat
    · by_cases p2 : b.toNat < c.toNat
      · rw [if_pos (by omega)]; omega
      · by_cases p3 : c.toNat < b.toNat
        · rw [if_neg p2, if_pos p3] at h2; omega
        · rw [if_pos (by omega)]; omega
    · rw [if_neg p1] at h1
      by_cases q1 : b.toNat < a.toNat
      · rw [if_pos q1] at h1; omega
      · rw [if_neg q1] at h1
        by_cases p2 : b.toNat < c.toNat
        · rw [if_pos (by omega)]; omega
        · rw [if_neg p2] at h2
          by_cases p3 : c.toNat < b.toNat
          · rw [if_pos p3] at h2; omega
          · rw [if_neg p3] at h2
            rw [if_neg (by omega), if_neg (by omega)]
            exact ih h1 h2
def W3.cmp (x y : W3) : Int := compareBytes x.key.data.toList y.key.data.toList
theorem cmpW_anti (x y : W3) : y.cmp x = - x.cmp y := cb_anti _ _
theorem cmpW_zero (x y : W3) : x.cmp y = 0 ↔ x.key = y.key := by
  unfold W3.cmp
  rw [cb_zero]
  exact ⟨fun h => ByteArray.ext (Array.ext' h), fun h => by rw [h]⟩
theorem cmpW_trans {x y z : W3} (h1 : x.cmp y ≤ 0) (h2 : y.cmp z ≤ 0) : x.cmp z ≤ 0 := cb_trans _ _ _ h1 h2

/-- the writes of one list. -/
abbrev Fw (L : List W3) := {x : W3 // x ∈ L}
def Fw.enc {L : List W3} (x : Fw L) : List Value := x.1.cells
def Fw.cf {L : List W3} (x y : Fw L) : Int := x.1.cmp y.1
theorem Fw.lt_iff {L : List W3} {x y : Fw L} : ltOf Fw.cf x y = true ↔ x.1.cmp y.1 < 0 := decide_eq_true_iff
theorem Fw.nlt_iff {L : List W3} {x y : Fw L} : ltOf Fw.cf x y = false ↔ y.1.cmp x.1 ≤ 0 := by
  have := cmpW_anti y.1 x.1
  have h : ltOf Fw.cf x y = false ↔ ¬ x.1.cmp y.1 < 0 := decide_eq_false_iff_not
  rw [h]
  omega
theorem Fw.swo (L : List W3) : SWO (ltOf (Fw.cf (L := L))) where
  irrefl x := by
    rw [Fw.nlt_iff]
    have := (cmpW_zero x.1 x.1).2 rfl
    omega
  trans x y z h1 h2 := by
    rw [Fw.lt_iff] at *
    have a := cmpW_trans (x := x.1) (y := y.1) (z := z.1) (by omega) (by omega)
    have b := cmpW_anti x.1 y.1
    have c := cmpW_anti y.1 z.1
    have d := cmpW_anti x.1 z.1
    rcases Int.lt_or_eq_of_le a with h | h
    · exact h
    · have e := cmpW_trans (x := z.1) (y := x.1) (z := y.1) (by omega) (by omega)
      omega
  ntrans x y z h1 h2 := by
    rw [Fw.nlt_iff] at *
    exact cmpW_trans h2 h1
theorem Fw.total {L : List W3} (hp : L.Pairwise fun x y => x.key ≠ y.key) (x y : Fw L) (h1 : ltOf Fw.cf x y = false) (h2 : ltOf Fw.cf y x = false) : x = y := by
  rw [Fw.nlt_iff] at *
  have := cmpW_anti x.1 y.1
  exact Subtype.ext (pw_same hp x.2 y.2 ((cmpW_zero x.1 y.1).1 (by omega)))
theorem Fw.len {L : List W3} (x : Fw L) : x.enc.length = 3 := rfl
theorem Fw.one {L : List W3} (x : Fw L) : ∀ v ∈ x.enc, v.oneCell' = true := by
  intro v h
  simp only [Fw.enc, W3.cells, List.mem_cons, List.not_mem_nil, or_false] at h
  rcases h with rfl | rfl | rfl <;> rfl

set_option maxHeartbeats 1000000 in
theorem cmpFn (x y : W3) (w : World) : Calls Tryd.prog 38 #[.agg #[.string x.key, .string x.val, .bool x.has], .agg #[.string y.key, .string y.val, .bool y.has]] w fun e w' => e = .returned (.int .i64 (x.cmp y)) ∧ ∃ q os, w' = grow (w.drewN q) os := by
  go_enter Tryd.func38, Tryd.ntmps38
  go_wp2_with (go_at_call 39; refine (Tryd.strings_Compare _ _ _).mono ?_; rintro e w' ⟨rfl, rfl⟩)
  go_ret
  refine ⟨rfl, 0, #[.cells #[.string x.key, .string x.val, .bool x.has] 75, .cells #[.string y.key, .string y.val, .bool y.has] 75], ?_⟩
  show ({ w with heap := (w.heap.push _).push _ } : World) = _
  simp [grow, World.drewN]
  apply Array.ext'
  simp
theorem Fw.lays {L : List W3} [Inhabited (Fw L)] (blk off size : Nat) (w : World) : CmpLays Tryd.prog 38 #[] (Fw.enc (L := L)) 3 Fw.cf blk off size w :=
  fun _ _ _ _ x y => cmpFn x.1 y.1 _

theorem WrAt.cell_ {W : World} {b o : Nat} {x : W3} (h : WrAt W b o x) (c : Nat) (hc : c < 3) : W.cell? ⟨b, o + c, none⟩ = some x.cells[c]! := by
  have : c = 0 ∨ c = 1 ∨ c = 2 := by omega
  rcases this with rfl | rfl | rfl
  · exact h.c0
  · exact h.c1
  · exact h.c2
section
variable {L : List W3} [Inhabited (Fw L)]
theorem holdsW_of_rows {w : World} {b o : Nat} {d : Array (Fw L)} (hr : ∀ i, i < d.size → WrAt w b (o + i * 3) d[i]!.1) (hf : ∀ j, w.frozen? ⟨b, j, none⟩ = false) : HoldsK Fw.enc 3 w b o d := by
  intro j hj
  rw [size_flatK] at hj
  refine ⟨?_, hf _⟩
  rw [get_flatK _ _ _ _ hj]
  have h := (hr (j / 3) (by omega)).cell_ (j % 3) (by omega)
  rw [show o + j / 3 * 3 + j % 3 = o + j by omega] at h
  exact h
theorem rowsW_of_holds {w : World} {b o : Nat} {d : Array (Fw L)} (h : HoldsK Fw.enc 3 w b o d) (i : Nat) (hi : i < d.size) : WrAt w b (o + i * 3) d[i]!.1 :=
  ⟨(h.cell hi (c := 0) (by decide)).1, (h.cell hi (c := 1) (by decide)).1, (h.cell hi (c := 2) (by decide)).1⟩

/-- slices.SortFunc by keys. -/
theorem sortWs (hp : L.Pairwise fun x y => x.key ≠ y.key) (B0 b o cap : Nat) (d : Array (Fw L)) (w : World) (hB : B0 ≤ b) (hb : b < w.heap.size) (hr : ∀ i, i < d.size → WrAt w b (o + i * 3) d[i]!.1) (hf : ∀ j, w.frozen? ⟨b, j, none⟩ = false) (hs : d.size < 4611686018427387904) :
    Calls Tryd.prog 73 #[.slice (some ⟨b, o, none⟩) d.size cap, .func (.func 38) #[] #[]] w fun e w' => e = .returned (.tuple #[]) ∧ Below B0 w w' ∧
      ∃ d' : Array (Fw L), d' = (d.toList.mergeSort fun x y => !(ltOf Fw.cf) y x).toArray ∧ d'.size = d.size ∧ (∀ i, i < d'.size → WrAt w' b (o + i * 3) d'[i]!.1) ∧ ∀ j, w'.frozen? ⟨b, j, none⟩ = false := by
  have eg : ∀ args w, (callFunc 38 args).run Tryd.prog w = .ok (.enter 38 args) w := enters_of Tryd.func38 (by kernel_rfl) rfl
  have hH := holdsW_of_rows hr hf
  refine (AnyQ.slices_SortFunc_total Tryd.sortW 3 (fun _ => by kernel_rfl) (fun _ => by kernel_rfl) Fw.enc Fw.len Fw.one Fw.cf (Fw.swo L) 38 #[] b o cap d w eg (Fw.lays b o d.size w) hH hb hs (Fw.total hp)).mono ?_
  rintro e w' ⟨rfl, n, os, rfl⟩
  have hsz : (d.toList.mergeSort fun x y => !(ltOf Fw.cf) y x).toArray.size = d.size := by simp
  generalize (d.toList.mergeSort fun x y => !(ltOf Fw.cf) y x).toArray = d' at hsz ⊢
  refine ⟨rfl, ⟨rfl, rfl, rfl, ?_, fun k hk => ?_⟩, d', rfl, hsz, ?_⟩
  · simp [sortWorldK, grow, putRowK, putRow, mapBlock, Sort.ahead]
  · have h1 : k < w.heap.size := by omega
    have h2 : b ≠ k := by omega
    simp [sortWorldK, grow, putRowK, putRow, mapBlock, Sort.ahead, Array.getElem?_append, Array.getElem?_modify, Array.getElem_modify, h1, h2]
  · have h := holdsK_grow Fw.enc 3 (putRowK Fw.enc 3 (Sort.ahead w n) b o d') os b o d' (by simp [putRowK, putRow, mapBlock, Sort.ahead]; exact hb) (holdsK_putRowK Fw.enc 3 (Sort.ahead w n) b o d d' (holdsK_ahead Fw.enc 3 w n b o d hH) hsz)
    refine ⟨fun i hi => rowsW_of_holds h i hi, fun j => ?_⟩
    have e : (sortWorldK Fw.enc 3 w b o n d' os).frozen? ⟨b, j, none⟩ = (putRowK Fw.enc 3 (Sort.ahead w n) b o d').frozen? ⟨b, j, none⟩ := World.frozen?_of_block (heap_grow_old _ _ (by simp [putRowK, putRow, mapBlock, Sort.ahead]; exact hb))
    rw [e]
    exact (frozen?_putRow id (Sort.ahead w n) b o _ _).trans (hf j)
end

end Go.Proofs.YthmdnbgfnaokkaaDoor
