/-
  The two Sets of the law IdentSets side by side: what an Add and a Remove make of each, in the same words. Condition: their state.
-/
import Derived.Test.YtehkofeokccdeaaIad
import Derived.Test.YtehkofeokccdeaaUds
import Derived.Test.YtehkofeokccdeaaIsam
import Derived.Test.YtehkofeokccdeaaIund
import Derived.Test.YtehkofeokccdeaaOrk
import Derived.Maps.OwnSet
namespace Go.Proofs.Ytehkofeokccdeaa
set_option linter.unusedSimpArgs false
set_option linter.unusedVariables false
open Go.RowKit Go.Maps Go.Sort Go.Shelf

/-- all are right, and in order. -/
structure XOk (X : List I10) : Prop where
  ok : ∀ y ∈ X, y.ok = true
  rng : ∀ y ∈ X, y.Rng
  ord : Ord X
theorem XOk.fit {X : List I10} (h : XOk X) : ∀ y ∈ X, y.Fit := fun y hy => fit_of_ok (h.rng y hy).d.1 (h.ok y hy)
theorem XOk.nil : XOk [] := ⟨(fun _ h => by cases h), (fun _ h => by cases h), List.Pairwise.nil⟩
theorem XOk.at_ {X : List I10} (h : XOk X) (x : I10) : isAt X x = true ↔ x ∈ X := by
  constructor
  · intro k
    unfold isAt at k
    split at k
    · rename_i y hy
      obtain rfl := eqI_iff.1 k
      exact List.mem_of_getElem? hy
    · cases k
  · exact fun k => (isAt_iff x (h.fit x k) X h.fit h.ord).2 k

def addN (X : List I10) (most : Int) (x : I10) : Int := if x.ok = false then 1 else if isAt X x = true then 4 else if most ≤ (X.length : Int) then 11 else 0
def addX (X : List I10) (most : Int) (x : I10) : List I10 := if x.ok = false then X else if isAt X x = true then X else if most ≤ (X.length : Int) then X else ins X x
def remX (X : List I10) (x : I10) : List I10 := if isAt X x = true then rmv X x else X
theorem addX_len (X : List I10) (most : Int) (x : I10) : (addX X most x).length ≤ X.length + 1 := by
  unfold addX
  split
  · omega
  split
  · omega
  split
  · omega
  · rw [(perm_ins X x).length_eq, List.length_cons]; omega
theorem remX_len (X : List I10) (x : I10) : (remX X x).length ≤ X.length := by
  unfold remX
  split
  · rename_i h
    have := (perm_rmv h).length_eq
    simp at this
    omega
  · omega
theorem XOk.add {X : List I10} {x : I10} (h : XOk X) (rx : x.Rng) (most : Int) : XOk (addX X most x) := by
  unfold addX
  split
  · exact h
  rename_i hx
  split
  · exact h
  split
  · exact h
  · have hx' : x.ok = true := by simpa using hx
    refine ⟨fun y hy => ?_, fun y hy => ?_, ord_ins x (fit_of_ok rx.d.1 hx') X h.fit h.ord⟩
    · rcases mem_ins.1 hy with rfl | hm
      · exact hx'
      · exact h.ok y hm
    · rcases mem_ins.1 hy with rfl | hm
      · exact rx
      · exact h.rng y hm
theorem XOk.rem {X : List I10} {x : I10} (h : XOk X) : XOk (remX X x) := by
  unfold remX
  split
  · rename_i ha
    have hs : ∀ y ∈ rmv X x, y ∈ X := fun y hy => (perm_rmv ha).mem_iff.2 (List.mem_cons_of_mem _ hy)
    exact ⟨fun y hy => h.ok y (hs y hy), fun y hy => h.rng y (hs y hy), ord_rmv x h.ord⟩
  · exact h
theorem fnd_le (X : List I10) (x : I10) : fnd X x ≤ X.length := by
  induction X with
  | nil => simp [fnd]
  | cons a X ih =>
    by_cases h : a.cmp x < 0
    · rw [fnd_pos h]; simpa using ih
    · rw [fnd_zero h]; simp

theorem grown_of_below {W W' : World} (hb : Below W.heap.size W W') (row : Option Nat) : W.grownBy W' row := ⟨hb.os, hb.tape, hb.output, hb.size, fun k hk _ => hb.block k hk⟩
theorem grown_set {W W1 : World} {rb : Nat} {v : Value} (hb : Below W.heap.size W W1) : W.grownBy (W1.setCell ⟨rb, 0, none⟩ v) (some rb) :=
  ⟨hb.os, hb.tape, hb.output, by simpa [World.setCell] using hb.size, fun k hk hne => (Below.heap_setCell _ _ _ _ (fun e => hne (by rw [e]))).trans (hb.block k hk)⟩

/-- The program's Set. -/
def PS (b bm : Nat) (most : Int) (k : Nat) (X : List I10) (W : World) : Prop :=
  W.cell? ⟨b, 0, none⟩ = some (.int .i64 most) ∧ W.cell? ⟨b, 1, none⟩ = some (.map (some bm)) ∧ ∃ (nn : Nat) (D : DataW Unit), nn ≤ k ∧ W.ownsMap Try.prog 48 unitElem bm nn D ∧ KeysX D X
theorem PS.grown {b bm k : Nat} {most : Int} {X : List I10} {W W' : World} {row : Option Nat} (h : PS b bm most k X W) (hg : W.grownBy W' row) (h1 : some b ≠ row) (h2 : some bm ≠ row) : PS b bm most k X W' := by
  obtain ⟨c0, c1, nn, D, hk, O, K⟩ := h
  have hl := World.block_lt_of_cell? W _ c0
  exact ⟨(hg.cell_far ⟨b, 0, none⟩ hl h1).trans c0, (hg.cell_far ⟨b, 1, none⟩ hl h1).trans c1, nn, D, hk, O.kept hg h2, K⟩
theorem PS.below {b bm k : Nat} {most : Int} {X : List I10} {W W' : World} (h : PS b bm most k X W) (hb : Below W.heap.size W W') : PS b bm most k X W' := h.grown (grown_of_below hb none) (by simp) (by simp)

theorem progAdd (b bm k : Nat) (most : Int) (X : List I10) (x : I10) (W : World) (h : PS b bm most k X W) (hX : XOk X) (rx : x.Rng) (hk : k < maxLen) (hbb : b ≠ bm) :
    Calls Try.prog 7 #[.pointer (some ⟨b, 0, none⟩), .agg #[.int .u8 x.n, .int .u16 x.l, .int .u32 x.s, .int .u8 x.d, .int .u8 x.a0, .int .u8 x.a1, .int .u8 x.b0, .int .u8 x.b1, .int .u8 x.c0, .int .u8 x.c1]] W fun e W' => e = .returned (.int .i64 (addN X most x)) ∧ PS b bm most (k + 1) (addX X most x) W' ∧ W.grownBy W' (some bm) := by
  have h0 := h
  obtain ⟨c0, c1, nn, D, hk', O, K⟩ := h
  have up : ∀ {W'}, Below W.heap.size W W' → PS b bm most (k + 1) X W' := fun hb => by
    obtain ⟨c0, c1, nn, D, hk', O, K⟩ := h0.below hb
    exact ⟨c0, c1, nn, D, by omega, O, K⟩
  by_cases hx : x.ok = false
  · have e1 : addN X most x = 1 := by simp [addN, hx]
    have e2 : addX X most x = X := by simp [addX, hx]
    rw [e1, e2]
    exact (addSetArg b bm nn most D x rx W c0 c1 O hx).mono fun e W' ⟨he, hb⟩ => ⟨he, up hb, grown_of_below hb _⟩
  have hx' : x.ok = true := by simpa using hx
  by_cases ha : isAt X x = true
  · have e1 : addN X most x = 4 := by simp [addN, hx', ha]
    have e2 : addX X most x = X := by simp [addX, hx', ha]
    rw [e1, e2]
    exact (addSetThere b bm nn most D x rx W c0 c1 O hx' (K.has_ x ((hX.at_ x).1 ha))).mono fun e W' ⟨he, hb⟩ => ⟨he, up hb, grown_of_below hb _⟩
  have hn : x ∉ X := fun hm => ha ((hX.at_ x).2 hm)
  have hh := K.hasnt rx hn
  by_cases hf : most ≤ (X.length : Int)
  · have e1 : addN X most x = 11 := by simp [addN, hx', ha, hf]
    have e2 : addX X most x = X := by simp [addX, hx', ha, hf]
    rw [e1, e2]
    exact (addSetFull b bm nn most D x rx W c0 c1 O hx' hh (by rw [K.size]; exact hf)).mono fun e W' ⟨he, hb⟩ => ⟨he, up hb, grown_of_below hb _⟩
  · have e1 : addN X most x = 0 := by simp [addN, hx', ha, hf]
    have e2 : addX X most x = ins X x := by simp [addX, hx', ha, hf]
    rw [e1, e2]
    have hl := World.block_lt_of_cell? W _ c0
    exact (addSetOk b bm nn most D x rx W c0 c1 O hx' hh (by rw [K.size]; exact hf) (by omega)).mono fun e W' ⟨he, O', hg⟩ => ⟨he, ⟨(hg.cell_far ⟨b, 0, none⟩ hl (by simpa using hbb)).trans c0, (hg.cell_far ⟨b, 1, none⟩ hl (by simpa using hbb)).trans c1, nn + 1, _, by omega, O', K.put (O.tidy idKeyed) O.isMap rx hn (perm_ins X x) _⟩, hg⟩

theorem progRem (b bm k : Nat) (most : Int) (X : List I10) (x : I10) (W : World) (h : PS b bm most k X W) (hX : XOk X) (rx : x.Rng) (hbb : b ≠ bm) :
    Calls Try.prog 10 #[.pointer (some ⟨b, 0, none⟩), .agg #[.int .u8 x.n, .int .u16 x.l, .int .u32 x.s, .int .u8 x.d, .int .u8 x.a0, .int .u8 x.a1, .int .u8 x.b0, .int .u8 x.b1, .int .u8 x.c0, .int .u8 x.c1]] W fun e W' => e = .returned (.bool (isAt X x)) ∧ PS b bm most (k + 1) (remX X x) W' ∧ W.grownBy W' (some bm) := by
  have h0 := h
  obtain ⟨c0, c1, nn, D, hk', O, K⟩ := h
  have hl := World.block_lt_of_cell? W _ c0
  by_cases ha : isAt X x = true
  · have e2 : remX X x = rmv X x := by simp [remX, ha]
    rw [ha, e2]
    exact (remSetYes b bm nn D x rx W c1 O (K.has_ x ((hX.at_ x).1 ha))).mono fun e W' ⟨he, O', hg⟩ => ⟨he, ⟨(hg.cell_far ⟨b, 0, none⟩ hl (by simpa using hbb)).trans c0, (hg.cell_far ⟨b, 1, none⟩ hl (by simpa using hbb)).trans c1, nn, _, by omega, O', K.del (O.tidy idKeyed) (perm_rmv ha)⟩, hg⟩
  · have hn : x ∉ X := fun hm => ha ((hX.at_ x).2 hm)
    have e2 : remX X x = X := by simp [remX, ha]
    have e1 : isAt X x = false := by simpa using ha
    rw [e1, e2]
    exact (remSetNo b bm nn D x rx W c1 O (K.hasnt rx hn)).mono fun e W' ⟨he, hb⟩ => ⟨he, by
      obtain ⟨c0, c1, nn, D, hk', O, K⟩ := h0.below hb
      exact ⟨c0, c1, nn, D, by omega, O, K⟩, grown_of_below hb _⟩

theorem progHas (b bm k : Nat) (most : Int) (X : List I10) (x : I10) (W : World) (h : PS b bm most k X W) (hX : XOk X) (rx : x.Rng) :
    Calls Try.prog 13 #[.pointer (some ⟨b, 0, none⟩), .agg #[.int .u8 x.n, .int .u16 x.l, .int .u32 x.s, .int .u8 x.d, .int .u8 x.a0, .int .u8 x.a1, .int .u8 x.b0, .int .u8 x.b1, .int .u8 x.c0, .int .u8 x.c1]] W fun e W' => e = .returned (.bool (isAt X x)) ∧ Below W.heap.size W W' := by
  obtain ⟨c0, c1, nn, D, hk', O, K⟩ := h
  have e : Maps.has D x.lit = isAt X x := by
    cases ha : isAt X x with
    | true => exact K.has_ x ((hX.at_ x).1 ha)
    | false => exact K.hasnt rx fun hm => by have := (hX.at_ x).2 hm; rw [ha] at this; cases this
  rw [← e]
  exact hasSet b bm nn D x rx W c1 O
theorem progLen (b bm k : Nat) (most : Int) (X : List I10) (W : World) (h : PS b bm most k X W) :
    Calls Try.prog 19 #[.pointer (some ⟨b, 0, none⟩)] W fun e W' => e = .returned (.int .i64 X.length) ∧ W = W' := by
  obtain ⟨c0, c1, nn, D, hk', O, K⟩ := h
  rw [← K.size]
  exact lenSet b bm nn D W c1 O
theorem progAll (b bm k : Nat) (most : Int) (X : List I10) (W : World) (h : PS b bm most k X W) (hX : XOk X) (hl : X.length * 16 ≤ 140737488355328) :
    Calls Try.prog 20 #[.pointer (some ⟨b, 0, none⟩)] W fun e W' => ∃ A c, e = .returned (.slice A X.length c) ∧ RowsI W' W'.heap.size A X ∧ X.length ≤ c ∧ c ≤ maxLen ∧ Below W.heap.size W W' := by
  obtain ⟨c0, c1, nn, D, hk', O, K⟩ := h
  exact (allSet b bm nn D X K hX.fit hX.ord W c1 O hl).mono fun e W' ⟨v, he, hO, hb⟩ => by
    obtain ⟨A, c, rfl, hR, h1, h2⟩ := hO.rows
    exact ⟨A, c, he, hR, h1, h2, hb⟩
theorem progUnder (b bm k : Nat) (most : Int) (X : List I10) (n l : Int) (W : World) (h : PS b bm most k X W) (hX : XOk X) (hl : X.length * 16 ≤ 140737488355328) :
    Calls Try.prog 16 #[.pointer (some ⟨b, 0, none⟩), .agg #[.int .u8 n, .int .u16 l]] W fun e W' => ∃ A c, e = .returned (.slice A (X.filter (ofProc n l)).length c) ∧ RowsI W' W'.heap.size A (X.filter (ofProc n l)) ∧ (X.filter (ofProc n l)).length ≤ c ∧ c ≤ maxLen ∧ Below W.heap.size W W' := by
  obtain ⟨c0, c1, nn, D, hk', O, K⟩ := h
  have e : (X.filter fun x => !notOf n l x) = X.filter (ofProc n l) := List.filter_congr fun x _ => by simp [notOf, neP, ofProc]
  refine (underSet b bm nn D X n l K hX.fit hX.ord W c1 O hl).mono fun e' W' ⟨v, he, hO, hb⟩ => ?_
  rw [e] at hO
  obtain ⟨A, c, rfl, hR, h1, h2⟩ := hO.rows
  exact ⟨A, c, he, hR, h1, h2, hb⟩

/-- The document's Set. -/
def RS (rb Bs : Nat) (most : Int) (X : List I10) (W : World) : Prop :=
  W.cell? ⟨rb, 1, none⟩ = some (.int .i64 most) ∧ W.frozen? ⟨rb, 0, none⟩ = false ∧ rb < Bs ∧ Bs ≤ W.heap.size ∧ ∃ v, W.cell? ⟨rb, 0, none⟩ = some v ∧ W.ownsRow Bs 38 10 v X.length (cellsI X)
theorem RS.grown {rb Bs : Nat} {most : Int} {X : List I10} {W W' : World} {row : Option Nat} (h : RS rb Bs most X W) (hg : W.grownBy W' row) (h1 : some rb ≠ row) (h2 : ∀ j, row = some j → j < Bs) : RS rb Bs most X W' := by
  obtain ⟨c1, cf, hr, hB, v, c0, O⟩ := h
  refine ⟨(hg.cell_far ⟨rb, 1, none⟩ (by show rb < _; omega) h1).trans c1, (hg.frozen_far ⟨rb, 0, none⟩ (by show rb < _; omega) h1).trans cf, hr, Nat.le_trans hB hg.size, v, (hg.cell_far ⟨rb, 0, none⟩ (by show rb < _; omega) h1).trans c0, O.kept hg ?_⟩
  cases hv : v.ownBlock with
  | none => exact .inl rfl
  | some j => exact .inr fun e => by have := h2 j e.symm; have := (O.lt j hv).1; omega
theorem RS.below {rb Bs : Nat} {most : Int} {X : List I10} {W W' : World} (h : RS rb Bs most X W) (hb : Below W.heap.size W W') : RS rb Bs most X W' := h.grown (grown_of_below hb none) (by simp) (fun _ e => by cases e)
theorem RS.set {rb Bs : Nat} {most : Int} {X Y : List I10} {W W1 : World} {v' : Value} (h : RS rb Bs most X W) (hb : Below W.heap.size W W1) (O : W1.ownsRow W.heap.size 38 10 v' Y.length (cellsI Y)) : RS rb Bs most Y (W1.setCell ⟨rb, 0, none⟩ v') := by
  obtain ⟨c1, cf, hr, hB, v, c0, _⟩ := h
  have hl := World.block_lt_of_cell? W _ c0
  have g : W1.grownBy (W1.setCell ⟨rb, 0, none⟩ v') (some rb) := grown_set (Below.refl _ _)
  have d0 := (hb.cell (p := ⟨rb, 0, none⟩) hl).trans c0
  have d1 := (hb.cell (p := ⟨rb, 1, none⟩) hl).trans c1
  have df := (hb.frozen (p := ⟨rb, 0, none⟩) hl).trans cf
  refine ⟨?_, ?_, hr, Nat.le_trans hB (Nat.le_trans hb.size g.size), v', ?_, (own_lower O hB).kept g ?_⟩
  · exact (World.cell?_setCell_other _ _ _ _ (by simp)).trans d1
  · first | (simpa using df) | (go_simp; done)
  · exact World.cell?_setCell_same _ _ _ d0
  · cases hv : v'.ownBlock with
    | none => exact .inl rfl
    | some j => exact .inr (fun e => by
        have h1 := (O.lt j hv).1
        injection e with e
        omega)

theorem refAdd (rb Bs : Nat) (most : Int) (X : List I10) (x : I10) (W : World) (h : RS rb Bs most X W) (hX : XOk X) (rx : x.Rng) (hl : (X.length + 1) * 16 ≤ 140737488355328) :
    Calls Try.prog 9 #[.pointer (some ⟨rb, 0, none⟩), .agg #[.int .u8 x.n, .int .u16 x.l, .int .u32 x.s, .int .u8 x.d, .int .u8 x.a0, .int .u8 x.a1, .int .u8 x.b0, .int .u8 x.b1, .int .u8 x.c0, .int .u8 x.c1]] W fun e W' => e = .returned (.int .i64 (addN X most x)) ∧ RS rb Bs most (addX X most x) W' ∧ W.grownBy W' (some rb) := by
  have h0 := h
  obtain ⟨c1, cf, hr, hB, v, c0, O⟩ := h
  by_cases hx : x.ok = false
  · have e1 : addN X most x = 1 := by simp [addN, hx]
    have e2 : addX X most x = X := by simp [addX, hx]
    rw [e1, e2]
    exact (refAddArg X x rb Bs v most W c0 c1 O hX.rng rx hx).mono fun e W' ⟨he, hb⟩ => ⟨he, h0.below hb, grown_of_below hb _⟩
  have hx' : x.ok = true := by simpa using hx
  by_cases ha : isAt X x = true
  · have e1 : addN X most x = 4 := by simp [addN, hx', ha]
    have e2 : addX X most x = X := by simp [addX, hx', ha]
    rw [e1, e2]
    exact (refAddThere X x rb Bs v most W c0 c1 O hX.rng rx hx' ha).mono fun e W' ⟨he, hb⟩ => ⟨he, h0.below hb, grown_of_below hb _⟩
  have ha' : isAt X x = false := by simpa using ha
  by_cases hf : most ≤ (X.length : Int)
  · have e1 : addN X most x = 11 := by simp [addN, hx', ha, hf]
    have e2 : addX X most x = X := by simp [addX, hx', ha, hf]
    rw [e1, e2]
    exact (refAddFull X x rb Bs v most W c0 c1 O hX.rng rx hx' ha' hf).mono fun e W' ⟨he, hb⟩ => ⟨he, h0.below hb, grown_of_below hb _⟩
  · have e1 : addN X most x = 0 := by simp [addN, hx', ha, hf]
    have e2 : addX X most x = ins X x := by simp [addX, hx', ha, hf]
    rw [e1, e2]
    exact (refAddOk X x rb Bs v most W c0 c1 O hX.rng rx cf hx' ha' (by omega) hl (fnd_le X x)).mono fun e W' ⟨he, v', W1, hw, hb, O'⟩ => ⟨he, by rw [hw]; exact h0.set hb O', by rw [hw]; exact grown_set hb⟩

theorem refRem (rb Bs : Nat) (most : Int) (X : List I10) (x : I10) (W : World) (h : RS rb Bs most X W) (hX : XOk X) (rx : x.Rng) (hl : (X.length + 1) * 16 ≤ 140737488355328) :
    Calls Try.prog 11 #[.pointer (some ⟨rb, 0, none⟩), .agg #[.int .u8 x.n, .int .u16 x.l, .int .u32 x.s, .int .u8 x.d, .int .u8 x.a0, .int .u8 x.a1, .int .u8 x.b0, .int .u8 x.b1, .int .u8 x.c0, .int .u8 x.c1]] W fun e W' => e = .returned (.bool (isAt X x)) ∧ RS rb Bs most (remX X x) W' ∧ W.grownBy W' (some rb) := by
  have h0 := h
  obtain ⟨c1, cf, hr, hB, v, c0, O⟩ := h
  by_cases ha : isAt X x = true
  · have e2 : remX X x = rmv X x := by simp [remX, ha]
    rw [ha, e2]
    exact (refRemYes X x rb Bs v W c0 cf O hX.rng rx ha (by omega)).mono fun e W' ⟨he, v', W1, hw, hb, O'⟩ => ⟨he, by rw [hw]; exact h0.set hb O', by rw [hw]; exact grown_set hb⟩
  · have e2 : remX X x = X := by simp [remX, ha]
    have e1 : isAt X x = false := by simpa using ha
    rw [e1, e2]
    exact (refRemNo X x rb Bs v W c0 O hX.rng rx e1).mono fun e W' ⟨he, hb⟩ => ⟨he, h0.below hb, grown_of_below hb _⟩

theorem refFind (rb Bs : Nat) (most : Int) (X : List I10) (x : I10) (W : World) (h : RS rb Bs most X W) (hX : XOk X) (rx : x.Rng) :
    Calls Try.prog 12 #[.pointer (some ⟨rb, 0, none⟩), .agg #[.int .u8 x.n, .int .u16 x.l, .int .u32 x.s, .int .u8 x.d, .int .u8 x.a0, .int .u8 x.a1, .int .u8 x.b0, .int .u8 x.b1, .int .u8 x.c0, .int .u8 x.c1]] W fun e W' => e = .returned (.tuple #[.int .i64 (fnd X x), .bool (isAt X x)]) ∧ Below W.heap.size W W' := by
  obtain ⟨c1, cf, hr, hB, v, c0, O⟩ := h
  exact findOwn X x rb Bs v W c0 O hX.rng rx

/-- the document's list, as it lies. -/
theorem RS.list {rb Bs : Nat} {most : Int} {X : List I10} {W : World} (h : RS rb Bs most X W) : ∃ A c, W.cell? ⟨rb, 0, none⟩ = some (.slice A X.length c) ∧ RowsI W W.heap.size A X ∧ X.length ≤ c ∧ c ≤ maxLen := by
  obtain ⟨c1, cf, hr, hB, v, c0, O⟩ := h
  obtain ⟨A, c, rfl, hR, h1, h2⟩ := rowsI_of_own O
  exact ⟨A, c, c0, hR, h1, h2⟩
theorem refUnd (rb Bs : Nat) (most : Int) (X : List I10) (n l : Int) (W : World) (h : RS rb Bs most X W) (hl : X.length * 16 ≤ 140737488355328) :
    Calls Try.prog 18 #[.pointer (some ⟨rb, 0, none⟩), .agg #[.int .u8 n, .int .u16 l]] W fun e W' => ∃ A c, e = .returned (.slice A (X.filter (ofProc n l)).length c) ∧ RowsI W' W'.heap.size A (X.filter (ofProc n l)) ∧ (X.filter (ofProc n l)).length ≤ c ∧ c ≤ maxLen ∧ Below W.heap.size W W' := by
  obtain ⟨A, c, c0, hR, h1, h2⟩ := h.list
  exact (refUnder rb A X c n l W c0 hR hl h1 h2).mono fun e W' ⟨v, he, O, hb⟩ => by
    obtain ⟨A', c', rfl, hR', h1', h2'⟩ := rowsI_of_own O
    exact ⟨A', c', he, hR', h1', h2', hb⟩
theorem refIDsB (A : Option Addr) (X : List I10) (c : Nat) (W : World) (hr : RowsI W W.heap.size A X) (hX : X.length * 16 ≤ 140737488355328) (hc : X.length ≤ c) (hm : c ≤ maxLen) :
    Calls Try.prog 15 #[.slice A X.length c] W fun e W' => ∃ A' c', e = .returned (.slice A' X.length c') ∧ RowsI W' W'.heap.size A' X ∧ X.length ≤ c' ∧ c' ≤ maxLen ∧ Below W.heap.size W W' :=
  (refIDs A X c W hr hX hc hm).mono fun e W' ⟨v, he, O, hb⟩ => by
    obtain ⟨A', c', rfl, hR', h1', h2'⟩ := rowsI_of_own O
    exact ⟨A', c', he, hR', h1', h2', hb⟩

end Go.Proofs.Ytehkofeokccdeaa
