/-
  Lists of writes in memory; the law's Own, Ref, Same, by contracts. Condition: the lists take at most 2^47 bytes.
-/
import Derived.Test.YtfkmodmgihadkaaRows
import Derived.WalkKit
import Derived.WalkSpells
import Derived.WalkLawsBesides
import Derived.Deep.RegionWith
import Derived.Deep.RegionHeld3
import Derived.BigRegion
import Derived.BigQuiet
import Derived.Lib.Hide
import Derived.LoopN
import Derived.Handy
import Derived.Below
import Derived.Laws.OwnMore
import Derived.Deep.AppendLies
import Derived.Deep.Draws
import Derived.Maps.AppendAt
import Derived.RegionTactic
import Derived.OwnWalk
import Derived.IntWalk
import Derived.Laws.StructEq
namespace Go.Proofs.Ytfkmodmgihadkaa
set_option linter.unusedSimpArgs false
set_option linter.unusedVariables false
open Go.RowKit

/-- a write. -/
structure W3 where
  key : ByteArray
  val : ByteArray
  has : Bool
instance : Inhabited W3 := ⟨⟨ByteArray.empty, ByteArray.empty, false⟩⟩
/-- its cells. -/
def W3.cells (x : W3) : List Value := [.string x.key, .string x.val, .bool x.has]
/-- a write in memory. -/
structure WrAt (W : World) (b o : Nat) (x : W3) : Prop where
  c0 : W.cell? ⟨b, o, none⟩ = some (.string x.key)
  c1 : W.cell? ⟨b, o + 1, none⟩ = some (.string x.val)
  c2 : W.cell? ⟨b, o + 2, none⟩ = some (.bool x.has)
theorem WrAt.keep {W W' : World} {b o : Nat} {x : W3} (h : WrAt W b o x) (hk : ∀ i, W'.cell? ⟨b, i, none⟩ = W.cell? ⟨b, i, none⟩) : WrAt W' b o x :=
  ⟨(hk _).trans h.c0, (hk _).trans h.c1, (hk _).trans h.c2⟩
theorem WrAt.below {W W' : World} {b o B : Nat} {x : W3} (h : WrAt W b o x) (hb : Below B W W') (hl : b < B) : WrAt W' b o x :=
  h.keep fun i => hb.cell (p := ⟨b, i, none⟩) hl

/-- a list of writes in memory, behind a slice's address. -/
def RowsW (W : World) (B : Nat) (A : Option Addr) (X : List W3) : Prop :=
  X ≠ [] → ∃ b o, A = some ⟨b, o, none⟩ ∧ b < B ∧ ∀ i x, X[i]? = some x → WrAt W b (o + i * 3) x
theorem RowsW.keep {W W' : World} {B B' : Nat} {A : Option Addr} {X : List W3} (h : RowsW W B A X) (hB : B ≤ B') (hk : ∀ b i, b < B → W'.cell? ⟨b, i, none⟩ = W.cell? ⟨b, i, none⟩) : RowsW W' B' A X := fun hx => by
  obtain ⟨b, o, e, hb, hc⟩ := h hx
  exact ⟨b, o, e, Nat.lt_of_lt_of_le hb hB, fun i x hi => (hc i x hi).keep fun j => hk b j hb⟩
theorem RowsW.below {W W' : World} {B B' C : Nat} {A : Option Addr} {X : List W3} (h : RowsW W B A X) (hb : Below C W W') (hC : B ≤ C) (hB : B ≤ B') : RowsW W' B' A X :=
  h.keep hB fun b i hl => hb.cell (p := ⟨b, i, none⟩) (by simp; omega)
theorem RowsW.at_ {W : World} {B : Nat} {A : Option Addr} {X : List W3} (h : RowsW W B A X) {k : Nat} (hk : k < X.length) : ∃ b o, A = some ⟨b, o, none⟩ ∧ b < B ∧ WrAt W b (o + k * 3) X[k] := by
  obtain ⟨b, o, e, hb, hc⟩ := h (fun e => by rw [e] at hk; simp at hk)
  exact ⟨b, o, e, hb, hc k _ (List.getElem?_eq_getElem hk)⟩
/-- the cells of a list. -/
def cellsW (X : List W3) : List Value := X.flatMap W3.cells
theorem cellsW_length (X : List W3) : (cellsW X).length = X.length * 3 := by
  induction X with
  | nil => rfl
  | cons x X ih =>
    show (W3.cells x ++ cellsW X).length = _
    rw [List.length_append, ih]
    simp [W3.cells]
    omega
theorem cellsW_at (X : List W3) : ∀ (i : Nat) (x : W3), X[i]? = some x → ∀ j, j < 3 → (cellsW X)[i * 3 + j]? = x.cells[j]? := by
  induction X with
  | nil => intro i x h; simp at h
  | cons y X ih =>
    intro i x h j hj
    show (W3.cells y ++ cellsW X)[i * 3 + j]? = _
    cases i with
    | zero =>
      simp at h
      subst h
      rw [Nat.zero_mul, Nat.zero_add, List.getElem?_append_left (by simp [W3.cells]; omega)]
    | succ i =>
      simp at h
      rw [List.getElem?_append_right (by simp [W3.cells]; omega)]
      have := ih i x h j hj
      rw [← this]
      congr 1
      simp [W3.cells]
      omega
theorem cellsW_snoc (X : List W3) (x : W3) : cellsW (X ++ [x]) = cellsW X ++ x.cells := by simp [cellsW]
theorem cellsW_one (X : List W3) : ∀ u ∈ cellsW X, u.oneCell' = true := by
  intro u hu
  simp only [cellsW, List.mem_flatMap] at hu
  obtain ⟨x, _, h⟩ := hu
  simp only [W3.cells, List.mem_cons, List.not_mem_nil, or_false] at h
  rcases h with rfl | rfl | rfl <;> rfl
theorem rowsW_of_cells {W : World} {b o B : Nat} {X : List W3} (hb : b < B) (h : ∀ j u, (cellsW X)[j]? = some u → W.cell? ⟨b, o + j, none⟩ = some u) : RowsW W B (some ⟨b, o, none⟩) X := fun _ =>
  ⟨b, o, rfl, hb, fun i x hi => by
    have hl : i < X.length := (List.getElem?_eq_some_iff.1 hi).1
    have e := cellsW_at X i x hi
    exact ⟨h _ _ ((e 0 (by omega)).trans rfl), h _ _ ((e 1 (by omega)).trans rfl), h _ _ ((e 2 (by omega)).trans rfl)⟩⟩
/-- a row of the call's own is a list in memory. -/
theorem rowsW_of_own {W : World} {base : Nat} {e : TypeId} {v : Value} {X : List W3} (h : W.ownsRow base e 3 v X.length (cellsW X)) :
    ∃ A c, v = .slice A X.length c ∧ RowsW W W.heap.size A X ∧ X.length ≤ c ∧ c ≤ maxLen := by
  rcases h.2 with ⟨rfl, hn⟩ | ⟨g, cap, cur, rfl, hb, hg, hnc, hcm, hcs, ht⟩
  · have : X = [] := List.eq_nil_of_length_eq_zero hn
    subst this
    exact ⟨none, 0, rfl, fun hx => absurd rfl hx, Nat.le_refl _, by unfold maxLen; omega⟩
  · refine ⟨_, cap, rfl, rowsW_of_cells (h.lt g rfl).2 fun j u hu => ?_, hnc, hcm⟩
    have := h.cells (g := g) rfl j u hu
    rw [Nat.zero_add]
    by_cases hj : j = 0
    · subst hj; exact this
    · simpa [Addr.add, hj] using this

theorem cells_newW (W : World) (cs : Array Value) (t : TypeId) : ∀ j u, cs.toList[j]? = some u → (W.alloc (.cells cs t)).cell? ((⟨W.heap.size, 0, none⟩ : Addr).add j) = some u := by
  intro j u hj
  have h := cell_of_row (W.alloc (.cells cs t)) W.heap.size j cs t (0, 0) (heap_alloc_new W _)
  have e : (⟨W.heap.size, 0, none⟩ : Addr).add j = ⟨W.heap.size, j, none⟩ := by
    unfold Addr.add
    by_cases h0 : j = 0 <;> simp [h0]
  rw [e, h]
  simpa using hj
theorem own_snocW {w W W' : World} {e : TypeId} {v : Value} {k : Nat} {X : List Value} (B : Below w.heap.size w W) (O : W.ownsRow w.heap.size e 3 v k X) (hg : W.grownBy W' v.ownBlock) : Below w.heap.size w W' :=
  B.grown hg B.size fun j hj => (O.lt j hj).1
theorem wr_info : (Try.prog.info? 103).map (fun i => (i.zero, i.size, i.bytes)) = some (some (.agg #[.string ByteArray.empty, .string ByteArray.empty, .bool false]), 3, 40) := by kernel_rfl
/-- are two writes the same? -/
def eqW (x y : W3) : Bool := decide (x.key = y.key) && decide (x.val = y.val) && decide (x.has = y.has)
theorem eqW_self (x : W3) : eqW x x = true := by simp [eqW]
theorem toList_injW (s t : ByteArray) : s.toList = t.toList ↔ s = t := by
  rw [ByteArray.toList_eq, ByteArray.toList_eq]
  constructor
  · intro h
    exact ByteArray.ext (Array.ext' h)
  · rintro rfl; rfl
theorem neqWW (x y : W3) (w : World) : Sem.run Try.prog (binOp .neq 103 (.agg #[.string x.key, .string x.val, .bool x.has]) (.agg #[.string y.key, .string y.val, .bool y.has])) w = .ok (.bool (!eqW x y)) w := by
  have u4 := Try.underlying4
  have a4 := Try.isAgg4
  have z4 := Try.sizeOf4
  have u9 := Try.underlying9
  have a9 := Try.isAgg9
  have z9 := Try.sizeOf9
  have hS : Try.prog.underlying 103 = some (.struct (Try.prog.fieldsOf 103)) := by kernel_rfl
  have hp : Try.prog.stoodInHeld 103 = false := by kernel_rfl
  rw [run_neq_struct, show (10000 : Nat) = 9999 + 1 from rfl, run_equalIn_agg w 9999 103 _ _ hS hp]
  simp only [Program.fieldsOf, Try.underlying103]
  go_simp
  simp only [toList_injW]
  unfold eqW
  by_cases h3 : x.key = y.key <;> by_cases h4 : x.val = y.val <;> by_cases h5 : x.has = y.has <;> simp [h3, h4, h5]
theorem eqlWW (x y : W3) (w : World) : Sem.run Try.prog (binOp .eql 103 (.agg #[.string x.key, .string x.val, .bool x.has]) (.agg #[.string y.key, .string y.val, .bool y.has])) w = .ok (.bool (eqW x y)) w := by
  have u4 := Try.underlying4
  have a4 := Try.isAgg4
  have z4 := Try.sizeOf4
  have u9 := Try.underlying9
  have a9 := Try.isAgg9
  have z9 := Try.sizeOf9
  have hS : Try.prog.underlying 103 = some (.struct (Try.prog.fieldsOf 103)) := by kernel_rfl
  have hp : Try.prog.stoodInHeld 103 = false := by kernel_rfl
  rw [run_eql_struct, show (10000 : Nat) = 9999 + 1 from rfl, run_equalIn_agg w 9999 103 _ _ hS hp]
  simp only [Program.fieldsOf, Try.underlying103]
  go_simp
  simp only [toList_injW]
  unfold eqW
  by_cases h3 : x.key = y.key <;> by_cases h4 : x.val = y.val <;> by_cases h5 : x.has = y.has <;> simp [h3, h4, h5]
theorem Below.drewsN {B n : Nat} {a w : World} (h : Below B a w) : Below B a (w.drewN n) := h.trans ⟨rfl, rfl, rfl, Nat.le_refl _, fun _ _ => rfl⟩
end Go.Proofs.Ytfkmodmgihadkaa
