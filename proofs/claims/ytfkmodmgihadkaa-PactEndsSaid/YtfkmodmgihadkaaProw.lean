/-
  Lists of parts in memory: what they hold, what is kept of them; the law's Parts, by a contract. Condition: the list takes at most 2^47 bytes.
-/
import Derived.Test.YtfkmodmgihadkaaPconv
import Derived.Below
import Derived.Laws.OwnMore
import Derived.Deep.AppendLies
import Derived.Deep.Draws
import Derived.Maps.AppendAt
import Derived.RegionTactic
import Derived.OwnWalk
namespace Go.Proofs.Ytfkmodmgihadkaa
set_option linter.unusedSimpArgs false
set_option linter.unusedVariables false
open Go.RowKit

/-- a part. -/
structure P5 where
  g : Int
  k : Int
  key : ByteArray
  val : ByteArray
  n : Int
instance : Inhabited P5 := ⟨⟨0, 0, ByteArray.empty, ByteArray.empty, 0⟩⟩
/-- its cells. -/
def P5.cells (x : P5) : List Value := [.int .u8 x.g, .int .u8 x.k, .string x.key, .string x.val, .int .i64 x.n]
def P5.r (x : P5) : Bool := rP x.g x.k x.n x.key x.val
/-- a part in memory. -/
structure PartAt (W : World) (b o : Nat) (x : P5) : Prop where
  c0 : W.cell? ⟨b, o, none⟩ = some (.int .u8 x.g)
  c1 : W.cell? ⟨b, o + 1, none⟩ = some (.int .u8 x.k)
  c2 : W.cell? ⟨b, o + 2, none⟩ = some (.string x.key)
  c3 : W.cell? ⟨b, o + 3, none⟩ = some (.string x.val)
  c4 : W.cell? ⟨b, o + 4, none⟩ = some (.int .i64 x.n)
theorem PartAt.keep {W W' : World} {b o : Nat} {x : P5} (h : PartAt W b o x) (hk : ∀ i, W'.cell? ⟨b, i, none⟩ = W.cell? ⟨b, i, none⟩) : PartAt W' b o x :=
  ⟨(hk _).trans h.c0, (hk _).trans h.c1, (hk _).trans h.c2, (hk _).trans h.c3, (hk _).trans h.c4⟩
theorem PartAt.below {W W' : World} {b o B : Nat} {x : P5} (h : PartAt W b o x) (hb : Below B W W') (hl : b < B) : PartAt W' b o x :=
  h.keep fun i => hb.cell (p := ⟨b, i, none⟩) hl

/-- a list of parts in memory, behind a slice's address. -/
def RowsP (W : World) (B : Nat) (A : Option Addr) (X : List P5) : Prop :=
  X ≠ [] → ∃ b o, A = some ⟨b, o, none⟩ ∧ b < B ∧ ∀ i x, X[i]? = some x → PartAt W b (o + i * 5) x
theorem RowsP.keep {W W' : World} {B B' : Nat} {A : Option Addr} {X : List P5} (h : RowsP W B A X) (hB : B ≤ B') (hk : ∀ b i, b < B → W'.cell? ⟨b, i, none⟩ = W.cell? ⟨b, i, none⟩) : RowsP W' B' A X := fun hx => by
  obtain ⟨b, o, e, hb, hc⟩ := h hx
  exact ⟨b, o, e, Nat.lt_of_lt_of_le hb hB, fun i x hi => (hc i x hi).keep fun j => hk b j hb⟩
theorem RowsP.below {W W' : World} {B B' C : Nat} {A : Option Addr} {X : List P5} (h : RowsP W B A X) (hb : Below C W W') (hC : B ≤ C) (hB : B ≤ B') : RowsP W' B' A X :=
  h.keep hB fun b i hl => hb.cell (p := ⟨b, i, none⟩) (by simp; omega)
theorem RowsP.at_ {W : World} {B : Nat} {A : Option Addr} {X : List P5} (h : RowsP W B A X) {k : Nat} (hk : k < X.length) : ∃ b o, A = some ⟨b, o, none⟩ ∧ b < B ∧ PartAt W b (o + k * 5) X[k] := by
  obtain ⟨b, o, e, hb, hc⟩ := h (fun e => by rw [e] at hk; simp at hk)
  exact ⟨b, o, e, hb, hc k _ (List.getElem?_eq_getElem hk)⟩
/-- the cells of a list. -/
def cellsP (X : List P5) : List Value := X.flatMap P5.cells
theorem cellsP_length (X : List P5) : (cellsP X).length = X.length * 5 := by
  induction X with
  | nil => rfl
  | cons x X ih =>
    show (P5.cells x ++ cellsP X).length = _
    rw [List.length_append, ih]
    simp [P5.cells]
    omega
theorem cellsP_at (X : List P5) : ∀ (i : Nat) (x : P5), X[i]? = some x → ∀ j, j < 5 → (cellsP X)[i * 5 + j]? = x.cells[j]? := by
  induction X with
  | nil => intro i x h; simp at h
  | cons y X ih =>
    intro i x h j hj
    show (P5.cells y ++ cellsP X)[i * 5 + j]? = _
    cases i with
    | zero =>
      simp at h
      subst h
      rw [Nat.zero_mul, Nat.zero_add, List.getElem?_append_left (by simp [P5.cells]; omega)]
    | succ i =>
      simp at h
      rw [List.getElem?_append_right (by simp [P5.cells]; omega)]
      have := ih i x h j hj
      rw [← this]
      congr 1
      simp [P5.cells]
      omega
theorem cellsP_snoc (X : List P5) (x : P5) : cellsP (X ++ [x]) = cellsP X ++ x.cells := by simp [cellsP]
theorem cellsP_one (X : List P5) : ∀ u ∈ cellsP X, u.oneCell' = true := by
  intro u hu
  simp only [cellsP, List.mem_flatMap] at hu
  obtain ⟨x, _, h⟩ := hu
  simp only [P5.cells, List.mem_cons, List.not_mem_nil, or_false] at h
  rcases h with rfl | rfl | rfl | rfl | rfl <;> rfl
theorem rowsP_of_cells {W : World} {b o B : Nat} {X : List P5} (hb : b < B) (h : ∀ j u, (cellsP X)[j]? = some u → W.cell? ⟨b, o + j, none⟩ = some u) : RowsP W B (some ⟨b, o, none⟩) X := fun _ =>
  ⟨b, o, rfl, hb, fun i x hi => by
    have hl : i < X.length := (List.getElem?_eq_some_iff.1 hi).1
    have e := cellsP_at X i x hi
    exact ⟨h _ _ ((e 0 (by omega)).trans rfl), h _ _ ((e 1 (by omega)).trans rfl), h _ _ ((e 2 (by omega)).trans rfl), h _ _ ((e 3 (by omega)).trans rfl), h _ _ ((e 4 (by omega)).trans rfl)⟩⟩
/-- a row of the call's own is a list in memory. -/
theorem rowsP_of_own {W : World} {base : Nat} {e : TypeId} {v : Value} {X : List P5} (h : W.ownsRow base e 5 v X.length (cellsP X)) :
    ∃ A c, v = .slice A X.length c ∧ RowsP W W.heap.size A X ∧ X.length ≤ c ∧ c ≤ maxLen := by
  rcases h.2 with ⟨rfl, hn⟩ | ⟨g, cap, cur, rfl, hb, hg, hnc, hcm, hcs, ht⟩
  · have : X = [] := List.eq_nil_of_length_eq_zero hn
    subst this
    exact ⟨none, 0, rfl, fun hx => absurd rfl hx, Nat.le_refl _, by unfold maxLen; omega⟩
  · refine ⟨_, cap, rfl, rowsP_of_cells (h.lt g rfl).2 fun j u hu => ?_, hnc, hcm⟩
    have := h.cells (g := g) rfl j u hu
    rw [Nat.zero_add]
    by_cases hj : j = 0
    · subst hj; exact this
    · simpa [Addr.add, hj] using this

theorem cells_new (W : World) (cs : Array Value) (t : TypeId) : ∀ j u, cs.toList[j]? = some u → (W.alloc (.cells cs t)).cell? ((⟨W.heap.size, 0, none⟩ : Addr).add j) = some u := by
  intro j u hj
  have h := cell_of_row (W.alloc (.cells cs t)) W.heap.size j cs t (0, 0) (heap_alloc_new W _)
  have e : (⟨W.heap.size, 0, none⟩ : Addr).add j = ⟨W.heap.size, j, none⟩ := by
    unfold Addr.add
    by_cases h0 : j = 0 <;> simp [h0]
  rw [e, h]
  simpa using hj
theorem own_snoc {w W W' : World} {e : TypeId} {v : Value} {k : Nat} {X : List Value} (B : Below w.heap.size w W) (O : W.ownsRow w.heap.size e 5 v k X) (hg : W.grownBy W' v.ownBlock) : Below w.heap.size w W' :=
  B.grown hg B.size fun j hj => (O.lt j hj).1
theorem part_info : (Try.prog.info? 108).map (fun i => (i.zero, i.size, i.bytes)) = some (some (.agg #[.int .u8 0, .int .u8 0, .string ByteArray.empty, .string ByteArray.empty, .int .i64 0]), 5, 48) := by kernel_rfl

end Go.Proofs.Ytfkmodmgihadkaa
