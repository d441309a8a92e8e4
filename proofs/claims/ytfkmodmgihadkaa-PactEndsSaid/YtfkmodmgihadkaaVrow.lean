/-
  Lists of processes in memory: what they hold, what is kept of them; the laws' Procs and RefProcs, which processes may be, by contracts. Condition: the list takes at most 2^47 bytes.
-/
import Derived.Test.YtfkmodmgihadkaaRows
import Derived.WalkKit
import Derived.WalkSpells
import Derived.WalkLawsBesides
import Derived.Deep.RegionWith
import Derived.Deep.RegionHeld3
import Derived.BigRegion
import Derived.Lib.Hide
import Derived.LoopN
import Derived.Handy
import Derived.Below
import Derived.Laws.OwnMore
import Derived.Deep.AppendLies
import Derived.Deep.Draws
import Derived.Maps.AppendAt
import Derived.RegionTactic
import Derived.OwnWalk
namespace Go.Proofs.Ytfkmodmgihadkaa.V
set_option linter.unusedSimpArgs false
set_option linter.unusedVariables false
open Go.RowKit

theorem ret_bool {a b : Bool} (h : a = b) : Ending.returned (.bool a) = .returned (.bool b) := by rw [h]
/-- a process. -/
structure P2 where
  n : Int
  l : Int
  deriving DecidableEq
instance : Inhabited P2 := ⟨⟨0, 0⟩⟩
/-- its cells. -/
def P2.cells (x : P2) : List Value := [.int .u8 x.n, .int .u16 x.l]
/-- may there be such a process? -/
def P2.r (x : P2) : Bool := decide (x.n < 16) && decide (1 ≤ x.l)
/-- a process in memory. -/
structure PrAt (W : World) (b o : Nat) (x : P2) : Prop where
  c0 : W.cell? ⟨b, o, none⟩ = some (.int .u8 x.n)
  c1 : W.cell? ⟨b, o + 1, none⟩ = some (.int .u16 x.l)
theorem PrAt.keep {W W' : World} {b o : Nat} {x : P2} (h : PrAt W b o x) (hk : ∀ i, W'.cell? ⟨b, i, none⟩ = W.cell? ⟨b, i, none⟩) : PrAt W' b o x :=
  ⟨(hk _).trans h.c0, (hk _).trans h.c1⟩
theorem PrAt.below {W W' : World} {b o B : Nat} {x : P2} (h : PrAt W b o x) (hb : Below B W W') (hl : b < B) : PrAt W' b o x :=
  h.keep fun i => hb.cell (p := ⟨b, i, none⟩) hl

/-- a list of processes in memory, behind a slice's address. -/
def RowsV (W : World) (B : Nat) (A : Option Addr) (X : List P2) : Prop :=
  X ≠ [] → ∃ b o, A = some ⟨b, o, none⟩ ∧ b < B ∧ ∀ i x, X[i]? = some x → PrAt W b (o + i * 2) x
theorem RowsV.keep {W W' : World} {B B' : Nat} {A : Option Addr} {X : List P2} (h : RowsV W B A X) (hB : B ≤ B') (hk : ∀ b i, b < B → W'.cell? ⟨b, i, none⟩ = W.cell? ⟨b, i, none⟩) : RowsV W' B' A X := fun hx => by
  obtain ⟨b, o, e, hb, hc⟩ := h hx
  exact ⟨b, o, e, Nat.lt_of_lt_of_le hb hB, fun i x hi => (hc i x hi).keep fun j => hk b j hb⟩
theorem RowsV.below {W W' : World} {B B' C : Nat} {A : Option Addr} {X : List P2} (h : RowsV W B A X) (hb : Below C W W') (hC : B ≤ C) (hB : B ≤ B') : RowsV W' B' A X :=
  h.keep hB fun b i hl => hb.cell (p := ⟨b, i, none⟩) (by simp; omega)
theorem RowsV.at_ {W : World} {B : Nat} {A : Option Addr} {X : List P2} (h : RowsV W B A X) {k : Nat} (hk : k < X.length) : ∃ b o, A = some ⟨b, o, none⟩ ∧ b < B ∧ PrAt W b (o + k * 2) X[k] := by
  obtain ⟨b, o, e, hb, hc⟩ := h (fun e => by rw [e] at hk; simp at hk)
  exact ⟨b, o, e, hb, hc k _ (List.getElem?_eq_getElem hk)⟩
/-- the cells of a list. -/
def cellsV (X : List P2) : List Value := X.flatMap P2.cells
theorem cellsV_length (X : List P2) : (cellsV X).length = X.length * 2 := by
  induction X with
  | nil => rfl
  | cons x X ih =>
    show (P2.cells x ++ cellsV X).length = _
    rw [List.length_append, ih]
    simp [P2.cells]
    omega
theorem cellsV_at (X : List P2) : ∀ (i : Nat) (x : P2), X[i]? = some x → ∀ j, j < 2 → (cellsV X)[i * 2 + j]? = x.cells[j]? := by
  induction X with
  | nil => intro i x h; simp at h
  | cons y X ih =>
    intro i x h j hj
    show (P2.cells y ++ cellsV X)[i * 2 + j]? = _
    cases i with
    | zero =>
      simp at h
      subst h
      rw [Nat.zero_mul, Nat.zero_add, List.getElem?_append_left (by simp [P2.cells]; omega)]
    | succ i =>
      simp at h
      rw [List.getElem?_append_right (by simp [P2.cells]; omega)]
      have := ih i x h j hj
      rw [← this]
      congr 1
      simp [P2.cells]
      omega
theorem cellsV_snoc (X : List P2) (x : P2) : cellsV (X ++ [x]) = cellsV X ++ x.cells := by simp [cellsV]
theorem cellsV_one (X : List P2) : ∀ u ∈ cellsV X, u.oneCell' = true := by
  intro u hu
  simp only [cellsV, List.mem_flatMap] at hu
  obtain ⟨x, _, h⟩ := hu
  simp only [P2.cells, List.mem_cons, List.not_mem_nil, or_false] at h
  rcases h with rfl | rfl <;> rfl
theorem rowsV_of_cells {W : World} {b o B : Nat} {X : List P2} (hb : b < B) (h : ∀ j u, (cellsV X)[j]? = some u → W.cell? ⟨b, o + j, none⟩ = some u) : RowsV W B (some ⟨b, o, none⟩) X := fun _ =>
  ⟨b, o, rfl, hb, fun i x hi => by
    have hl : i < X.length := (List.getElem?_eq_some_iff.1 hi).1
    have e := cellsV_at X i x hi
    exact ⟨h _ _ ((e 0 (by omega)).trans rfl), h _ _ ((e 1 (by omega)).trans rfl)⟩⟩
/-- a row of the call's own is a list in memory. -/
theorem rowsV_of_own {W : World} {base : Nat} {e : TypeId} {v : Value} {X : List P2} (h : W.ownsRow base e 2 v X.length (cellsV X)) :
    ∃ A c, v = .slice A X.length c ∧ RowsV W W.heap.size A X ∧ X.length ≤ c ∧ c ≤ maxLen := by
  rcases h.2 with ⟨rfl, hn⟩ | ⟨g, cap, cur, rfl, hb, hg, hnc, hcm, hcs, ht⟩
  · have : X = [] := List.eq_nil_of_length_eq_zero hn
    subst this
    exact ⟨none, 0, rfl, fun hx => absurd rfl hx, Nat.le_refl _, by unfold maxLen; omega⟩
  · refine ⟨_, cap, rfl, rowsV_of_cells (h.lt g rfl).2 fun j u hu => ?_, hnc, hcm⟩
    have := h.cells (g := g) rfl j u hu
    rw [Nat.zero_add]
    by_cases hj : j = 0
    · subst hj; exact this
    · simpa [Addr.add, hj] using this

theorem cells_new (W : World) (cs : Array Value) (t : TypeId) : ∀ j u, cs.toList[j]? = some u → (W.alloc (.cells cs t)).cell? ((⟨W.heap.size, 0, none⟩ : Addr).add j) = some u := by
  intro j u hj
  have h := cell_of_row (W.alloc (.cells cs t)) W.heap.size j cs t (0, 0) (heap_alloc_new W _)
  have e : (⟨W.heap.size, 0, none⟩ : Addr).add j = ⟨W.heap.size, j, none⟩ := by
    unfold Addr.add
    by_cases h0 : j = 0 <;> simp [h0]
  rw [e, h]
  simpa using hj
theorem own_snoc {w W W' : World} {e : TypeId} {v : Value} {k : Nat} {X : List Value} (B : Below w.heap.size w W) (O : W.ownsRow w.heap.size e 2 v k X) (hg : W.grownBy W' v.ownBlock) : Below w.heap.size w W' :=
  B.grown hg B.size fun j hj => (O.lt j hj).1
theorem pr_info : (Try.prog.info? 54).map (fun i => (i.zero, i.size, i.bytes)) = some (some (.agg #[.int .u8 0, .int .u16 0]), 2, 4) := by kernel_rfl

set_option maxHeartbeats 400000 in
theorem opRight (p : P2) (w : World) :
    Calls Try.prog 38 #[.agg #[.int .u8 p.n, .int .u16 p.l]] w fun e w' => e = .returned (.bool p.r) ∧ w.alloc (.cells #[.int .u8 p.n, .int .u16 p.l] 54) = w' := by
  by_cases h1 : p.n < 16
  all_goals by_cases h2 : 1 ≤ p.l
  all_goals
    go_enter Try.func38, Try.ntmps38
    go_wp2
    go_ret
    refine ⟨?_, rfl⟩
    first | (simp [P2.r, *]; done) | (simp [P2.r, *]; omega)
end Go.Proofs.Ytfkmodmgihadkaa.V
