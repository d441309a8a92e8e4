/-
  Processes, entries and values of the program in memory: they may be read, and stay so while no block of their kinds is turned. No condition.
-/
import Derived.Test.YtfkmodmgihadkaaGba
import Derived.Test.YtfkmodmgihadkaaWel
import Derived.Test.YtfkmodmgihadkaaVapp
import Derived.Test.YtfkmodmgihadkaaVix
import Derived.Test.YtfkmodmgihadkaaVri
namespace Go.Proofs.Ytfkmodmgihadkaa
set_option linter.unusedSimpArgs false
set_option linter.unusedVariables false
open Go.RowKit Go.Maps Go.Sort

/-- a type whose blocks hold what values are made of. -/
def Ty (t : TypeId) : Prop := t ∈ [54, 93, 108, 103]
/-- all such blocks lie as they lay. -/
def Keeps (W W' : World) : Prop := ∀ (g : Nat) (cur : Array Value) (t : TypeId), W.heap[g]? = some (.cells cur t (0, 0)) → Ty t → W'.heap[g]? = some (.cells cur t (0, 0))
theorem Keeps.refl (W : World) : Keeps W W := fun _ _ _ h _ => h
theorem Keeps.trans {a b c : World} (h : Keeps a b) (k : Keeps b c) : Keeps a c := fun g cur t hg ht => k g cur t (h g cur t hg ht) ht
theorem Keeps.of_below {W W' : World} (h : Below W.heap.size W W') : Keeps W W' := fun g cur t hg _ => (h.block g (Array.getElem?_eq_some_iff.1 hg).1).trans hg
theorem Keeps.of_KP {W W' : World} {S : Nat → Prop} (h : KP S W W') (hS : ∀ (g : Nat) (cur : Array Value) (t : TypeId), W.heap[g]? = some (.cells cur t (0, 0)) → Ty t → ¬ S g) : Keeps W W' :=
  fun g cur t hg ht => (h.block g (Array.getElem?_eq_some_iff.1 hg).1 (hS g cur t hg ht)).trans hg
theorem RowO.keepT {W W' : World} {e : TypeId} {sz : Nat} {v : Value} {n : Nat} {xs : List Value} (h : RowO W e sz v n xs) (k : Keeps W W') (ht : Ty e) : RowO W' e sz v n xs :=
  h.keepB fun g hg => by
    obtain ⟨cur, hc⟩ := h.block g hg
    exact (k g cur e hc ht).trans hc.symm

/-- processes in memory. -/
def PrO (W : World) (v : Value) (X : List V.P2) : Prop := RowO W 54 2 v X.length (V.cellsV X)
theorem PrO.keep {W W' : World} {v : Value} {X : List V.P2} (h : PrO W v X) (k : Keeps W W') : PrO W' v X := RowO.keepT h k (by simp [Ty])
theorem PrO.of_owns {W : World} {base : Nat} {v : Value} {X : List V.P2} (h : W.ownsRow base 54 2 v X.length (V.cellsV X)) : PrO W v X := RowO.of_owns h
theorem PrO.nil (W : World) : PrO W (.slice none 0 0) [] := RowO.nil W _ _
theorem PrO.rows {W : World} {v : Value} {X : List V.P2} (h : PrO W v X) : ∃ A c, v = .slice A X.length c ∧ V.RowsV W W.heap.size A X ∧ X.length ≤ c ∧ c ≤ maxLen ∧ (A = none → X = [] ∧ c = 0) := by
  obtain ⟨A, c, e, h1, h2, h3⟩ := RowO.slice h
  refine ⟨A, c, e, ?_, h1, h2, fun hA => ?_⟩
  · rcases h3 with ⟨rfl, rfl⟩ | ⟨g, o, rfl⟩
    · have : X = [] := List.eq_nil_of_length_eq_zero (by omega)
      subst this
      intro hne
      exact absurd rfl hne
    · subst e
      have hl : g < W.heap.size := RowO.lt h g rfl
      exact V.rowsV_of_cells hl fun j u hj => RowO.cells h j u hj
  · rcases h3 with ⟨_, h4⟩ | ⟨g, o, h4⟩
    · exact ⟨List.eq_nil_of_length_eq_zero (by omega), h4⟩
    · rw [hA] at h4
      cases h4

/-- an entry's lists in memory. -/
structure LeO (e : Le) (W : World) : Prop where
  p : RowO W 108 5 (.slice e.A e.X.length e.c) e.X.length (cellsP e.X)
  w : RowO W 103 3 (.slice e.B e.Y.length e.d) e.Y.length (cellsW e.Y)
  hX : e.X.length * 48 ≤ 140737488355328
  hY : e.Y.length * 40 ≤ 140737488355328
theorem LeO.keep {e : Le} {W W' : World} (h : LeO e W) (k : Keeps W W') : LeO e W' := ⟨RowO.keepT h.p k (by simp [Ty]), RowO.keepT h.w k (by simp [Ty]), h.hX, h.hY⟩
theorem LeO.of_own {e : Le} {W : World} {base : Nat} (h : e.Own W base) : LeO e W := ⟨RowO.of_owns h.op, RowO.of_owns h.ow, h.hX, h.hY⟩
theorem rowP_of {W : World} {A : Option Addr} {n c : Nat} {X : List P5} (h : RowO W 108 5 (.slice A n c) X.length (cellsP X)) : RowsP W W.heap.size A X := by
  rcases h.2 with ⟨e, h0⟩ | ⟨g, o, cap, cur, e, hg, _⟩
  · have : X = [] := List.eq_nil_of_length_eq_zero h0
    subst this
    intro hne
    exact absurd rfl hne
  · cases e
    exact rowsP_of_cells (Array.getElem?_eq_some_iff.1 hg).1 fun j u hj => RowO.cells h j u hj
theorem rowW_of {W : World} {A : Option Addr} {n c : Nat} {X : List W3} (h : RowO W 103 3 (.slice A n c) X.length (cellsW X)) : RowsW W W.heap.size A X := by
  rcases h.2 with ⟨e, h0⟩ | ⟨g, o, cap, cur, e, hg, _⟩
  · have : X = [] := List.eq_nil_of_length_eq_zero h0
    subst this
    intro hne
    exact absurd rfl hne
  · cases e
    exact rowsW_of_cells (Array.getElem?_eq_some_iff.1 hg).1 fun j u hj => RowO.cells h j u hj
theorem RowO.cap {W : World} {e : TypeId} {sz : Nat} {A : Option Addr} {n c m : Nat} {xs : List Value} (h : RowO W e sz (.slice A n c) m xs) : n = m ∧ m ≤ c ∧ c ≤ maxLen := by
  obtain ⟨A', c', e', h1, h2, _⟩ := h.slice
  cases e'
  exact ⟨rfl, h1, h2⟩
theorem LeO.at_ {e : Le} {W : World} (h : LeO e W) : e.At W W.heap.size :=
  ⟨rowP_of h.p, rowW_of h.w, h.hX, h.hY, (RowO.cap h.p).2.1, (RowO.cap h.p).2.2, (RowO.cap h.w).2.1, (RowO.cap h.w).2.2⟩

/-- entries in memory. -/
structure EnO (W : World) (v : Value) (L : List Le) : Prop where
  row : RowO W 93 18 v L.length (cellsE L)
  all : ∀ e ∈ L, LeO e W
theorem EnO.keep {W W' : World} {v : Value} {L : List Le} (h : EnO W v L) (k : Keeps W W') : EnO W' v L := ⟨RowO.keepT h.row k (by simp [Ty]), fun e he => (h.all e he).keep k⟩
theorem EnO.nil (W : World) : EnO W (.slice none 0 0) [] := ⟨RowO.nil W _ _, fun _ h => by cases h⟩
theorem EnO.of_owns {W : World} {base : Nat} {v : Value} {L : List Le} (h : W.ownsRow base 93 18 v L.length (cellsE L)) (ha : ∀ e ∈ L, e.Own W base) : EnO W v L := ⟨RowO.of_owns h, fun e he => LeO.of_own (ha e he)⟩
theorem cellsE_atG (L : List Le) : ∀ (i : Nat) (e : Le), L[i]? = some e → ∀ j, j < 18 → (cellsE L)[i * 18 + j]? = e.cs[j]? := by
  induction L with
  | nil => intro i e h; simp at h
  | cons y L ih =>
    intro i e h j hj
    have hl : y.cs.toList.length = 18 := rfl
    show (y.cs.toList ++ cellsE L)[i * 18 + j]? = _
    cases i with
    | zero =>
      simp at h
      subst h
      rw [List.getElem?_append_left (by rw [hl]; omega)]
      simp
    | succ i =>
      simp at h
      rw [List.getElem?_append_right (by rw [hl]; omega), ← ih i e h j hj]
      congr 1
      rw [hl]
      omega
theorem EnO.rows {W : World} {v : Value} {L : List Le} (h : EnO W v L) : ∃ A c, v = .slice A L.length c ∧ RowsE W W.heap.size A L ∧ L.length ≤ c ∧ c ≤ maxLen ∧ (A = none → L = [] ∧ c = 0) := by
  obtain ⟨A, c, e, h1, h2, h3⟩ := RowO.slice h.row
  refine ⟨A, c, e, ?_, h1, h2, fun hA => ?_⟩
  · rcases h3 with ⟨rfl, rfl⟩ | ⟨g, o, rfl⟩
    · have : L = [] := List.eq_nil_of_length_eq_zero (by omega)
      subst this
      intro hne
      exact absurd rfl hne
    · subst e
      have hl : g < W.heap.size := RowO.lt h.row g rfl
      refine fun _ => ⟨g, o, rfl, hl, fun i e he => ⟨fun j u hj => ?_, (h.all e (List.mem_of_getElem? he)).at_⟩⟩
      have hj18 : j < 18 := (Array.getElem?_eq_some_iff.1 hj).1
      rw [Nat.add_assoc]
      exact RowO.cells h.row _ u ((cellsE_atG L i e he j hj18).trans hj)
  · rcases h3 with ⟨_, h4⟩ | ⟨g, o, h4⟩
    · exact ⟨List.eq_nil_of_length_eq_zero (by omega), h4⟩
    · rw [hA] at h4
      cases h4

/-- a value: its members, its entries, and where they lie. -/
structure Vl where
  m : Value
  X : List V.P2
  t : Value
  L : List Le
def Vl.d (x : Vl) : List V.P2 × List (E18 × List P5 × List W3) := (x.X, x.L.map Le.v)
def Vl.cs (x : Vl) : Array Value := #[x.m, x.t]
structure Vl.Ok (x : Vl) (W : World) : Prop where
  m : PrO W x.m x.X
  t : EnO W x.t x.L
  lm : x.X.length ≤ 1000
  lt : x.L.length ≤ 1000
theorem Vl.Ok.keep {x : Vl} {W W' : World} (h : x.Ok W) (k : Keeps W W') : x.Ok W' := ⟨h.m.keep k, h.t.keep k, h.lm, h.lt⟩
/-- a value whose cells may be read, whatever their blocks. -/
structure Vl.At (x : Vl) (W : World) (B : Nat) : Prop where
  m : ∃ A c, x.m = .slice A x.X.length c ∧ V.RowsV W B A x.X ∧ x.X.length ≤ c ∧ c ≤ maxLen
  t : ∃ A c, x.t = .slice A x.L.length c ∧ RowsE W B A x.L ∧ x.L.length ≤ c ∧ c ≤ maxLen
  lm : x.X.length ≤ 1000
  lt : x.L.length ≤ 1000
theorem RowsE.below {W W' : World} {B B' C : Nat} {A : Option Addr} {L : List Le} (h : RowsE W B A L) (hb : Below C W W') (hC : B ≤ C) (hB : B ≤ B') : RowsE W' B' A L := fun hne => by
  obtain ⟨b, o, e, hlt, hc⟩ := h hne
  exact ⟨b, o, e, Nat.lt_of_lt_of_le hlt hB, fun i e he => ⟨fun j u hj => (hb.cell (p := ⟨b, _, none⟩) (Nat.lt_of_lt_of_le hlt hC)).trans ((hc i e he).1 j u hj), (hc i e he).2.below hb hC hB⟩⟩
theorem Vl.At.below {x : Vl} {W W' : World} {B B' C : Nat} (h : x.At W B) (hb : Below C W W') (hC : B ≤ C) (hB : B ≤ B') : x.At W' B' := by
  obtain ⟨A, c, e, h1, h2, h3⟩ := h.m
  obtain ⟨A', c', e', k1, k2, k3⟩ := h.t
  exact ⟨⟨A, c, e, h1.below hb hC hB, h2, h3⟩, ⟨A', c', e', k1.below hb hC hB, k2, k3⟩, h.lm, h.lt⟩
theorem Vl.Ok.at_ {x : Vl} {W : World} (h : x.Ok W) : x.At W W.heap.size := by
  obtain ⟨A, c, e, h1, h2, h3, _⟩ := h.m.rows
  obtain ⟨A', c', e', k1, k2, k3, _⟩ := h.t.rows
  exact ⟨⟨A, c, e, h1, h2, h3⟩, ⟨A', c', e', k1, k2, k3⟩, h.lm, h.lt⟩
def V0 : Vl := ⟨.slice none 0 0, [], .slice none 0 0, []⟩
theorem V0.ok (W : World) : V0.Ok W := ⟨PrO.nil W, EnO.nil W, by simp [V0], by simp [V0]⟩

end Go.Proofs.Ytfkmodmgihadkaa
