/-
  A parcel whose bytes are changed in place: the plain side. No condition.
-/
import Derived.Test.YteaafpgkifmdeaaBtk
import Derived.Laws.BitsAllLaws
namespace Go.Proofs.Yteaafpgkifmdeaa
set_option linter.unusedSimpArgs false
set_option linter.unusedVariables false
open Go.RowKit

/-- the first k of some bytes from place i on, changed by m. -/
def xorAt (x : List UInt8) (i : Nat) (m : Nat → UInt8) : Nat → List UInt8
  | 0 => x
  | k + 1 => (xorAt x i m k).set (i + k) ((x.getD (i + k) 0) ^^^ m k)
theorem xorAt_length (x : List UInt8) (i : Nat) (m : Nat → UInt8) (k : Nat) : (xorAt x i m k).length = x.length := by
  induction k with
  | zero => rfl
  | succ k ih => rw [xorAt, List.length_set, ih]
theorem xorAt_get (x : List UInt8) (i : Nat) (m : Nat → UInt8) (k : Nat) (hk : i + k ≤ x.length) (t : Nat) : (xorAt x i m k)[t]? = (x[t]?).map (fun b => if i ≤ t ∧ t < i + k then b ^^^ m (t - i) else b) := by
  induction k with
  | zero =>
    rw [xorAt]
    cases x[t]? with
    | none => rfl
    | some b =>
      simp
      intro h1 h2
      omega
  | succ k ih =>
    have ih := ih (by omega)
    rw [xorAt, List.getElem?_set]
    by_cases h : i + k = t
    · subst h
      have hl : i + k < (xorAt x i m k).length := by rw [xorAt_length]; omega
      rw [if_pos rfl, if_pos hl, List.getElem?_eq_getElem (by omega)]
      simp [List.getD, List.getElem?_eq_getElem (show i + k < x.length by omega)]
    · rw [if_neg h, ih]
      cases x[t]? with
      | none => rfl
      | some b =>
        simp only [Option.map_some]
        congr 1
        by_cases h1 : i ≤ t ∧ t < i + k
        · rw [if_pos h1, if_pos ⟨h1.1, by omega⟩]
        · rw [if_neg h1, if_neg (fun h2 => h1 ⟨h2.1, by omega⟩)]
theorem xorAt_next (x : List UInt8) (i : Nat) (m : Nat → UInt8) (k : Nat) (hk : i + k < x.length) : (xorAt x i m k)[i + k]? = some (x.getD (i + k) 0) := by
  rw [xorAt_get x i m k (by omega), List.getElem?_eq_getElem hk]
  simp [List.getD, List.getElem?_eq_getElem hk]
/-- the bytes of a mask. -/
def maskB (mask : Nat) (k : Nat) : UInt8 := UInt8.ofNat (mask / 256 ^ k % 256)

/-- a parcel spoilt. -/
def Lp.spoil (x : Lp) (i m : Nat) : Lp := ⟨⟨x.p.fn, x.p.fl, x.p.tn, x.p.tl, xorAt x.p.B i (maskB m) 4, true⟩, x.A, x.c⟩
theorem spoil_cs (x : Lp) (i m : Nat) : (x.spoil i m).cs.toList = x.cs.toList.set 5 (.bool true) := by
  simp [Lp.spoil, Lp.cs, xorAt_length]
theorem cellsL_set (L : List Lp) : ∀ (i : Nat) (x y : Lp) (v : Value), L[i]? = some x → y.cs.toList = x.cs.toList.set 5 v → cellsL (L.set i y) = (cellsL L).set (i * 6 + 5) v := by
  induction L with
  | nil => intro i x y v h; simp at h
  | cons z L ih =>
    intro i x y v h hy
    have e1 : cellsL (z :: L) = z.cs.toList ++ cellsL L := rfl
    have l6 : z.cs.toList.length = 6 := rfl
    cases i with
    | zero =>
      simp at h
      subst h
      show y.cs.toList ++ cellsL L = _
      rw [e1, hy, List.set_append, if_pos (by rw [l6]; omega)]
    | succ i =>
      simp at h
      show z.cs.toList ++ cellsL (L.set i y) = _
      rw [e1, List.set_append, if_neg (by rw [l6]; omega), ih i x y v h hy, l6]
      congr 2
      omega
/-- what Apart asks of. -/
def Lp.key (x : Lp) : Bool × Nat := (x.p.B.isEmpty, x.g)
theorem apart_key (L : List Lp) : L.Pairwise Lp.Apart ↔ (L.map Lp.key).Pairwise (fun a b => a.1 = false → b.1 = false → a.2 ≠ b.2) := by
  rw [List.pairwise_map]
  constructor <;> intro h <;> refine h.imp fun {a b} hab => ?_
  · intro h1 h2
    exact hab (fun e => by simp [Lp.key, e] at h1) (fun e => by simp [Lp.key, e] at h2)
  · intro h1 h2
    refine hab ?_ ?_
    · simp [Lp.key, List.isEmpty_eq_false_iff, h1]
    · simp [Lp.key, List.isEmpty_eq_false_iff, h2]
theorem apart_set {L : List Lp} (h : L.Pairwise Lp.Apart) {i : Nat} {x y : Lp} (hx : L[i]? = some x) (hy : y.key = x.key) : (L.set i y).Pairwise Lp.Apart := by
  rw [apart_key] at h ⊢
  rw [List.map_set, hy]
  have : (L.map Lp.key).set i x.key = L.map Lp.key := by
    apply List.ext_getElem?
    intro j
    rw [List.getElem?_set]
    split
    · rename_i e
      subst e
      split
      · rw [List.getElem?_map, hx]; rfl
      · rename_i h'
        rw [List.getElem?_eq_none (by omega)]
    · rfl
  rw [this]
  exact h
theorem spoil_key (x : Lp) (i m : Nat) : (x.spoil i m).key = x.key := by
  have hl := xorAt_length x.p.B i (maskB m) 4
  have e : (xorAt x.p.B i (maskB m) 4).isEmpty = x.p.B.isEmpty := by
    rw [Bool.eq_iff_iff, List.isEmpty_iff_length_eq_zero, List.isEmpty_iff_length_eq_zero, hl]
  unfold Lp.key Lp.spoil
  exact Prod.ext e rfl
theorem apart_at {L : List Lp} (h : L.Pairwise Lp.Apart) {i j : Nat} {x y : Lp} (hx : L[i]? = some x) (hy : L[j]? = some y) (hij : i ≠ j) : x.Apart y := by
  have hi := (List.getElem?_eq_some_iff.1 hx)
  have hj := (List.getElem?_eq_some_iff.1 hy)
  obtain ⟨h1, rfl⟩ := hi
  obtain ⟨h2, rfl⟩ := hj
  rcases Nat.lt_or_gt_of_ne hij with h3 | h3
  · exact (List.pairwise_iff_getElem.1 h) i j h1 h2 h3
  · have := (List.pairwise_iff_getElem.1 h) j i h2 h1 h3
    exact fun a b e => this b a e.symm

/-- a step of the change: the byte that is read, what is written, the row behind it. -/
theorem spoil_step (B : List UInt8) (a m k n : Nat) (W : World) (gb : Nat) (hn : B.length = n) (hk : k < 4) (ha : a + 4 ≤ n) (hm : m < 4294967296)
    (h : ∃ cur, W.heap[gb]? = some (.cells cur 5 (0, 0)) ∧ cur.toList.take n = Lib.byteCells (xorAt B a (maskB m) k)) :
    ∃ q z : Nat, W.cell? ⟨gb, a + k, none⟩ = some (.int .u8 (q : Nat)) ∧ bits BinOp.xor IntKind.u8 (q : Int) (((maskB m k).toNat : Nat) : Int) = ((z : Nat) : Int) ∧
      ∃ cur, (W.setCell ⟨gb, a + k, none⟩ (.int .u8 (z : Nat))).heap[gb]? = some (.cells cur 5 (0, 0)) ∧ cur.toList.take n = Lib.byteCells (xorAt B a (maskB m) (k + 1)) := by
  obtain ⟨cur, h1, h2⟩ := h
  refine ⟨(B.getD (a + k) 0).toNat, ((B.getD (a + k) 0) ^^^ maskB m k).toNat, ?_, ?_, _, row_set h1 _, ?_⟩
  · rw [cell_of_row _ _ _ _ _ _ h1]
    have h3 : (cur.toList.take n)[a + k]? = some (.int .u8 ((B.getD (a + k) 0).toNat : Nat)) := by
      rw [h2, Lib.byteCells, List.getElem?_map, xorAt_next B a (maskB m) k (by omega)]
      rfl
    rw [List.getElem?_take, if_pos (by omega)] at h3
    simpa using h3
  · rw [u8_xor_nat _ _ (UInt8.toNat_lt _) (UInt8.toNat_lt _), UInt8.toNat_xor]
  · rw [Array.toList_setIfInBounds, List.take_set, h2, xorAt]
    simp [Lib.byteCells, List.map_set]

end Go.Proofs.Yteaafpgkifmdeaa
