/-
  Lists of writes in memory; the law's Own, Ref, Same, by contracts. Condition: the lists take at most 2^47 bytes.
-/
import Derived.Test.YtjdmjiikpnlkjaaRows
import Derived.WalkKit
import Derived.WalkSpells
import Derived.WalkLawsBesides
import Derived.Deep.RegionWith
import Derived.Deep.RegionHeld3
import Derived.BigRegion
import Derived.BigQuiet
import Derived.Lib.Hide
import Derived.LoopN
import Derived.Handy
import Derived.Below
import Derived.Laws.OwnMore
import Derived.Deep.AppendLies
import Derived.Deep.Draws
import Derived.Maps.AppendAt
import Derived.RegionTactic
import Derived.OwnWalk
import Derived.IntWalk
import Derived.Laws.StructEq
namespace Go.Proofs.Ytjdmjiikpnlkjaa
set_option linter.unusedSimpArgs false
set_option linter.unusedVariables false
open Go.RowKit

/-- a write. -/
structure W3 where
  key : ByteArray
  val : ByteArray
  has : Bool
instance : Inhabited W3 := ⟨⟨ByteArray.empty, ByteArray.empty, false⟩⟩
/-- its cells. -/
def W3.cells (x : W3) : List Value := [.string x.key, .string x.val, .bool x.has]
/-- a write in memory. -/
structure WrAt (W : World) (b o : Nat) (x : W3) : Prop where
  c0 : W.cell? ⟨b, o, none⟩ = some (.string x.key)
  c1 : W.cell? ⟨b, o + 1, none⟩ = some (.string x.val)
  c2 : W.cell? ⟨b, o + 2, none⟩ = some (.bool x.has)
theorem WrAt.keep {W W' : World} {b o : Nat} {x : W3} (h : WrAt W b o x) (hk : ∀ i, W'.cell? ⟨b, i, none⟩ = W.cell? ⟨b, i, none⟩) : WrAt W' b o x :=
  ⟨(hk _).trans h.c0, (hk _).trans h.c1, (hk _).trans h.c2⟩
theorem WrAt.below {W W' : World} {b o B : Nat} {x : W3} (h : WrAt W b o x) (hb : Below B W W') (hl : b < B) : WrAt W' b o x :=
  h.keep fun i => hb.cell (p := ⟨b, i, none⟩) hl

/-- a list of writes in memory, behind a slice's address. -/
def RowsW (W : World) (B : Nat) (A : Option Addr) (X : List W3) : Prop :=
  X ≠ [] → ∃ b o, A = some ⟨b, o, none⟩ ∧ b < B ∧ ∀ i x, X[i]? = some x → WrAt W b (o + i * 3) x
theorem RowsW.keep {W W' : World} {B B' : Nat} {A : Option Addr} {X : List W3} (h : RowsW W B A X) (hB : B ≤ B') (hk : ∀ b i, b < B → W'.cell? ⟨b, i, none⟩ = W.cell? ⟨b, i, none⟩) : RowsW W' B' A X := fun hx => by
  obtain ⟨b, o, e, hb, hc⟩ := h hx
  exact ⟨b, o, e, Nat.lt_of_lt_of_le hb hB, fun i x hi => (hc i x hi).keep fun j => hk b j hb⟩
theorem RowsW.below {W W' : World} {B B' C : Nat} {A : Option Addr} {X : List W3} (h : RowsW W B A X) (hb : Below C W W') (hC : B ≤ C) (hB : B ≤ B') : RowsW W' B' A X :=
  h.keep hB fun b i hl => hb.cell (p := ⟨b, i, none⟩) (by simp; omega)
theorem RowsW.at_ {W : World} {B : Nat} {A : Option Addr} {X : List W3} (h : RowsW W B A X) {k : Nat} (hk : k < X.length) : ∃ b o, A = some ⟨b, o, none⟩ ∧ b < B ∧ WrAt W b (o + k * 3) X[k] := by
  obtain ⟨b, o, e, hb, hc⟩ := h (fun e => by rw [e] at hk; simp at hk)
  exact ⟨b, o, e, hb, hc k _ (List.getElem?_eq_getElem hk)⟩
/-- the cells of a list. -/
def cellsW (X : List W3) : List Value := X.flatMap W3.cells
theorem cellsW_length (X : List W3) : (cellsW X).length = X.length * 3 := by
  induction X with
  | nil => rfl
  | cons x X ih =>
    show (W3.cells x ++ cellsW X).length = _
    rw [List.length_append, ih]
    simp [W3.cells]
    omega
theorem cellsW_at (X : List W3) : ∀ (i : Nat) (x : W3), X[i]? = some x → ∀ j, j < 3 → (cellsW X)[i * 3 + j]? = x.cells[j]? := by
  induction X with
  | nil => intro i x h; simp at h
  | cons y X ih =>
    intro i x h j hj
    show (W3.cells y ++ cellsW X)[i * 3 + j]? = _
    cases i with
    | zero =>
      simp at h
      subst h
      rw [Nat.zero_mul, Nat.zero_add, List.getElem?_append_left (by simp [W3.cells]; omega)]
    | succ i =>
      simp at h
      rw [List.getElem?_append_right (by simp [W3.cells]; omega)]
      have := ih i x h j hj
      rw [← this]
      congr 1
      simp [W3.cells]
      omega
theorem cellsW_snoc (X : List W3) (x : W3) : cellsW (X ++ [x]) = cellsW X ++ x.cells := by simp [cellsW]
theorem cellsW_one (X : List W3) : ∀ u ∈ cellsW X, u.oneCell' = true := by
  intro u hu
  simp only [cellsW, List.mem_flatMap] at hu
  obtain ⟨x, _, h⟩ := hu
  simp only [W3.cells, List.mem_cons, List.not_mem_nil, or_false] at h
  rcases h with rfl | rfl | rfl <;> rfl
theorem rowsW_of_cells {W : World} {b o B : Nat} {X : List W3} (hb : b < B) (h : ∀ j u, (cellsW X)[j]? = some u → W.cell? ⟨b, o + j, none⟩ = some u) : RowsW W B (some ⟨b, o, none⟩) X := fun _ =>
  ⟨b, o, rfl, hb, fun i x hi => by
    have hl : i < X.length := (List.getElem?_eq_some_iff.1 hi).1
    have e := cellsW_at X i x hi
    exact ⟨h _ _ ((e 0 (by omega)).trans rfl), h _ _ ((e 1 (by omega)).trans rfl), h _ _ ((e 2 (by omega)).trans rfl)⟩⟩
/-- a row of the call's own is a list in memory. -/
theorem rowsW_of_own {W : World} {base : Nat} {e : TypeId} {v : Value} {X : List W3} (h : W.ownsRow base e 3 v X.length (cellsW X)) :
    ∃ A c, v = .slice A X.length c ∧ RowsW W W.heap.size A X ∧ X.length ≤ c ∧ c ≤ maxLen := by
  rcases h.2 with ⟨rfl, hn⟩ | ⟨g, cap, cur, rfl, hb, hg, hnc, hcm, hcs, ht⟩
  · have : X = [] := List.eq_nil_of_length_eq_zero hn
    subst this
    exact ⟨none, 0, rfl, fun hx => absurd rfl hx, Nat.le_refl _, by unfold maxLen; omega⟩
  · refine ⟨_, cap, rfl, rowsW_of_cells (h.lt g rfl).2 fun j u hu => ?_, hnc, hcm⟩
    have := h.cells (g := g) rfl j u hu
    rw [Nat.zero_add]
    by_cases hj : j = 0
    · subst hj; exact this
    · simpa [Addr.add, hj] using this

theorem cells_newW (W : World) (cs : Array Value) (t : TypeId) : ∀ j u, cs.toList[j]? = some u → (W.alloc (.cells cs t)).cell? ((⟨W.heap.size, 0, none⟩ : Addr).add j) = some u := by
  intro j u hj
  have h := cell_of_row (W.alloc (.cells cs t)) W.heap.size j cs t (0, 0) (heap_alloc_new W _)
  have e : (⟨W.heap.size, 0, none⟩ : Addr).add j = ⟨W.heap.size, j, none⟩ := by
    unfold Addr.add
    by_cases h0 : j = 0 <;> simp [h0]
  rw [e, h]
  simpa using hj
theorem own_snocW {w W W' : World} {e : TypeId} {v : Value} {k : Nat} {X : List Value} (B : Below w.heap.size w W) (O : W.ownsRow w.heap.size e 3 v k X) (hg : W.grownBy W' v.ownBlock) : Below w.heap.size w W' :=
  B.grown hg B.size fun j hj => (O.lt j hj).1
theorem wr_info : (Try.prog.info? 117).map (fun i => (i.zero, i.size, i.bytes)) = some (some (.agg #[.string ByteArray.empty, .string ByteArray.empty, .bool false]), 3, 40) := by kernel_rfl
theorem rwr_info : (Try.prog.info? 120).map (fun i => (i.zero, i.size, i.bytes)) = some (some (.agg #[.string ByteArray.empty, .string ByteArray.empty, .bool false]), 3, 40) := by kernel_rfl

set_option maxRecDepth 100000 in
set_option maxHeartbeats 4000000 in
theorem ownW (A : Option Addr) (X : List W3) (c : Nat) (w : World) (hr : RowsW w w.heap.size A X) (hX : X.length * 40 ≤ 140737488355328) (hc : X.length ≤ c) (hm : c ≤ maxLen) :
    Calls Try.prog 67 #[.slice A X.length c] w fun e w' => ∃ v, e = .returned v ∧ w'.ownsRow w.heap.size 117 3 v X.length (cellsW X) ∧ Below w.heap.size w w' := by
  obtain ⟨i0, hi0, hz0, hz1, hz2⟩ := info_parts wr_info
  unfold maxLen at hm
  go_enter Try.func67, Try.ntmps67
  go_wp2
  go_loopw [3, 4] (fun v i wx => ∃ k : Nat, k ≤ X.length ∧ i = .int .i64 k ∧ Hid (wx.ownsRow w.heap.size 117 3 v k (cellsW (X.take k))) ∧ Hid (Below w.heap.size w wx)) (fun _ i _ => X.length - (intOf i).toNat)
  case atStart => exact ⟨0, by omega, rfl, Lib.hid ⟨rfl, .inl ⟨rfl, rfl⟩⟩, Lib.hid (Below.refl _ _)⟩
  case round =>
    rename_i v0 _
    obtain ⟨k, hk, rfl, O, B⟩ := hrel
    by_cases hlt : k < X.length
    · obtain ⟨b, o, rfl, hb, C⟩ := hr.at_ hlt
      have C' := C.below B.out hb
      have hbl : b < wr.heap.size := Nat.lt_of_lt_of_le hb B.out.size
      have hx : X[k]? = some X[k] := List.getElem?_eq_getElem hlt
      have htk : cellsW (X.take (k + 1)) = cellsW (X.take k) ++ (X[k]).cells := by
        rw [List.take_add_one, hx]; exact cellsW_snoc _ _
      have HT := Lib.hid htk
      generalize X[k] = x at *
      obtain ⟨c0, c1, c2⟩ := C'
      clear hr C hx htk
      have hji : (k : Int) < (X.length : Int) := by omega
      have hj0 : (0 : Int) ≤ (k : Int) := by omega
      have hci : (X.length : Int) ≤ (c : Int) := by omega
      have C0 := Lib.hid c0
      have C1 := Lib.hid c1
      have C2 := Lib.hid c2
      go_wp2
      go_region_held3 (fun w' => w'.cell? ⟨b, o + k * 3, none⟩ = some (.string x.key) ∧ w'.cell? ⟨b, o + k * 3 + 1, none⟩ = some (.string x.val) ∧ w'.cell? ⟨b, o + k * 3 + 2, none⟩ = some (.bool x.has)) (first | exact ⟨D0, D1, D2⟩ | exact ⟨C0.out, C1.out, C2.out⟩ | exact ⟨(World.cell?_alloc_lt _ _ _ (by exact hbl)).trans C0.out, (World.cell?_alloc_lt _ _ _ (by exact hbl)).trans C1.out, (World.cell?_alloc_lt _ _ _ (by exact hbl)).trans C2.out⟩)
        (first
          | (refine step_append_lies _ (by rfl) (.tmp 11) (.tmp 28) 61 (by rfl) w.heap.size 117 i0 _ 3 40 Try.underlying61 hi0 hz0 hz1 hz2 rfl (by decide) _ k _ (by rfl) ((O.out.drew).alloc _) ⟨wr.heap.size, 0, none⟩ 1 1 x.cells (by rfl) (by rfl) (fun j u hu => cells_newW wr #[.string x.key, .string x.val, .bool x.has] 117 j u hu) (fun u hu => cellsW_one [x] u (by simpa [cellsW] using hu)) (by decide) (by unfold maxLen; omega) (by omega) (by have := B.out.size; simp; omega) (wr.heap.size + 1) (by simp) ?_
             intro gg cap w1 O1 g1 hat hl1
             have b0 : Below w.heap.size w (wr.drew.alloc (.cells #[.string x.key, .string x.val, .bool x.has] 117)) := (B.out.drew).alloc (by have := B.out.size; simpa using this) _
             have BB := Lib.hid (own_snocW b0 ((O.out.drew).alloc _) g1)
             have D0 := (BB.out.cell (p := ⟨b, _, none⟩) hb).trans ((B.out.cell (p := ⟨b, _, none⟩) hb).symm.trans C0.out)
             have D1 := (BB.out.cell (p := ⟨b, _, none⟩) hb).trans ((B.out.cell (p := ⟨b, _, none⟩) hb).symm.trans C1.out)
             have D2 := (BB.out.cell (p := ⟨b, _, none⟩) hb).trans ((B.out.cell (p := ⟨b, _, none⟩) hb).symm.trans C2.out)
             rw [← HT.out] at O1
             have OO := Lib.hid O1
             clear O1 b0 g1 hat hl1))
      go_wp2
      go_roundw
      case rel => exact ⟨k + 1, by omega, by go_num, OO, BB⟩
      case measure => simp [intOf]; omega
    · have hkk : k = X.length := by omega
      subst hkk
      rw [List.take_length] at O
      go_wp2
      go_ret
      exact ⟨_, rfl, O.out, B.out⟩

/-- are two writes the same? -/
def eqW (x y : W3) : Bool := decide (x.key = y.key) && decide (x.val = y.val) && decide (x.has = y.has)
theorem eqW_self (x : W3) : eqW x x = true := by simp [eqW]
theorem toList_injW (s t : ByteArray) : s.toList = t.toList ↔ s = t := by
  rw [ByteArray.toList_eq, ByteArray.toList_eq]
  constructor
  · intro h
    exact ByteArray.ext (Array.ext' h)
  · rintro rfl; rfl
theorem neqVW (x y : W3) (w : World) : Sem.run Try.prog (binOp .neq 120 (.agg #[.string x.key, .string x.val, .bool x.has]) (.agg #[.string y.key, .string y.val, .bool y.has])) w = .ok (.bool (!eqW x y)) w := by
  have u4 := Try.underlying4
  have a4 := Try.isAgg4
  have z4 := Try.sizeOf4
  have u9 := Try.underlying9
  have a9 := Try.isAgg9
  have z9 := Try.sizeOf9
  have hS : Try.prog.underlying 120 = some (.struct (Try.prog.fieldsOf 120)) := by kernel_rfl
  have hp : Try.prog.stoodInHeld 120 = false := by kernel_rfl
  rw [run_neq_struct, show (10000 : Nat) = 9999 + 1 from rfl, run_equalIn_agg w 9999 120 _ _ hS hp]
  simp only [Program.fieldsOf, Try.underlying120]
  go_simp
  simp only [toList_injW]
  unfold eqW
  by_cases h3 : x.key = y.key <;> by_cases h4 : x.val = y.val <;> by_cases h5 : x.has = y.has <;> simp [h3, h4, h5]
theorem neqWW (x y : W3) (w : World) : Sem.run Try.prog (binOp .neq 117 (.agg #[.string x.key, .string x.val, .bool x.has]) (.agg #[.string y.key, .string y.val, .bool y.has])) w = .ok (.bool (!eqW x y)) w := by
  have u4 := Try.underlying4
  have a4 := Try.isAgg4
  have z4 := Try.sizeOf4
  have u9 := Try.underlying9
  have a9 := Try.isAgg9
  have z9 := Try.sizeOf9
  have hS : Try.prog.underlying 117 = some (.struct (Try.prog.fieldsOf 117)) := by kernel_rfl
  have hp : Try.prog.stoodInHeld 117 = false := by kernel_rfl
  rw [run_neq_struct, show (10000 : Nat) = 9999 + 1 from rfl, run_equalIn_agg w 9999 117 _ _ hS hp]
  simp only [Program.fieldsOf, Try.underlying117]
  go_simp
  simp only [toList_injW]
  unfold eqW
  by_cases h3 : x.key = y.key <;> by_cases h4 : x.val = y.val <;> by_cases h5 : x.has = y.has <;> simp [h3, h4, h5]
theorem eqlWW (x y : W3) (w : World) : Sem.run Try.prog (binOp .eql 117 (.agg #[.string x.key, .string x.val, .bool x.has]) (.agg #[.string y.key, .string y.val, .bool y.has])) w = .ok (.bool (eqW x y)) w := by
  have u4 := Try.underlying4
  have a4 := Try.isAgg4
  have z4 := Try.sizeOf4
  have u9 := Try.underlying9
  have a9 := Try.isAgg9
  have z9 := Try.sizeOf9
  have hS : Try.prog.underlying 117 = some (.struct (Try.prog.fieldsOf 117)) := by kernel_rfl
  have hp : Try.prog.stoodInHeld 117 = false := by kernel_rfl
  rw [run_eql_struct, show (10000 : Nat) = 9999 + 1 from rfl, run_equalIn_agg w 9999 117 _ _ hS hp]
  simp only [Program.fieldsOf, Try.underlying117]
  go_simp
  simp only [toList_injW]
  unfold eqW
  by_cases h3 : x.key = y.key <;> by_cases h4 : x.val = y.val <;> by_cases h5 : x.has = y.has <;> simp [h3, h4, h5]
theorem neqW (x : W3) (w : World) : Sem.run Try.prog (binOp .neq 120 (.agg #[.string x.key, .string x.val, .bool x.has]) (.agg #[.string x.key, .string x.val, .bool x.has])) w = .ok (.bool false) w := by
  rw [neqVW, eqW_self]
  rfl
theorem Below.drewsN {B n : Nat} {a w : World} (h : Below B a w) : Below B a (w.drewN n) := h.trans ⟨rfl, rfl, rfl, Nat.le_refl _, fun _ _ => rfl⟩
end Go.Proofs.Ytjdmjiikpnlkjaa
