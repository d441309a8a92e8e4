/-
  Lists of processes in memory: what they hold, what is kept of them; the laws' Procs and RefProcs, which processes may be, by contracts. Condition: the list takes at most 2^47 bytes.
-/
import Derived.Test.YtmhgopaekpnhoaaRows
import Derived.WalkKit
import Derived.WalkSpells
import Derived.WalkLawsBesides
import Derived.Deep.RegionWith
import Derived.Deep.RegionHeld3
import Derived.BigRegion
import Derived.Lib.Hide
import Derived.LoopN
import Derived.Handy
import Derived.Below
import Derived.Laws.OwnMore
import Derived.Deep.AppendLies
import Derived.Deep.Draws
import Derived.Maps.AppendAt
import Derived.RegionTactic
import Derived.OwnWalk
namespace Go.Proofs.Ytmhgopaekpnhoaa.V
set_option linter.unusedSimpArgs false
set_option linter.unusedVariables false
open Go.RowKit

theorem ret_bool {a b : Bool} (h : a = b) : Ending.returned (.bool a) = .returned (.bool b) := by rw [h]
/-- a process. -/
structure P2 where
  n : Int
  l : Int
  deriving DecidableEq
instance : Inhabited P2 := ⟨⟨0, 0⟩⟩
/-- its cells. -/
def P2.cells (x : P2) : List Value := [.int .u8 x.n, .int .u16 x.l]
/-- may there be such a process? -/
def P2.r (x : P2) : Bool := decide (x.n < 16) && decide (1 ≤ x.l)
/-- a process in memory. -/
structure PrAt (W : World) (b o : Nat) (x : P2) : Prop where
  c0 : W.cell? ⟨b, o, none⟩ = some (.int .u8 x.n)
  c1 : W.cell? ⟨b, o + 1, none⟩ = some (.int .u16 x.l)
theorem PrAt.keep {W W' : World} {b o : Nat} {x : P2} (h : PrAt W b o x) (hk : ∀ i, W'.cell? ⟨b, i, none⟩ = W.cell? ⟨b, i, none⟩) : PrAt W' b o x :=
  ⟨(hk _).trans h.c0, (hk _).trans h.c1⟩
theorem PrAt.below {W W' : World} {b o B : Nat} {x : P2} (h : PrAt W b o x) (hb : Below B W W') (hl : b < B) : PrAt W' b o x :=
  h.keep fun i => hb.cell (p := ⟨b, i, none⟩) hl

/-- a list of processes in memory, behind a slice's address. -/
def RowsV (W : World) (B : Nat) (A : Option Addr) (X : List P2) : Prop :=
  X ≠ [] → ∃ b o, A = some ⟨b, o, none⟩ ∧ b < B ∧ ∀ i x, X[i]? = some x → PrAt W b (o + i * 2) x
theorem RowsV.keep {W W' : World} {B B' : Nat} {A : Option Addr} {X : List P2} (h : RowsV W B A X) (hB : B ≤ B') (hk : ∀ b i, b < B → W'.cell? ⟨b, i, none⟩ = W.cell? ⟨b, i, none⟩) : RowsV W' B' A X := fun hx => by
  obtain ⟨b, o, e, hb, hc⟩ := h hx
  exact ⟨b, o, e, Nat.lt_of_lt_of_le hb hB, fun i x hi => (hc i x hi).keep fun j => hk b j hb⟩
theorem RowsV.below {W W' : World} {B B' C : Nat} {A : Option Addr} {X : List P2} (h : RowsV W B A X) (hb : Below C W W') (hC : B ≤ C) (hB : B ≤ B') : RowsV W' B' A X :=
  h.keep hB fun b i hl => hb.cell (p := ⟨b, i, none⟩) (by simp; omega)
theorem RowsV.at_ {W : World} {B : Nat} {A : Option Addr} {X : List P2} (h : RowsV W B A X) {k : Nat} (hk : k < X.length) : ∃ b o, A = some ⟨b, o, none⟩ ∧ b < B ∧ PrAt W b (o + k * 2) X[k] := by
  obtain ⟨b, o, e, hb, hc⟩ := h (fun e => by rw [e] at hk; simp at hk)
  exact ⟨b, o, e, hb, hc k _ (List.getElem?_eq_getElem hk)⟩
/-- the cells of a list. -/
def cellsV (X : List P2) : List Value := X.flatMap P2.cells
theorem cellsV_length (X : List P2) : (cellsV X).length = X.length * 2 := by
  induction X with
  | nil => rfl
  | cons x X ih =>
    show (P2.cells x ++ cellsV X).length = _
    rw [List.length_append, ih]
    simp [P2.cells]
    omega
theorem cellsV_at (X : List P2) : ∀ (i : Nat) (x : P2), X[i]? = some x → ∀ j, j < 2 → (cellsV X)[i * 2 + j]? = x.cells[j]? := by
  induction X with
  | nil => intro i x h; simp at h
  | cons y X ih =>
    intro i x h j hj
    show (P2.cells y ++ cellsV X)[i * 2 + j]? = _
    cases i with
    | zero =>
      simp at h
      subst h
      rw [Nat.zero_mul, Nat.zero_add, List.getElem?_append_left (by simp [P2.cells]; omega)]
    | succ i =>
      simp at h
      rw [List.getElem?_append_right (by simp [P2.cells]; omega)]
      have := ih i x h j hj
      rw [← this]
      congr 1
      simp [P2.cells]
      omega
theorem cellsV_snoc (X : List P2) (x : P2) : cellsV (X ++ [x]) = cellsV X ++ x.cells := by simp [cellsV]
theorem cellsV_one (X : List P2) : ∀ u ∈ cellsV X, u.oneCell' = true := by
  intro u hu
  simp only [cellsV, List.mem_flatMap] at hu
  obtain ⟨x, _, h⟩ := hu
  simp only [P2.cells, List.mem_cons, List.not_mem_nil, or_false] at h
  rcases h with rfl | rfl <;> rfl
theorem rowsV_of_cells {W : World} {b o B : Nat} {X : List P2} (hb : b < B) (h : ∀ j u, (cellsV X)[j]? = some u → W.cell? ⟨b, o + j, none⟩ = some u) : RowsV W B (some ⟨b, o, none⟩) X := fun _ =>
  ⟨b, o, rfl, hb, fun i x hi => by
    have hl : i < X.length := (List.getElem?_eq_some_iff.1 hi).1
    have e := cellsV_at X i x hi
    exact ⟨h _ _ ((e 0 (by omega)).trans rfl), h _ _ ((e 1 (by omega)).trans rfl)⟩⟩
/-- a row of the call's own is a list in memory. -/
theorem rowsV_of_own {W : World} {base : Nat} {e : TypeId} {v : Value} {X : List P2} (h : W.ownsRow base e 2 v X.length (cellsV X)) :
    ∃ A c, v = .slice A X.length c ∧ RowsV W W.heap.size A X ∧ X.length ≤ c ∧ c ≤ maxLen := by
  rcases h.2 with ⟨rfl, hn⟩ | ⟨g, cap, cur, rfl, hb, hg, hnc, hcm, hcs, ht⟩
  · have : X = [] := List.eq_nil_of_length_eq_zero hn
    subst this
    exact ⟨none, 0, rfl, fun hx => absurd rfl hx, Nat.le_refl _, by unfold maxLen; omega⟩
  · refine ⟨_, cap, rfl, rowsV_of_cells (h.lt g rfl).2 fun j u hu => ?_, hnc, hcm⟩
    have := h.cells (g := g) rfl j u hu
    rw [Nat.zero_add]
    by_cases hj : j = 0
    · subst hj; exact this
    · simpa [Addr.add, hj] using this

theorem cells_new (W : World) (cs : Array Value) (t : TypeId) : ∀ j u, cs.toList[j]? = some u → (W.alloc (.cells cs t)).cell? ((⟨W.heap.size, 0, none⟩ : Addr).add j) = some u := by
  intro j u hj
  have h := cell_of_row (W.alloc (.cells cs t)) W.heap.size j cs t (0, 0) (heap_alloc_new W _)
  have e : (⟨W.heap.size, 0, none⟩ : Addr).add j = ⟨W.heap.size, j, none⟩ := by
    unfold Addr.add
    by_cases h0 : j = 0 <;> simp [h0]
  rw [e, h]
  simpa using hj
theorem own_snoc {w W W' : World} {e : TypeId} {v : Value} {k : Nat} {X : List Value} (B : Below w.heap.size w W) (O : W.ownsRow w.heap.size e 2 v k X) (hg : W.grownBy W' v.ownBlock) : Below w.heap.size w W' :=
  B.grown hg B.size fun j hj => (O.lt j hj).1
theorem pr_info : (Try.prog.info? 67).map (fun i => (i.zero, i.size, i.bytes)) = some (some (.agg #[.int .u8 0, .int .u16 0]), 2, 4) := by kernel_rfl

set_option maxHeartbeats 400000 in
theorem toPr (n l : Int) (w : World) :
    Calls Try.prog 27 #[.agg #[.int .u8 n, .int .u16 l]] w fun e w' => e = .returned (.agg #[.int .u8 n, .int .u16 l]) ∧ ((w.alloc (.cells #[.int .u8 n, .int .u16 l] 38)).alloc (.cells #[.int .u8 n, .int .u16 l] 67)) = w' := by
  go_enter Try.func27, Try.ntmps27
  go_wp2
  exact bodyPost_ret (v := .agg #[.int .u8 n, .int .u16 l]) (by simp [results, Try.results27, go_sem]) rfl ⟨rfl, by simp⟩
set_option maxHeartbeats 400000 in
theorem refPr (n l : Int) (w : World) :
    Calls Try.prog 63 #[.agg #[.int .u8 n, .int .u16 l]] w fun e w' => e = .returned (.agg #[.int .u8 n, .int .u16 l]) ∧ ((w.alloc (.cells #[.int .u8 n, .int .u16 l] 67)).alloc (.cells #[.int .u8 n, .int .u16 l] 38)) = w' := by
  go_enter Try.func63, Try.ntmps63
  go_wp2
  exact bodyPost_ret (v := .agg #[.int .u8 n, .int .u16 l]) (by simp [results, Try.results63, go_sem]) rfl ⟨rfl, by simp⟩
set_option maxHeartbeats 400000 in
theorem rpRight (p : P2) (w : World) :
    Calls Try.prog 74 #[.agg #[.int .u8 p.n, .int .u16 p.l]] w fun e w' => e = .returned (.bool p.r) ∧ w.alloc (.cells #[.int .u8 p.n, .int .u16 p.l] 38) = w' := by
  by_cases h1 : p.n < 16
  all_goals by_cases h2 : 1 ≤ p.l
  all_goals
    go_enter Try.func74, Try.ntmps74
    go_wp2
    go_ret
    refine ⟨?_, rfl⟩
    first | (simp [P2.r, *]; done) | (simp [P2.r, *]; omega)
set_option maxHeartbeats 400000 in
theorem opRight (p : P2) (w : World) :
    Calls Try.prog 72 #[.agg #[.int .u8 p.n, .int .u16 p.l]] w fun e w' => e = .returned (.bool p.r) ∧ w.alloc (.cells #[.int .u8 p.n, .int .u16 p.l] 67) = w' := by
  by_cases h1 : p.n < 16
  all_goals by_cases h2 : 1 ≤ p.l
  all_goals
    go_enter Try.func72, Try.ntmps72
    go_wp2
    go_ret
    refine ⟨?_, rfl⟩
    first | (simp [P2.r, *]; done) | (simp [P2.r, *]; omega)
theorem rpr_info : (Try.prog.info? 38).map (fun i => (i.zero, i.size, i.bytes)) = some (some (.agg #[.int .u8 0, .int .u16 0]), 2, 4) := by kernel_rfl

set_option maxRecDepth 100000 in
set_option maxHeartbeats 2000000 in
theorem procs (A : Option Addr) (X : List P2) (c : Nat) (w : World) (hr : RowsV w w.heap.size A X) (hX : X.length * 4 ≤ 140737488355328) (hc : X.length ≤ c) (hm : c ≤ maxLen) :
    Calls Try.prog 31 #[.slice A X.length c] w fun e w' => ∃ v, e = .returned v ∧ w'.ownsRow w.heap.size 67 2 v X.length (cellsV X) ∧ Below w.heap.size w w' := by
  obtain ⟨i0, hi0, hz0, hz1, hz2⟩ := info_parts pr_info
  unfold maxLen at hm
  go_enter Try.func31, Try.ntmps31
  go_wp2
  go_loopw [3, 4] (fun v i wx => ∃ k : Nat, k ≤ X.length ∧ i = .int .i64 k ∧ Hid (wx.ownsRow w.heap.size 67 2 v k (cellsV (X.take k))) ∧ Hid (Below w.heap.size w wx)) (fun _ i _ => X.length - (intOf i).toNat)
  case atStart => exact ⟨0, by omega, rfl, Lib.hid ⟨rfl, .inl ⟨rfl, rfl⟩⟩, Lib.hid (Below.refl _ _)⟩
  case round =>
    obtain ⟨k, hk, rfl, O, B⟩ := hrel
    by_cases hlt : k < X.length
    · obtain ⟨b, o, rfl, hb, C⟩ := hr.at_ hlt
      have C' := C.below B.out hb
      have hx : X[k]? = some X[k] := List.getElem?_eq_getElem hlt
      have htk : cellsV (X.take (k + 1)) = cellsV (X.take k) ++ (X[k]).cells := by
        rw [List.take_add_one, hx]; exact cellsV_snoc _ _
      have HT := Lib.hid htk
      generalize X[k] = x at *
      obtain ⟨c0, c1⟩ := C'
      clear hr C hx htk
      have hji : (k : Int) < (X.length : Int) := by omega
      have hci : (X.length : Int) ≤ (c : Int) := by omega
      have O1 := ((O.out.alloc (.cells #[.int .u8 x.n, .int .u16 x.l] 38)).alloc (.cells #[.int .u8 x.n, .int .u16 x.l] 67)).alloc (.cells #[.int .u8 x.n, .int .u16 x.l] 67)
      have B1 := ((B.out.alloc B.out.size (.cells #[.int .u8 x.n, .int .u16 x.l] 38)).alloc (by have := B.out.size; simp; omega) (.cells #[.int .u8 x.n, .int .u16 x.l] 67)).alloc (by have := B.out.size; simp; omega) (.cells #[.int .u8 x.n, .int .u16 x.l] 67)
      have N1 := cells_new ((wr.alloc (.cells #[.int .u8 x.n, .int .u16 x.l] 38)).alloc (.cells #[.int .u8 x.n, .int .u16 x.l] 67)) #[.int .u8 x.n, .int .u16 x.l] 67
      have HO := Lib.hid O1
      have HB := Lib.hid B1
      have HN := Lib.hid N1
      have hlx : Hid (x.cells.length = 1 * 2) := Lib.hid rfl
      clear O1 B1 N1
      go_wp2_with (first
        | (go_at_call 27; refine (toPr _ _ _).mono ?_; rintro e w' ⟨rfl, rfl⟩)
        | (at_builtin
           refine wpList_append_own _ rfl (.tmp 11) (.tmp 17) 43 rfl w.heap.size 67 i0 _ 2 4 Try.underlying43 hi0 hz0 hz1 hz2 rfl (by decide) _ k _ rfl HO.out ⟨wr.heap.size + 1 + 1, 0, none⟩ 1 1 x.cells rfl rfl ?_ ?_ (by unfold maxLen; omega) (by omega) HB.out.size ?_
           · intro j u hj; have := HN.out j u hj; simpa using this
           · intro u hu; exact cellsV_one [x] u (by simpa [cellsV] using hu)
           intro v' w' hown' hgrow' hnil'
           have BB := Lib.hid (own_snoc HB.out HO.out hgrow')
           rw [← HT.out] at hown'
           have OO := Lib.hid hown'
           clear hown' hgrow' hnil'))
      go_roundw
      case rel => exact ⟨k + 1, by omega, by go_num, OO, BB⟩
      case measure => simp [intOf]; omega
    · have hkk : k = X.length := by omega
      subst hkk
      rw [List.take_length] at O
      go_wp2
      go_ret
      exact ⟨_, rfl, O.out, B.out⟩

set_option maxRecDepth 100000 in
set_option maxHeartbeats 2000000 in
theorem refProcs (A : Option Addr) (X : List P2) (c : Nat) (w : World) (hr : RowsV w w.heap.size A X) (hX : X.length * 4 ≤ 140737488355328) (hc : X.length ≤ c) (hm : c ≤ maxLen) :
    Calls Try.prog 41 #[.slice A X.length c] w fun e w' => ∃ v, e = .returned v ∧ w'.ownsRow w.heap.size 38 2 v X.length (cellsV X) ∧ Below w.heap.size w w' := by
  obtain ⟨i0, hi0, hz0, hz1, hz2⟩ := info_parts rpr_info
  unfold maxLen at hm
  go_enter Try.func41, Try.ntmps41
  go_wp2
  go_loopw [3, 4] (fun v i wx => ∃ k : Nat, k ≤ X.length ∧ i = .int .i64 k ∧ Hid (wx.ownsRow w.heap.size 38 2 v k (cellsV (X.take k))) ∧ Hid (Below w.heap.size w wx)) (fun _ i _ => X.length - (intOf i).toNat)
  case atStart => exact ⟨0, by omega, rfl, Lib.hid ⟨rfl, .inl ⟨rfl, rfl⟩⟩, Lib.hid (Below.refl _ _)⟩
  case round =>
    obtain ⟨k, hk, rfl, O, B⟩ := hrel
    by_cases hlt : k < X.length
    · obtain ⟨b, o, rfl, hb, C⟩ := hr.at_ hlt
      have C' := C.below B.out hb
      have hx : X[k]? = some X[k] := List.getElem?_eq_getElem hlt
      have htk : cellsV (X.take (k + 1)) = cellsV (X.take k) ++ (X[k]).cells := by
        rw [List.take_add_one, hx]; exact cellsV_snoc _ _
      have HT := Lib.hid htk
      generalize X[k] = x at *
      obtain ⟨c0, c1⟩ := C'
      clear hr C hx htk
      have hji : (k : Int) < (X.length : Int) := by omega
      have hci : (X.length : Int) ≤ (c : Int) := by omega
      have O1 := ((O.out.alloc (.cells #[.int .u8 x.n, .int .u16 x.l] 67)).alloc (.cells #[.int .u8 x.n, .int .u16 x.l] 38)).alloc (.cells #[.int .u8 x.n, .int .u16 x.l] 38)
      have B1 := ((B.out.alloc B.out.size (.cells #[.int .u8 x.n, .int .u16 x.l] 67)).alloc (by have := B.out.size; simp; omega) (.cells #[.int .u8 x.n, .int .u16 x.l] 38)).alloc (by have := B.out.size; simp; omega) (.cells #[.int .u8 x.n, .int .u16 x.l] 38)
      have N1 := cells_new ((wr.alloc (.cells #[.int .u8 x.n, .int .u16 x.l] 67)).alloc (.cells #[.int .u8 x.n, .int .u16 x.l] 38)) #[.int .u8 x.n, .int .u16 x.l] 38
      have HO := Lib.hid O1
      have HB := Lib.hid B1
      have HN := Lib.hid N1
      have hlx : Hid (x.cells.length = 1 * 2) := Lib.hid rfl
      clear O1 B1 N1
      go_wp2_with (first
        | (go_at_call 63; refine (refPr _ _ _).mono ?_; rintro e w' ⟨rfl, rfl⟩)
        | (at_builtin
           refine wpList_append_own _ rfl (.tmp 11) (.tmp 17) 30 rfl w.heap.size 38 i0 _ 2 4 Try.underlying30 hi0 hz0 hz1 hz2 rfl (by decide) _ k _ rfl HO.out ⟨wr.heap.size + 1 + 1, 0, none⟩ 1 1 x.cells rfl rfl ?_ ?_ (by unfold maxLen; omega) (by omega) HB.out.size ?_
           · intro j u hj; have := HN.out j u hj; simpa using this
           · intro u hu; exact cellsV_one [x] u (by simpa [cellsV] using hu)
           intro v' w' hown' hgrow' hnil'
           have BB := Lib.hid (own_snoc HB.out HO.out hgrow')
           rw [← HT.out] at hown'
           have OO := Lib.hid hown'
           clear hown' hgrow' hnil'))
      go_roundw
      case rel => exact ⟨k + 1, by omega, by go_num, OO, BB⟩
      case measure => simp [intOf]; omega
    · have hkk : k = X.length := by omega
      subst hkk
      rw [List.take_length] at O
      go_wp2
      go_ret
      exact ⟨_, rfl, O.out, B.out⟩

end Go.Proofs.Ytmhgopaekpnhoaa.V
