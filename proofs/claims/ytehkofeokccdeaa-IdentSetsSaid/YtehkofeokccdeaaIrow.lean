/-
  Lists of identifiers in memory: what they hold, what is kept of them; the law's RefIDs, by a contract. Condition: the list takes at most 2^47 bytes.
-/
import Derived.Test.YtehkofeokccdeaaConv
import Derived.Test.YtehkofeokccdeaaStp
import Derived.Below
import Derived.Laws.OwnMore
import Derived.Deep.AppendLies
import Derived.Deep.Draws
import Derived.Maps.AppendAt
import Derived.RegionTactic
import Derived.OwnWalk
namespace Go.Proofs.Ytehkofeokccdeaa
set_option linter.unusedSimpArgs false
set_option linter.unusedVariables false
open Go.RowKit

instance : Inhabited I10 := ⟨⟨0, 0, 0, 0, 0, 0, 0, 0, 0, 0⟩⟩
/-- its cells. -/
def I10.cells (x : I10) : List Value := [.int .u8 x.n, .int .u16 x.l, .int .u32 x.s, .int .u8 x.d, .int .u8 x.a0, .int .u8 x.a1, .int .u8 x.b0, .int .u8 x.b1, .int .u8 x.c0, .int .u8 x.c1]
/-- an identifier in memory. -/
structure IdAt (W : World) (b o : Nat) (x : I10) : Prop where
  c0 : W.cell? ⟨b, o, none⟩ = some (.int .u8 x.n)
  c1 : W.cell? ⟨b, o + 1, none⟩ = some (.int .u16 x.l)
  c2 : W.cell? ⟨b, o + 2, none⟩ = some (.int .u32 x.s)
  c3 : W.cell? ⟨b, o + 3, none⟩ = some (.int .u8 x.d)
  c4 : W.cell? ⟨b, o + 4, none⟩ = some (.int .u8 x.a0)
  c5 : W.cell? ⟨b, o + 5, none⟩ = some (.int .u8 x.a1)
  c6 : W.cell? ⟨b, o + 6, none⟩ = some (.int .u8 x.b0)
  c7 : W.cell? ⟨b, o + 7, none⟩ = some (.int .u8 x.b1)
  c8 : W.cell? ⟨b, o + 8, none⟩ = some (.int .u8 x.c0)
  c9 : W.cell? ⟨b, o + 9, none⟩ = some (.int .u8 x.c1)
theorem IdAt.keep {W W' : World} {b o : Nat} {x : I10} (h : IdAt W b o x) (hk : ∀ i, W'.cell? ⟨b, i, none⟩ = W.cell? ⟨b, i, none⟩) : IdAt W' b o x :=
  ⟨(hk _).trans h.c0, (hk _).trans h.c1, (hk _).trans h.c2, (hk _).trans h.c3, (hk _).trans h.c4, (hk _).trans h.c5, (hk _).trans h.c6, (hk _).trans h.c7, (hk _).trans h.c8, (hk _).trans h.c9⟩
theorem IdAt.below {W W' : World} {b o B : Nat} {x : I10} (h : IdAt W b o x) (hb : Below B W W') (hl : b < B) : IdAt W' b o x :=
  h.keep fun i => hb.cell (p := ⟨b, i, none⟩) hl

/-- a list of identifiers in memory, behind a slice's address. -/
def RowsI (W : World) (B : Nat) (A : Option Addr) (X : List I10) : Prop :=
  X ≠ [] → ∃ b o, A = some ⟨b, o, none⟩ ∧ b < B ∧ ∀ i x, X[i]? = some x → IdAt W b (o + i * 10) x
theorem RowsI.keep {W W' : World} {B B' : Nat} {A : Option Addr} {X : List I10} (h : RowsI W B A X) (hB : B ≤ B') (hk : ∀ b i, b < B → W'.cell? ⟨b, i, none⟩ = W.cell? ⟨b, i, none⟩) : RowsI W' B' A X := fun hx => by
  obtain ⟨b, o, e, hb, hc⟩ := h hx
  exact ⟨b, o, e, Nat.lt_of_lt_of_le hb hB, fun i x hi => (hc i x hi).keep fun j => hk b j hb⟩
theorem RowsI.below {W W' : World} {B B' C : Nat} {A : Option Addr} {X : List I10} (h : RowsI W B A X) (hb : Below C W W') (hC : B ≤ C) (hB : B ≤ B') : RowsI W' B' A X :=
  h.keep hB fun b i hl => hb.cell (p := ⟨b, i, none⟩) (by simp; omega)
theorem RowsI.at_ {W : World} {B : Nat} {A : Option Addr} {X : List I10} (h : RowsI W B A X) {k : Nat} (hk : k < X.length) : ∃ b o, A = some ⟨b, o, none⟩ ∧ b < B ∧ IdAt W b (o + k * 10) X[k] := by
  obtain ⟨b, o, e, hb, hc⟩ := h (fun e => by rw [e] at hk; simp at hk)
  exact ⟨b, o, e, hb, hc k _ (List.getElem?_eq_getElem hk)⟩
/-- the cells of a list. -/
def cellsI (X : List I10) : List Value := X.flatMap I10.cells
theorem cellsI_length (X : List I10) : (cellsI X).length = X.length * 10 := by
  induction X with
  | nil => rfl
  | cons x X ih =>
    show (I10.cells x ++ cellsI X).length = _
    rw [List.length_append, ih]
    simp [I10.cells]
    omega
theorem cellsI_at (X : List I10) : ∀ (i : Nat) (x : I10), X[i]? = some x → ∀ j, j < 10 → (cellsI X)[i * 10 + j]? = x.cells[j]? := by
  induction X with
  | nil => intro i x h; simp at h
  | cons y X ih =>
    intro i x h j hj
    show (I10.cells y ++ cellsI X)[i * 10 + j]? = _
    cases i with
    | zero =>
      simp at h
      subst h
      rw [Nat.zero_mul, Nat.zero_add, List.getElem?_append_left (by simp [I10.cells]; omega)]
    | succ i =>
      simp at h
      rw [List.getElem?_append_right (by simp [I10.cells]; omega)]
      have := ih i x h j hj
      rw [← this]
      congr 1
      simp [I10.cells]
      omega
theorem cellsI_snoc (X : List I10) (x : I10) : cellsI (X ++ [x]) = cellsI X ++ x.cells := by simp [cellsI]
theorem cellsI_one (X : List I10) : ∀ u ∈ cellsI X, u.oneCell' = true := by
  intro u hu
  simp only [cellsI, List.mem_flatMap] at hu
  obtain ⟨x, _, h⟩ := hu
  simp only [I10.cells, List.mem_cons, List.not_mem_nil, or_false] at h
  rcases h with rfl | rfl | rfl | rfl | rfl | rfl | rfl | rfl | rfl | rfl <;> rfl
theorem rowsI_of_cells {W : World} {b o B : Nat} {X : List I10} (hb : b < B) (h : ∀ j u, (cellsI X)[j]? = some u → W.cell? ⟨b, o + j, none⟩ = some u) : RowsI W B (some ⟨b, o, none⟩) X := fun _ =>
  ⟨b, o, rfl, hb, fun i x hi => by
    have e := cellsI_at X i x hi
    exact ⟨h _ _ ((e 0 (by omega)).trans rfl), h _ _ ((e 1 (by omega)).trans rfl), h _ _ ((e 2 (by omega)).trans rfl), h _ _ ((e 3 (by omega)).trans rfl), h _ _ ((e 4 (by omega)).trans rfl), h _ _ ((e 5 (by omega)).trans rfl), h _ _ ((e 6 (by omega)).trans rfl), h _ _ ((e 7 (by omega)).trans rfl), h _ _ ((e 8 (by omega)).trans rfl), h _ _ ((e 9 (by omega)).trans rfl)⟩⟩
/-- a row of the call's own is a list in memory. -/
theorem rowsI_of_own {W : World} {base : Nat} {e : TypeId} {v : Value} {X : List I10} (h : W.ownsRow base e 10 v X.length (cellsI X)) :
    ∃ A c, v = .slice A X.length c ∧ RowsI W W.heap.size A X ∧ X.length ≤ c ∧ c ≤ maxLen := by
  rcases h.2 with ⟨rfl, hn⟩ | ⟨g, cap, cur, rfl, hb, hg, hnc, hcm, hcs, ht⟩
  · have : X = [] := List.eq_nil_of_length_eq_zero hn
    subst this
    exact ⟨none, 0, rfl, fun hx => absurd rfl hx, Nat.le_refl _, by unfold maxLen; omega⟩
  · refine ⟨_, cap, rfl, rowsI_of_cells (h.lt g rfl).2 fun j u hu => ?_, hnc, hcm⟩
    have := h.cells (g := g) rfl j u hu
    rw [Nat.zero_add]
    by_cases hj : j = 0
    · subst hj; exact this
    · simpa [Addr.add, hj] using this
theorem cells_newI (W : World) (cs : Array Value) (t : TypeId) : ∀ j u, cs.toList[j]? = some u → (W.alloc (.cells cs t)).cell? ((⟨W.heap.size, 0, none⟩ : Addr).add j) = some u := by
  intro j u hj
  have h := cell_of_row (W.alloc (.cells cs t)) W.heap.size j cs t (0, 0) (heap_alloc_new W _)
  have e : (⟨W.heap.size, 0, none⟩ : Addr).add j = ⟨W.heap.size, j, none⟩ := by
    unfold Addr.add
    by_cases h0 : j = 0 <;> simp [h0]
  rw [e, h]
  simpa using hj
theorem own_belowI {W W' : World} {base size n : Nat} {e : TypeId} {v : Value} {xs : List Value} (O : W.ownsRow base e size v n xs) (hb : Below W.heap.size W W') : W'.ownsRow base e size v n xs :=
  O.kept (row := none) ⟨hb.os, hb.tape, hb.output, hb.size, fun k hk _ => hb.block k hk⟩ (by
    cases h : v.ownBlock with
    | none => exact .inl rfl
    | some j => exact .inr (by simp))
theorem own_snocI {w W W' : World} {e : TypeId} {v : Value} {k size : Nat} {X : List Value} (B : Below w.heap.size w W) (O : W.ownsRow w.heap.size e size v k X) (hg : W.grownBy W' v.ownBlock) : Below w.heap.size w W' :=
  B.grown hg B.size fun j hj => (O.lt j hj).1
theorem refid_info : (Try.prog.info? 38).map (fun i => (i.zero, i.size, i.bytes)) = some (some (.agg #[.int .u8 0, .int .u16 0, .int .u32 0, .int .u8 0, .int .u8 0, .int .u8 0, .int .u8 0, .int .u8 0, .int .u8 0, .int .u8 0]), 10, 16) := by kernel_rfl

set_option maxRecDepth 100000 in
set_option maxHeartbeats 2000000 in
theorem refIDs (A : Option Addr) (X : List I10) (c : Nat) (w : World) (hr : RowsI w w.heap.size A X) (hX : X.length * 16 ≤ 140737488355328) (hc : X.length ≤ c) (hm : c ≤ maxLen) :
    Calls Try.prog 15 #[.slice A X.length c] w fun e w' => ∃ v, e = .returned v ∧ w'.ownsRow w.heap.size 38 10 v X.length (cellsI X) ∧ Below w.heap.size w w' := by
  obtain ⟨i0, hi0, hz0, hz1, hz2⟩ := info_parts refid_info
  unfold maxLen at hm
  go_enter Try.func15, Try.ntmps15
  go_wp2
  go_loopw [3, 4] (fun v i wx => ∃ k : Nat, k ≤ X.length ∧ i = .int .i64 k ∧ Hid (wx.ownsRow w.heap.size 38 10 v k (cellsI (X.take k))) ∧ Hid (Below w.heap.size w wx)) (fun _ i _ => X.length - (intOf i).toNat)
  case atStart => exact ⟨0, by omega, rfl, Lib.hid ⟨rfl, .inl ⟨rfl, rfl⟩⟩, Lib.hid (Below.refl _ _)⟩
  case round =>
    obtain ⟨k, hk, rfl, O, B⟩ := hrel
    by_cases hlt : k < X.length
    · obtain ⟨b, o, rfl, hb, C⟩ := hr.at_ hlt
      have C' := C.below B.out hb
      have hx : X[k]? = some X[k] := List.getElem?_eq_getElem hlt
      have htk : cellsI (X.take (k + 1)) = cellsI (X.take k) ++ (X[k]).cells := by
        rw [List.take_add_one, hx]; exact cellsI_snoc _ _
      have HT := Lib.hid htk
      generalize X[k] = x at *
      obtain ⟨c0, c1, c2, c3, c4, c5, c6, c7, c8, c9⟩ := C'
      have CR := Lib.hid (fun W => refID x.n x.l x.s x.d x.a0 x.a1 x.b0 x.b1 x.c0 x.c1 W)
      clear hr C hx htk
      have hji : (k : Int) < (X.length : Int) := by omega
      have hci : (X.length : Int) ≤ (c : Int) := by omega
      have hlx : Hid (x.cells.length = 1 * 10) := Lib.hid rfl
      have hbs := B.out.size
      go_wp2_with (first
        | (go_at_call 25; refine (CR.out _).mono ?_; rintro e w1 ⟨rfl, b1⟩
           have O1 := Lib.hid (own_belowI O.out b1)
           have B1 := Lib.hid (B.out.trans (b1.mono hbs))
           have hs1 := b1.size
           clear b1 c0 c1 c2 c3 c4 c5 c6 c7 c8 c9)
        | (at_builtin
           refine wpList_append_own _ rfl (.tmp 11) (.tmp 17) 27 rfl w.heap.size 38 i0 _ 10 16 Try.underlying27 hi0 hz0 hz1 hz2 rfl (by decide) _ k _ rfl (O1.out.alloc _) ⟨w1.heap.size, 0, none⟩ 1 1 x.cells rfl rfl ?_ ?_ (by unfold maxLen; omega) (by omega) (by simp; omega) ?_
           · exact cells_newI w1 #[.int .u8 x.n, .int .u16 x.l, .int .u32 x.s, .int .u8 x.d, .int .u8 x.a0, .int .u8 x.a1, .int .u8 x.b0, .int .u8 x.b1, .int .u8 x.c0, .int .u8 x.c1] 38
           · intro u hu; exact cellsI_one [x] u (by simpa [cellsI] using hu)
           intro v' w' hown' hgrow' hnil'
           have BB := Lib.hid (own_snocI (B1.out.alloc (by omega) _) (O1.out.alloc _) hgrow')
           rw [← HT.out] at hown'
           have OO := Lib.hid hown'
           clear hown' hgrow' hnil'))
      go_roundw
      case rel => exact ⟨k + 1, by omega, by go_num, OO, BB⟩
      case measure => simp [intOf]; omega
    · have hkk : k = X.length := by omega
      subst hkk
      rw [List.take_length] at O
      go_wp2
      go_ret
      exact ⟨_, rfl, O.out, B.out⟩

end Go.Proofs.Ytehkofeokccdeaa
