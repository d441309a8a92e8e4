/-
  The wheel of the program in memory: its map has just the timers of a list, each at its own key. Condition: each number of a key fits its kind.
-/
import Derived.Test.YtfekkfphogjpeaaYky
import Derived.Test.YtfekkfphogjpeaaEfg
import Derived.WalkKit
import Derived.WalkSpells
import Derived.WalkLawsBesides
import Derived.Lib.Hide
import Derived.LoopN
import Derived.Handy
import Derived.Below
import Derived.Laws.OwnMore
import Derived.Maps.AppendAt
import Derived.Maps.Views
import Derived.StillTailTactics
import Derived.OwnWalk
import Derived.RangeFuncBox
import Derived.Lib.SliceRun
import Derived.IntWalk
import Derived.Deep.WholeRow
import Derived.Laws.Rows
import Derived.Laws.Tables
import Derived.Laws.CopyOwn
import Derived.Deep.RegionWith
import Derived.Deep.RegionHeld3
import Derived.BigRegion
import Derived.Deep.Draws
import Derived.RegionTactic
import Derived.Lib.QuietBelow
import Derived.BigQuiet
namespace Go.Proofs.Ytfekkfphogjpeaa
set_option linter.unusedSimpArgs false
set_option linter.unusedVariables false
open Go.RowKit Go.Maps Go.Sort

/-- how a time reads, as an element of a map. -/
def atDat (n : Int) : DataW Unit := .lit (.int .i64 n)
def atElem : Value → Option (DataW Unit × List MemPlace)
  | .int .i64 n => some (atDat n, [])
  | _ => none
theorem atElem_mk (n : Int) : atElem (.int .i64 n) = some (atDat n, []) := rfl
theorem atDat_inj {m n : Int} (h : atDat m = atDat n) : m = n := by
  unfold atDat at h
  injection h with h
  injection h
theorem atElem_inv {v : Value} {z : DataW Unit × List MemPlace} (h : atElem v = some z) : ∃ n : Int, v = .int .i64 n ∧ z = (atDat n, []) := by
  unfold atElem at h
  split at h
  · rename_i n
    exact ⟨n, rfl, by injection h with h; exact h.symm⟩
  · cases h
theorem cs_inj {x y : K13} (h : x.cs = y.cs) : x = y := by
  obtain ⟨k, pn, pl, ⟨n, l, s, d, a0, a1, b0, b1, c0, c1⟩⟩ := x
  obtain ⟨k', pn', pl', ⟨n', l', s', d', x0, x1, y0, y1, z0, z1⟩⟩ := y
  simp [K13.cs] at h
  simp [h]
theorem keyCs {x : K13} (h : x.Rng) : keyOf Try.prog 50 (.agg x.cs) = some x.lit := kKey x h
theorem lit_inj {x y : K13} (hx : x.Rng) (hy : y.Rng) (h : x.lit = y.lit) : x = y := by
  have e := kKeyed.inj (keyCs hx) (h ▸ keyCs hy)
  injection e with e
  exact cs_inj e

/-- the map holds just these timers, each at its own key. -/
structure MapT (D : DataW Unit) (T : List Tm) : Prop where
  apart : T.Pairwise fun x y => x.k ≠ y.k
  rng : ∀ x ∈ T, x.k.Rng
  all : ∀ kl, has D kl = true → ∃ x ∈ T, kl = x.k.lit
  has_ : ∀ x ∈ T, has D x.k.lit = true
  at_ : ∀ x ∈ T, ∀ z, D.atKey x.k.lit z = atDat x.at_
  size : Maps.size D = T.length
theorem MapT.perm {D : DataW Unit} {T T' : List Tm} (h : MapT D T) (hp : T'.Perm T) : MapT D T' :=
  ⟨hp.symm.pairwise h.apart (fun {_ _} hne e => hne e.symm), fun x hx => h.rng x (hp.mem_iff.1 hx), fun kl hk => by
    obtain ⟨x, hx, e⟩ := h.all kl hk
    exact ⟨x, hp.mem_iff.2 hx, e⟩, fun x hx => h.has_ x (hp.mem_iff.1 hx), fun x hx => h.at_ x (hp.mem_iff.1 hx), by rw [h.size, hp.length_eq]⟩
theorem MapT.nil : MapT (.map []) [] := ⟨List.Pairwise.nil, (fun _ h => by cases h), (fun kl h => by cases h), (fun _ h => by cases h), (fun _ h => by cases h), rfl⟩
/-- all but the one at a key. -/
def outK (T : List Tm) (k : K13) : List Tm := T.filter fun y => decide (y.k ≠ k)
theorem mem_outK {T : List Tm} {k : K13} {y : Tm} : y ∈ outK T k ↔ y ∈ T ∧ y.k ≠ k := by simp [outK]
theorem pw_key {x y : Tm} : ∀ {T : List Tm}, (T.Pairwise fun x y => x.k ≠ y.k) → x ∈ T → y ∈ T → x.k = y.k → x = y
  | [], _, hx, _, _ => by cases hx
  | a :: T, h, hx, hy, e => by
    obtain ⟨h1, h2⟩ := List.pairwise_cons.1 h
    rcases List.mem_cons.1 hx with rfl | hx
    · rcases List.mem_cons.1 hy with rfl | hy
      · rfl
      · exact absurd e (h1 y hy)
    · rcases List.mem_cons.1 hy with e2 | hy
      · exact absurd (e2 ▸ e).symm (h1 x hx)
      · exact pw_key h2 hx hy e
theorem outK_none {T : List Tm} {k : K13} (h : ∀ y ∈ T, y.k ≠ k) : outK T k = T := by
  unfold outK
  exact List.filter_eq_self.2 fun y hy => by simpa using h y hy
theorem outK_len {T : List Tm} (h : T.Pairwise fun x y => x.k ≠ y.k) {x : Tm} (hx : x ∈ T) : (outK T x.k).length + 1 = T.length := by
  induction T with
  | nil => cases hx
  | cons a T ih =>
    obtain ⟨h1, h2⟩ := List.pairwise_cons.1 h
    rcases List.mem_cons.1 hx with rfl | hx
    · have e : outK (x :: T) x.k = T := by
        unfold outK
        rw [List.filter_cons]
        simp
        intro y hy e
        exact h1 y hy e.symm
      rw [e]
      simp
    · have hne := h1 x hx
      have e : outK (a :: T) x.k = a :: outK T x.k := by
        unfold outK
        rw [List.filter_cons]
        simp [hne]
      rw [e, List.length_cons, List.length_cons, ih h2 hx]
theorem MapT.hasnt {D : DataW Unit} {T : List Tm} (h : MapT D T) {k : K13} (rk : k.Rng) (hn : ∀ y ∈ T, y.k ≠ k) : has D k.lit = false := by
  cases hh : has D k.lit with
  | false => rfl
  | true =>
    obtain ⟨y, hy, e⟩ := h.all _ hh
    exact absurd (lit_inj rk (h.rng y hy) e).symm (hn y hy)
theorem MapT.del {D : DataW Unit} {T : List Tm} (h : MapT D T) (hT : Tidy D) {k : K13} (rk : k.Rng) : MapT (D.del k.lit) (outK T k) := by
  refine ⟨h.apart.filter _, fun x hx => h.rng x (mem_outK.1 hx).1, fun kl hk => ?_, fun y hy => ?_, fun y hy z => ?_, ?_⟩
  · by_cases e : kl = k.lit
    · rw [e, has_del_same] at hk
      cases hk
    · rw [has_del_other e] at hk
      obtain ⟨y, hy, ey⟩ := h.all kl hk
      exact ⟨y, mem_outK.2 ⟨hy, fun e' => e (by rw [ey]; rw [e'])⟩, ey⟩
  · obtain ⟨hy, hne⟩ := mem_outK.1 hy
    rw [has_del_other fun e => hne (lit_inj (h.rng y hy) rk e)]
    exact h.has_ y hy
  · obtain ⟨hy, hne⟩ := mem_outK.1 hy
    rw [atKey_del_other fun e => hne (lit_inj (h.rng y hy) rk e)]
    exact h.at_ y hy z
  · have hs := size_del (k := k.lit) hT
    by_cases hx : ∃ x ∈ T, x.k = k
    · obtain ⟨x, hx, rfl⟩ := hx
      have e : has D x.k.lit = true := h.has_ x hx
      rw [e, h.size] at hs
      have := outK_len h.apart hx
      simp at hs
      omega
    · have hn : ∀ y ∈ T, y.k ≠ k := fun y hy e => hx ⟨y, hy, e⟩
      rw [h.hasnt rk hn, h.size] at hs
      rw [outK_none hn]
      simpa using hs
theorem MapT.put {D : DataW Unit} {T : List Tm} (h : MapT D T) (hT : Tidy D) (hI : IsMap D) (x : Tm) (rx : x.k.Rng) : MapT (D.put x.k.lit (atDat x.at_)) (x :: outK T x.k) := by
  have hkey := kKeyed.key (keyCs rx)
  refine ⟨List.pairwise_cons.2 ⟨fun y hy e => (mem_outK.1 hy).2 e.symm, h.apart.filter _⟩, fun y hy => ?_, fun kl hkl => ?_, fun y hy => ?_, fun y hy z => ?_, ?_⟩
  · rcases List.mem_cons.1 hy with rfl | hm
    · exact rx
    · exact h.rng y (mem_outK.1 hm).1
  · by_cases e : kl = x.k.lit
    · exact ⟨x, List.mem_cons_self .., e⟩
    · rw [has_put_other e] at hkl
      obtain ⟨y, hy, ey⟩ := h.all kl hkl
      exact ⟨y, List.mem_cons_of_mem _ (mem_outK.2 ⟨hy, fun e' => e (by rw [ey]; rw [e'])⟩), ey⟩
  · rcases List.mem_cons.1 hy with rfl | hm
    · exact has_put_same hI hkey _
    · obtain ⟨hm, hne⟩ := mem_outK.1 hm
      rw [has_put_other fun e => hne (lit_inj (h.rng y hm) rx e)]
      exact h.has_ y hm
  · rcases List.mem_cons.1 hy with rfl | hm
    · exact atKey_put_same hI hkey _ _
    · obtain ⟨hm, hne⟩ := mem_outK.1 hm
      rw [atKey_put_other fun e => hne (lit_inj (h.rng y hm) rx e)]
      exact h.at_ y hm z
  · rw [size_put hT, h.size, List.length_cons]
    by_cases hx : ∃ y ∈ T, y.k = x.k
    · obtain ⟨y, hy, e⟩ := hx
      have e1 : has D x.k.lit = true := by
        have := h.has_ y hy
        rwa [show y.k.lit = x.k.lit by rw [e]] at this
      have := outK_len h.apart hy
      rw [e] at this
      rw [if_pos e1]
      omega
    · have hn : ∀ y ∈ T, y.k ≠ x.k := fun y hy e => hx ⟨y, hy, e⟩
      have e1 : has D x.k.lit = false := h.hasnt rx hn
      rw [outK_none hn, e1]
      rfl

theorem cell_of {W : World} {b : Nat} {cs : Array Value} {t : TypeId} (h : W.heap[b]? = some (.cells cs t (0, 0))) (i : Nat) (v : Value) (hv : cs[i]? = some v) : W.cell? ⟨b, i, none⟩ = some v :=
  (cell_of_row _ _ i _ _ _ h).trans hv
theorem grown_of_below {W W' : World} (hb : Below W.heap.size W W') (row : Option Nat) : W.grownBy W' row := ⟨hb.os, hb.tape, hb.output, hb.size, fun k hk _ => hb.block k hk⟩
theorem grown_of_turn {W0 W W' : World} {b : Nat} (hb : Below W0.heap.size W0 W) (ht : W.mapTurned W' b) : W0.grownBy W' (some b) := (grown_of_below hb _).trans ht.grown

/-- the wheel of the program: block b; its map: block m; c bounds what was ever set. -/
structure PW (W : World) (b m c most : Nat) (T : List Tm) : Prop where
  whl : W.heap[b]? = some (.cells #[.int .i64 most, .map (some m)] 74 (0, 0))
  map : ∃ (nn : Nat) (D : DataW Unit), nn ≤ c ∧ W.ownsMap Try.prog 50 atElem m nn D ∧ MapT D T
  most : most ≤ 512
theorem PW.bl {W : World} {b m c most : Nat} {T : List Tm} (h : PW W b m c most T) : b < W.heap.size := (Array.getElem?_eq_some_iff.1 h.whl).1
theorem PW.ml {W : World} {b m c most : Nat} {T : List Tm} (h : PW W b m c most T) : m < W.heap.size := by
  obtain ⟨nn, D, _, O, _⟩ := h.map
  exact O.lt
theorem PW.ne {W : World} {b m c most : Nat} {T : List Tm} (h : PW W b m c most T) : b ≠ m := by
  obtain ⟨nn, D, _, ⟨es, cl, hm, _⟩, _⟩ := h.map
  rintro rfl
  rw [h.whl] at hm
  cases hm
theorem PW.grown {W W' : World} {b m c most : Nat} {T : List Tm} {row : Option Nat} (h : PW W b m c most T) (hg : W.grownBy W' row) (h1 : some b ≠ row) (h2 : some m ≠ row) : PW W' b m c most T := by
  obtain ⟨nn, D, hk, O, K⟩ := h.map
  exact ⟨(hg.block b h.bl h1).trans h.whl, ⟨nn, D, hk, O.kept hg h2, K⟩, h.most⟩
theorem PW.below {W W' : World} {b m c most : Nat} {T : List Tm} (h : PW W b m c most T) (hb : Below W.heap.size W W') : PW W' b m c most T := h.grown (grown_of_below hb none) (by simp) (by simp)
theorem PW.perm {W : World} {b m c most : Nat} {T T' : List Tm} (h : PW W b m c most T) (hp : T'.Perm T) : PW W b m c most T' := by
  obtain ⟨nn, D, hk, O, K⟩ := h.map
  exact ⟨h.whl, ⟨nn, D, hk, O, K.perm hp⟩, h.most⟩
theorem PW.mono {W : World} {b m c c' most : Nat} {T : List Tm} (h : PW W b m c most T) (hc : c ≤ c') : PW W b m c' most T := by
  obtain ⟨nn, D, hk, O, K⟩ := h.map
  exact ⟨h.whl, ⟨nn, D, Nat.le_trans hk hc, O, K⟩, h.most⟩
theorem PW.apart {W : World} {b m c most : Nat} {T : List Tm} (h : PW W b m c most T) : T.Pairwise fun x y => x.k ≠ y.k := by
  obtain ⟨nn, D, hk, O, K⟩ := h.map
  exact K.apart
theorem PW.rng {W : World} {b m c most : Nat} {T : List Tm} (h : PW W b m c most T) : ∀ x ∈ T, x.k.Rng := by
  obtain ⟨nn, D, hk, O, K⟩ := h.map
  exact K.rng

/-- what is at a key. -/
def fAt (T : List Tm) (k : K13) : Int × Bool := match T.find? fun y => decide (y.k = k) with
  | some t => (t.at_, true)
  | none => (0, false)
theorem fAt_yes {T : List Tm} (h : T.Pairwise fun x y => x.k ≠ y.k) {x : Tm} (hx : x ∈ T) : fAt T x.k = (x.at_, true) := by
  unfold fAt
  cases hf : T.find? (fun y => decide (y.k = x.k)) with
  | none =>
    have := List.find?_eq_none.1 hf x hx
    simp at this
  | some y =>
    have h1 := List.find?_some hf
    have h2 := List.mem_of_find?_eq_some hf
    simp at h1
    obtain rfl := pw_key h h2 hx h1
    rfl
theorem fAt_no {T : List Tm} {k : K13} (h : ∀ y ∈ T, y.k ≠ k) : fAt T k = (0, false) := by
  unfold fAt
  rw [List.find?_eq_none.2 fun y hy => by simpa using h y hy]

end Go.Proofs.Ytfekkfphogjpeaa
