/-
  maps.Values over the table's rows: each comes once, in some order; slices.AppendSeq, slices.Collect at rows. Condition: the map holds just these rows.
-/
import Derived.RangeFuncNested
import Derived.RangeFuncBound
import Derived.RangeFuncCalls
import Derived.RangeFuncLeaves
import Derived.Shelf.Abstract
import Derived.Shelf.RegionOpen
import Derived.Shelf.SlIter.Nil
import Derived.OwnWalkIn
import Derived.TacticsInMore
import Derived.LoopNIn
import Derived.LoopIn
import Derived.Shelf.SlIter.Keys
import Derived.RangeFuncGives
import Derived.Maps.AppendAt
import Derived.Shelf.SlIter.Collect
import Derived.Test.YtldbmmganicliaaAmk
namespace Go.Proofs.Ytldbmmganicliaa
set_option linter.unusedSimpArgs false
set_option linter.unusedVariables false
open Go.RowKit Go.Maps Go.Sort Go.Shelf
attribute [local go_sem] Oper.semAt_some

set_option maxHeartbeats 400000 in
theorem valuesOf (r : Option Nat) (w : World) : Calls Try.prog 50 #[.map r] w fun e w' => e = .returned (.func (.func 60) #[] #[.pointer (some ⟨w.heap.size, 0, none⟩)]) ∧ w.alloc (.cells #[.map r] 82) = w' := by
  go_enter Try.func50, Try.ntmps50
  go_wp2
  go_ret
  exact ⟨rfl, rfl⟩

/-- a row as a value. -/
def Rw.val' (x : Rw) : Value := .agg x.cs
/-- the rows that have come. -/
def CollW (L : List Rw) (left : Lit → Bool) (ss : List Rw) : Prop := ss.Nodup ∧ ∀ x, x ∈ ss ↔ (x ∈ L ∧ left x.key = false)
theorem CollW.start {D : DataW Unit} {L : List Rw} (h : MapG Rw.key Rw.dat D L) : CollW L (has D) [] :=
  ⟨List.nodup_nil, fun x => ⟨fun e => by simp at e, fun ⟨h1, h2⟩ => by rw [h.has_ x h1] at h2; cases h2⟩⟩
theorem CollW.step {D : DataW Unit} {L ss : List Rw} {left : Lit → Bool} (hm : MapG Rw.key Rw.dat D L) (h : CollW L left ss) {x : Rw} (hx : x ∈ L) (hk : WideAt.IsKeyLit x.key) (hl : left x.key = true) : CollW L (fun z => left z && !z.sameKey x.key) (ss ++ [x]) := by
  have hnew : x ∉ ss := fun hx => by have := ((h.2 x).1 hx).2; rw [hl] at this; cases this
  refine ⟨List.nodup_append.2 ⟨h.1, by simp, fun a ha b hb => by simp at hb; subst hb; exact fun e => hnew (e ▸ ha)⟩, fun y => ?_⟩
  by_cases hy : y = x
  · subst hy
    simp [hx, WideAt.sameKey_self hk]
  · by_cases hmy : y ∈ L
    · have hne : ¬ y.key = x.key := fun e => hy (hm.key_inj hmy hx e)
      have := h.2 y
      simp [this, hy, hmy, sameKey_ne hne]
    · have : y ∉ ss := fun e => hmy ((h.2 y).1 e).1
      simp [this, hy, hmy]
theorem nodup_of_apart {L : List Rw} (h : L.Pairwise fun x y => x.key ≠ y.key) : L.Nodup := h.imp fun hne e => hne (by rw [e])
theorem CollW.perm {L ss : List Rw} {left : Lit → Bool} (hn : L.Nodup) (h : CollW L left ss) (hl : ∀ kl, left kl = false) : ss.Perm L :=
  (List.perm_ext_iff_of_nodup h.1 hn).2 fun x => by rw [h.2 x, hl]; simp

set_option maxRecDepth 100000 in
set_option maxHeartbeats 1000000 in
theorem valuesIn (F : Fence) (n : Nat) (h10 : F.fn 60) (hro : F.round = none) (hn : 1 ≤ n) (l Bm b nn : Nat) (D0 : DataW Unit) (X : List Rw) (hX : MapG Rw.key Rw.dat D0 X) (hKL : ∀ x ∈ X, WideAt.IsKeyLit x.key) (J : List Rw → World → Prop)
    (hY : ∀ pre x W, x ∈ X → J pre W → pre.length < X.length → YieldAt F (n - 1) Try.prog l #[x.val'] W fun e W' => e = .returned (.bool true) ∧ J (pre ++ [x]) W' ∧ KeepsWalks W W')
    (W : World) (hJ : AbidesFrom W.heap.size J) (hm : W.cell? ⟨Bm, 0, none⟩ = some (.map (some b))) (hown : W.ownsMap Try.prog 37 rwElem b nn D0) (h0 : J [] W) :
    CallsIn F n Try.prog 60 #[.func (.yield l) #[] #[], .pointer (some ⟨Bm, 0, none⟩)] W fun e W' => (∃ v, e = .returned v) ∧ ∃ ss : List Rw, ss.Perm X ∧ J ss W' := by
  refine callsIn_of_wp Try.func60 rfl h10 ?_ hro
  simp only [Try.ntmps60, List.size_toArray, List.length_cons, List.length_nil, Nat.reduceAdd, Nat.reduceSub, Array.replicate_succ, Array.replicate_zero, List.push_toArray, List.append_toArray, List.nil_append, List.cons_append]
  gi_wp2_with (first
    | (gi_at_range; refine wpListIn_range_own _ rfl _ 82 rfl 37 88 idKeyed mapR _ b nn _ rfl hown ?_; intro w0 hrg0 hg0 hs0)
    | gi_in)
  go_frame
  gi_loopw [4] (fun _ wr => ∃ (left : Lit → Bool) (cnt : Nat) (ss : List Rw), wr.ranges Try.prog 37 rwElem b W.heap.size nn D0 left cnt ∧ ss.length + cnt ≤ Maps.size D0 ∧ CollW X left ss ∧ J ss wr)
    (fun _ wr => wr.rangeLeft b W.heap.size)
  case atStart =>
    exact ⟨_, _, [], hrg0, by simp, CollW.start hX, hJ [] W w0 none h0 hg0 (fun r e => by cases e)⟩
  case round =>
    obtain ⟨left, cnt, ss, hrg, hcs, hC, hJs⟩ := hrel
    gi_wp2_with (first
      | (gi_at_next; refine wpListIn_next_ranges (α := Value) _ rfl _ rfl 37 idKeyed rwElem id id (fun key kl hk => ⟨key, rfl⟩) (fun v _ _ => ⟨v, rfl⟩) b W.heap.size nn _ _ _ rfl hrg ?_ ?_)
      | gi_in)
    · intro hc0 hl0
      gi_wp2
      go_end0
      exact ⟨⟨_, rfl⟩, ss, hC.perm (nodup_of_apart hX.apart) hl0, hJs⟩
    · intro xv c kl yd yp w2 cnt2 hkey hlk hv hat hrg2 hlt hg2 hs2 hen
      obtain ⟨x, hx, rfl⟩ := hX.all kl (has_true_of_atKey hat)
      have hyd : yd = x.dat := (hat (.lit (.bool false))).symm.trans (hX.at_ x hx _)
      obtain ⟨y, rfl, hy2⟩ := rwElem_inv hv
      obtain rfl : x = y := rdat_inj (hyd.symm.trans (congrArg Prod.fst hy2))
      have hJ2 : J ss w2 := hJ ss wr w2 (some W.heap.size) hJs hg2 (fun r e => by cases e; exact ⟨Nat.le_refl _, hrg.iter_walk⟩)
      have hsz := hX.size
      have hJ5 := hJ ss w2 (w2.alloc (.cells x.cs 88)) none hJ2 (World.grownBy_alloc w2 _ none) (fun r e => by cases e)
      obtain ⟨fn, tmps, assign, body, hy, hR⟩ := hY ss x _ hx hJ5 (by omega)
      have hC2 := hC.step hX hx (hKL x hx) hlk
      clear hs2 hsz hat hkey hv hJ5 hyd hy2
      simp only [id_eq, Rw.val', Rw.cs] at hen hy hR ⊢
      gi_wp2
      refine hR.mono ?_
      rintro e W3 ⟨rfl, hJ3, hk3⟩
      have hrg3 := hrg2.of_walks ((KeepsWalks.alloc _ _).trans hk3)
      gi_wp2
      go_roundw
      case rel => exact ⟨_, cnt2, ss ++ [x], hrg3, by simp; omega, hC2, hJ3⟩
      case measure => rw [hrg3.left_eq, hrg.left_eq]; exact hlt

end Go.Proofs.Ytldbmmganicliaa
