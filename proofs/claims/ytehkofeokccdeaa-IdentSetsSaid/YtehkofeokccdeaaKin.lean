/-
  maps.Keys over a map whose keys are identifiers: each key comes once, in some order. Condition: the map's keys are just the identifiers of a list without doubles.
-/
import Derived.Shelf.SlIter.Keys
import Derived.RangeFuncGives
import Derived.Maps.AppendAt
import Derived.Test.YtehkofeokccdeaaSeq
import Derived.Test.YtehkofeokccdeaaSet
import Derived.Test.YtehkofeokccdeaaIrow
namespace Go.Proofs.Ytehkofeokccdeaa
set_option linter.unusedSimpArgs false
set_option linter.unusedVariables false
open Go.RowKit Go.Maps Go.Sort Go.Shelf

/-- an identifier as a value. -/
def I10.val (x : I10) : Value := .agg x.cells.toArray
theorem val_inj {x y : I10} (h : x.val = y.val) : x = y := by
  obtain ⟨n, l, s, d, a0, a1, b0, b1, c0, c1⟩ := x
  obtain ⟨n', l', s', d', x0, x1, y0, y1, z0, z1⟩ := y
  simp [I10.val, I10.cells] at h
  simp [h]
theorem keyVal {x : I10} (h : x.Rng) : keyOf Try.prog 48 x.val = some x.lit := idKey x h
theorem lit_inj {x y : I10} (hx : x.Rng) (hy : y.Rng) (h : x.lit = y.lit) : x = y :=
  val_inj (idKeyed.inj (keyVal hx) (h ▸ keyVal hy))

/-- the keys of the map are just the identifiers of the list. -/
structure KeysX {H : Type} (D : DataW H) (X : List I10) : Prop where
  nodup : X.Nodup
  rng : ∀ x ∈ X, x.Rng
  all : ∀ kl, has D kl = true → ∃ x ∈ X, kl = x.lit
  has_ : ∀ x ∈ X, has D x.lit = true
  size : Maps.size D = X.length

/-- the keys that have come. -/
def CollX (X : List I10) (left : Lit → Bool) (ss : List I10) : Prop := ss.Nodup ∧ ∀ x, x ∈ ss ↔ (x ∈ X ∧ left x.lit = false)

theorem CollX.start {H : Type} {D : DataW H} {X : List I10} (h : KeysX D X) : CollX X (has D) [] :=
  ⟨List.nodup_nil, fun x => ⟨fun e => by simp at e, fun ⟨h1, h2⟩ => by rw [h.has_ x h1] at h2; cases h2⟩⟩

theorem CollX.step {X ss : List I10} {left : Lit → Bool} (hr : ∀ x ∈ X, x.Rng) (h : CollX X left ss) {x : I10} (hx : x ∈ X) (hl : left x.lit = true) : CollX X (fun z => left z && !z.sameKey x.lit) (ss ++ [x]) := by
  have hnew : x ∉ ss := fun hx => by have := ((h.2 x).1 hx).2; rw [hl] at this; cases this
  refine ⟨List.nodup_append.2 ⟨h.1, by simp, fun a ha b hb => by simp at hb; subst hb; exact fun e => hnew (e ▸ ha)⟩, fun y => ?_⟩
  by_cases hy : y = x
  · subst hy
    simp [hx, Lit.sameKey, I10.lit]
  · by_cases hm : y ∈ X
    · have hne : ¬ keyBytes y.lits = keyBytes x.lits := fun e => hy (lit_inj (hr y hm) (hr x hx) (by unfold I10.lit; rw [e]))
      have := h.2 y
      simp [this, hy, hm, Lit.sameKey, I10.lit, hne]
    · have : y ∉ ss := fun e => hm ((h.2 y).1 e).1
      simp [this, hy, hm]

theorem CollX.perm {X ss : List I10} {left : Lit → Bool} (hn : X.Nodup) (h : CollX X left ss) (hl : ∀ kl, left kl = false) : ss.Perm X :=
  (List.perm_ext_iff_of_nodup h.1 hn).2 fun x => by rw [h.2 x, hl]; simp

set_option maxRecDepth 100000 in
set_option maxHeartbeats 1000000 in
theorem keysIn {H : Type} (F : Fence) (n : Nat) (h10 : F.fn 39) (hro : F.round = none) (hn : 1 ≤ n) (l Bm b nn : Nat) (D0 : DataW H) (X : List I10) (hX : KeysX D0 X) {R : Value → Option (DataW H × List MemPlace)} (J : List I10 → World → Prop)
    (hY : ∀ pre x W, x ∈ X → J pre W → pre.length < X.length → YieldAt F (n - 1) Try.prog l #[x.val] W fun e W' => e = .returned (.bool true) ∧ J (pre ++ [x]) W' ∧ KeepsWalks W W')
    (W : World) (hJ : AbidesFrom W.heap.size J) (hm : W.cell? ⟨Bm, 0, none⟩ = some (.map (some b))) (hown : W.ownsMap Try.prog 48 R b nn D0) (h0 : J [] W) :
    CallsIn F n Try.prog 39 #[.func (.yield l) #[] #[], .pointer (some ⟨Bm, 0, none⟩)] W fun e W' => (∃ v, e = .returned v) ∧ ∃ ss : List I10, ss.Perm X ∧ J ss W' := by
  refine callsIn_of_wp Try.func39 rfl h10 ?_ hro
  simp only [Try.ntmps39, List.size_toArray, List.length_cons, List.length_nil, Nat.reduceAdd, Nat.reduceSub, Array.replicate_succ, Array.replicate_zero, List.push_toArray, List.append_toArray, List.nil_append, List.cons_append]
  gi_wp2_with (first
    | (gi_at_range; refine wpListIn_range_own _ rfl _ 66 rfl 48 69 idKeyed Try.underlying66 _ b nn _ rfl hown ?_; intro w0 hrg0 hg0 hs0)
    | gi_in)
  go_frame
  gi_loopw [3] (fun _ wr => ∃ (left : Lit → Bool) (cnt : Nat) (ss : List I10), wr.ranges Try.prog 48 R b W.heap.size nn D0 left cnt ∧ ss.length + cnt ≤ Maps.size D0 ∧ CollX X left ss ∧ J ss wr)
    (fun _ wr => wr.rangeLeft b W.heap.size)
  case atStart =>
    exact ⟨_, _, [], hrg0, by simp, CollX.start hX, hJ [] W w0 none h0 hg0 (fun r e => by cases e)⟩
  case round =>
    obtain ⟨left, cnt, ss, hrg, hcs, hC, hJs⟩ := hrel
    gi_wp2_with (first
      | (gi_at_next; refine wpListIn_next_ranges (α := Value) _ rfl _ rfl 48 idKeyed R id id (fun key kl hk => ⟨key, rfl⟩) (fun v _ _ => ⟨v, rfl⟩) b W.heap.size nn _ _ _ rfl hrg ?_ ?_)
      | gi_in)
    · intro hc0 hl0
      gi_wp2
      go_end0
      exact ⟨⟨_, rfl⟩, ss, hC.perm hX.nodup hl0, hJs⟩
    · intro xv c kl yd yp w2 cnt2 hkey hlk hv hat hrg2 hlt hg2 hs2 hen
      obtain ⟨x, hx, rfl⟩ := hX.all kl (has_true_of_atKey hat)
      obtain rfl : xv = x.val := idKeyed.inj hkey (keyVal (hX.rng x hx))
      have hJ2 : J ss w2 := hJ ss wr w2 (some W.heap.size) hJs hg2 (fun r e => by cases e; exact ⟨Nat.le_refl _, hrg.iter_walk⟩)
      have hsz := hX.size
      have hJ5 := hJ ss w2 (w2.alloc (.cells x.cells.toArray 48)) none hJ2 (World.grownBy_alloc w2 _ none) (fun r e => by cases e)
      obtain ⟨fn, tmps, assign, body, hy, hR⟩ := hY ss x _ hx hJ5 (by omega)
      have hC2 := hC.step hX.rng hx hlk
      clear hs2 hsz hat hkey hv hJ5
      simp only [id_eq, I10.val, I10.cells] at hen hy hR ⊢
      gi_wp2
      refine hR.mono ?_
      rintro e W3 ⟨rfl, hJ3, hk3⟩
      have hrg3 := hrg2.of_walks ((KeepsWalks.alloc _ _).trans hk3)
      gi_wp2
      go_roundw
      case rel => exact ⟨_, cnt2, ss ++ [x], hrg3, by simp; omega, hC2, hJ3⟩
      case measure => rw [hrg3.left_eq, hrg.left_eq]; exact hlt

end Go.Proofs.Ytehkofeokccdeaa
