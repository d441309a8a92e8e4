/-
  Two processes held against each other: the program's CompareProcs, by an exact answer; what stands behind it is the world before it, after some draws, with some blocks laid behind it. No condition.
-/
import Derived.Test.YtgmjhloednmfnaaDoorVrnk
import Derived.Test.YtgmjhloednmfnaaDoorTail
import Derived.Sort.Grow
namespace Go.Proofs.YtgmjhloednmfnaaDoor
set_option linter.unusedSimpArgs false
set_option linter.unusedVariables false
open Go.RowKit Go.Sort

/-- which of two numbers is the lesser: -1, 0, 1. -/
def sgn (a b : Int) : Int := if a < b then -1 else if b < a then 1 else 0
/-- the first that is not zero. -/
def or2 (a b : Int) : Int := if a = 0 then b else a
theorem sgn_lt {a b : Int} (h : a < b) : sgn a b = -1 := by simp [sgn, h]
theorem sgn_gt {a b : Int} (h : b < a) : sgn a b = 1 := by
  have h1 : ¬ a < b := by omega
  simp [sgn, h, h1]
theorem sgn_self (a : Int) : sgn a a = 0 := by simp [sgn]
/-- two processes. -/
def cp (n l x y : Int) : Int := or2 (sgn n x) (sgn l y)

set_option maxHeartbeats 400000 in
theorem cmpU8 (a b : Int) (w : World) : Calls Tryd.prog 59 #[.int .u8 a, .int .u8 b] w fun e w' => e = .returned (.int .i64 (sgn a b)) ∧ w = w' := by
  by_cases h1 : a < b
  · have e := sgn_lt h1
    have E := Lib.hid e
    clear e
    go_enter Tryd.func59, Tryd.ntmps59
    go_wp2
    go_ret
    rw [E.out]
    exact ⟨rfl, rfl⟩
  · by_cases h2 : b < a
    · have e := sgn_gt h2
      have E := Lib.hid e
      clear e
      go_enter Tryd.func59, Tryd.ntmps59
      go_wp2
      go_ret
      rw [E.out]
      exact ⟨rfl, rfl⟩
    · obtain rfl : a = b := by omega
      have e := sgn_self a
      have E := Lib.hid e
      clear e
      go_enter Tryd.func59, Tryd.ntmps59
      go_wp2
      go_ret
      rw [E.out]
      exact ⟨rfl, rfl⟩

set_option maxHeartbeats 400000 in
theorem cmpU16 (a b : Int) (w : World) : Calls Tryd.prog 60 #[.int .u16 a, .int .u16 b] w fun e w' => e = .returned (.int .i64 (sgn a b)) ∧ w = w' := by
  by_cases h1 : a < b
  · have e := sgn_lt h1
    have E := Lib.hid e
    clear e
    go_enter Tryd.func60, Tryd.ntmps60
    go_wp2
    go_ret
    rw [E.out]
    exact ⟨rfl, rfl⟩
  · by_cases h2 : b < a
    · have e := sgn_gt h2
      have E := Lib.hid e
      clear e
      go_enter Tryd.func60, Tryd.ntmps60
      go_wp2
      go_ret
      rw [E.out]
      exact ⟨rfl, rfl⟩
    · obtain rfl : a = b := by omega
      have e := sgn_self a
      have E := Lib.hid e
      clear e
      go_enter Tryd.func60, Tryd.ntmps60
      go_wp2
      go_ret
      rw [E.out]
      exact ⟨rfl, rfl⟩

set_option maxHeartbeats 1000000 in
theorem orTwo (b : Nat) (x0 x1 : Int) (w : World) (c0 : w.cell? ⟨b, 0, none⟩ = some (.int .i64 x0)) (c1 : w.cell? ⟨b, 1, none⟩ = some (.int .i64 x1)) :
    Calls Tryd.prog 58 #[.slice (some ⟨b, 0, none⟩) 2 2] w fun e w' => e = .returned (.int .i64 (or2 x0 x1)) ∧ w = w' := by
  go_enter Tryd.func58, Tryd.ntmps58
  go_wp2
  go_rounds 3
  all_goals
    go_ret
    refine ⟨?_, rfl⟩
    simp_all [or2]

namespace L

/-- Nothing that was there has changed, and the draws only add up. -/
structure Below (B : Nat) (w w' : World) : Prop extends Go.RowKit.Below B w w' where
  drawn : w.drawn ≤ w'.drawn

theorem Below.refl (B : Nat) (w : World) : Below B w w := ⟨Go.RowKit.Below.refl B w, Nat.le_refl _⟩
theorem Below.trans {B : Nat} {a b c : World} (h : Below B a b) (k : Below B b c) : Below B a c := ⟨h.toBelow.trans k.toBelow, Nat.le_trans h.drawn k.drawn⟩
theorem Below.mono {B B' : Nat} {w w' : World} (h : Below B w w') (hB : B' ≤ B) : Below B' w w' := ⟨h.toBelow.mono hB, h.drawn⟩
theorem Below.alloc {B : Nat} {a w : World} (h : Below B a w) (hB : B ≤ w.heap.size) (o : Obj) : Below B a (w.alloc o) := ⟨h.toBelow.alloc hB o, h.drawn⟩
theorem Below.cell {B : Nat} {w w' : World} (h : Below B w w') {p : Addr} (hp : p.block < B) : w'.cell? p = w.cell? p := h.toBelow.cell hp

def redrawn (w : World) (d : Nat) : World := w.drewN d

structure Regrown where
  d : Nat
  os : Array Obj
  deriving Inhabited

theorem below_regrown (w : World) (d : Nat) (os : Array Obj) : Below w.heap.size w (grow (redrawn w d) os) :=
  ⟨Go.below_regrown w (w.drawn + d) os, Nat.le_add_right _ _⟩

theorem regrown_of_below {w w' : World} (h : Below w.heap.size w w') : ∃ p : Regrown, w' = grow (redrawn w p.d) p.os := by
  obtain ⟨p, hp⟩ := Go.regrown_of_below h.toBelow
  have hd := h.drawn
  subst hp
  have hd' : w.drawn ≤ p.d := hd
  refine ⟨⟨p.d - w.drawn, p.os⟩, ?_⟩
  unfold redrawn Go.redrawn World.drewN
  rw [Nat.add_sub_cancel' hd']

theorem cell_regrown {w : World} {a : Addr} {v : Value} (h : w.cell? a = some v) (d : Nat) (os : Array Obj) : (grow (redrawn w d) os).cell? a = some v := by
  rw [(below_regrown w d os).cell (block_lt_of_cell h)]; exact h

theorem Calls.regrown_of {P : Program} {f : FuncId} {args : Array Value} {w : World} {d : Nat} {os : Array Obj} {v : Value}
    (h : Go.Calls P f args (grow (redrawn w d) os) fun e w' => e = .returned v ∧ Below (grow (redrawn w d) os).heap.size (grow (redrawn w d) os) w') : Go.Calls P f args (grow (redrawn w d) os) fun e w'' => e = .returned v ∧ ∃ p : Regrown, w'' = grow (redrawn w p.d) p.os :=
  h.mono fun _ _ ⟨he, hb⟩ => ⟨he, regrown_of_below ((below_regrown w d os).trans (hb.mono (below_regrown w d os).size))⟩

theorem region_first_below {P : Program} {id : Nat} {Q : Exit → Act → World → Prop} {a : Act} {w : World} {l : List Oper} (n : Nat) (hm : P.follows .mixedOrders = true) (hB : Region.lexTailB .any l.toArray n = true)
    (h : wpQuiet P l.toArray (fun w' => ∃ p : Regrown, w' = grow (redrawn w p.d) p.os) (fun a' => ∀ w', (∃ p : Regrown, w' = grow (redrawn w p.d) p.os) → wpList P l.toArray Q (l.drop n) a' w') (l.take n) a) : (Code.region id l.toArray true).wp P Q a w :=
  region_first (C := fun w' => ∃ p : Regrown, w' = grow (redrawn w p.d) p.os) n hm hB ⟨⟨1, #[]⟩, by rw [grow_empty]; rfl⟩ h

set_option maxHeartbeats 1000000 in
theorem compareProcs (g i x y : Int) (w : World) : Calls Tryd.prog 48 #[.agg #[.int .u8 g, .int .u16 i], .agg #[.int .u8 x, .int .u16 y]] w fun e w' => e = .returned (.int .i64 (cp g i x y)) ∧ Below w.heap.size w w' := by
  go_enter Tryd.func48, Tryd.ntmps48
  go_wp2_with fail
  have z : Below w.heap.size w ((w.alloc (.cells #[.int .u8 g, .int .u16 i] 48)).alloc (.cells #[.int .u8 x, .int .u16 y] 48)) := ((Below.refl _ _).alloc (Nat.le_refl _) _).alloc (by simp) _
  have s0 : ((w.alloc (.cells #[.int .u8 g, .int .u16 i] 48)).alloc (.cells #[.int .u8 x, .int .u16 y] 48)).cell? ⟨w.heap.size, 0, none⟩ = some (.int .u8 g) := by simp
  have s1 : ((w.alloc (.cells #[.int .u8 g, .int .u16 i] 48)).alloc (.cells #[.int .u8 x, .int .u16 y] 48)).cell? ⟨w.heap.size, 1, none⟩ = some (.int .u16 i) := by simp
  have s2 : ((w.alloc (.cells #[.int .u8 g, .int .u16 i] 48)).alloc (.cells #[.int .u8 x, .int .u16 y] 48)).cell? ⟨w.heap.size + 1, 0, none⟩ = some (.int .u8 x) := by simp
  have s3 : ((w.alloc (.cells #[.int .u8 g, .int .u16 i] 48)).alloc (.cells #[.int .u8 x, .int .u16 y] 48)).cell? ⟨w.heap.size + 1, 1, none⟩ = some (.int .u16 y) := by simp
  generalize (w.alloc (.cells #[.int .u8 g, .int .u16 i] 48)).alloc (.cells #[.int .u8 x, .int .u16 y] 48) = W at *
  have t0 := cell_regrown s0
  have t1 := cell_regrown s1
  have t2 := cell_regrown s2
  have t3 := cell_regrown s3
  clear s0 s1 s2 s3
  have Z : Hid _ := Lib.hid z
  clear z
  refine region_first_below 10 (by kernel_rfl) (by kernel_rfl) ?_
  simp only [List.take_succ_cons, List.take_zero, List.drop_succ_cons, List.drop_zero]
  repeat (go_big_quiet_step (first | exact Calls.regrown_of ((cmpU8 _ _ _).mono fun _ _ ⟨he, hw⟩ => ⟨he, hw ▸ Below.refl _ _⟩) | exact Calls.regrown_of ((cmpU16 _ _ _).mono fun _ _ ⟨he, hw⟩ => ⟨he, hw ▸ Below.refl _ _⟩)))
  refine wpQuiet_nil ?_
  rintro W1 ⟨p, rfl⟩
  have z2 := below_regrown W p.d p.os
  generalize grow (redrawn W p.d) p.os = W2 at *
  clear t0 t1 t2 t3
  have Z2 : Hid _ := Lib.hid z2
  clear z2
  go_wp2_with (go_at_call 58; refine (orTwo _ (sgn g x) (sgn i y) _ (by simp) (by simp)).mono ?_; rintro e w' ⟨rfl, rfl⟩)
  go_ret
  exact ⟨rfl, (Z.out.trans (Z2.out.mono Z.out.size)).alloc (Nat.le_trans Z.out.size Z2.out.size) _⟩

/-- In the form that slices.SortFunc asks for. -/
theorem compareProcs_lays (g i x y : Int) (w : World) :
    Go.Calls Tryd.prog 48 #[.agg #[.int .u8 g, .int .u16 i], .agg #[.int .u8 x, .int .u16 y]] w fun e w' => e = .returned (.int .i64 (cp g i x y)) ∧ ∃ q os, w' = grow (w.drewN q) os :=
  (compareProcs g i x y w).mono fun _ _ ⟨he, hb⟩ => ⟨he, by obtain ⟨p, hp⟩ := regrown_of_below hb; exact ⟨p.d, p.os, hp⟩⟩

end L
theorem compareProcsO (p q : P2) (w : World) : Calls Tryd.prog 48 #[.agg #[.int .u8 p.n, .int .u16 p.l], .agg #[.int .u8 q.n, .int .u16 q.l]] w fun e w' => e = .returned (.int .i64 (cp p.n p.l q.n q.l)) ∧ Below w.heap.size w w' :=
  (L.compareProcs p.n p.l q.n q.l w).mono fun _ _ ⟨he, hb⟩ => ⟨he, hb.toBelow⟩

/-! ### the order -/

theorem cp_iff (n l x y : Int) : (cp n l x y < 0 ↔ n < x ∨ (n = x ∧ l < y)) ∧ (cp n l x y = 0 ↔ n = x ∧ l = y) ∧ (0 < cp n l x y ↔ x < n ∨ (n = x ∧ y < l)) := by
  unfold cp or2 sgn
  by_cases h1 : n < x
  · have h2 : ¬ x < n := by omega
    simp [h1, h2]
    omega
  · by_cases h2 : x < n
    · simp [h1, h2]
      omega
    · have h3 : n = x := by omega
      subst h3
      by_cases h4 : l < y
      · have h5 : ¬ y < l := by omega
        simp [h4, h5]
        omega
      · by_cases h5 : y < l
        · simp [h4, h5]
          omega
        · have h6 : l = y := by omega
          subst h6
          simp
theorem cpP_zero (p q : P2) : cp p.n p.l q.n q.l = 0 ↔ p = q := by
  rw [(cp_iff _ _ _ _).2.1]
  obtain ⟨a, b⟩ := p
  obtain ⟨c, d⟩ := q
  simp

end Go.Proofs.YtgmjhloednmfnaaDoor
