/-
  The field of the law LinkOrdered: a row of strings or of packets is set anew; the time is.
-/
import Derived.Test.YtnagbiicpecamaaJqe
namespace Go.Proofs.Ytnagbiicpecamaa
set_option linter.unusedSimpArgs false
set_option linter.unusedVariables false
open Go.RowKit Go.Maps Go.Sort

/-- a link is left alone by what writes blocks of other types. -/
theorem PL.offT {base : Nat} {W W' : World} {b m : Nat} {v : Value} {c : Nat} {s : Sc} {L : List Ls} {K : List Kr} {S : Nat → Prop} (h : PL base W b m v c s L K) (k : KP S W W') (hS : ∀ g, S g → ∃ cu t, W.heap[g]? = some (.cells cu t (0, 0)) ∧ t ≠ 64 ∧ t ≠ 60 ∧ t ≠ 5) : PL base W' b m v c s L K := by
  obtain ⟨es, cl, hm⟩ := h.ml
  refine h.keepK k (fun e => ?_) (fun e => ?_) (fun g hg e => ?_) (fun g cur hg e => ?_)
  · obtain ⟨cu, t, hc, h1, _, _⟩ := hS _ e
    exact apart_of hc h.lnk h1 rfl
  · obtain ⟨cu, t, hc, _, _, _⟩ := hS _ e
    rw [hm] at hc
    cases hc
  · obtain ⟨cu, t, hc, _, h2, _⟩ := hS _ e
    obtain ⟨c2, hr⟩ := h.row.block g hg
    exact apart_of hc hr h2 rfl
  · obtain ⟨cu, t, hc, _, _, h3⟩ := hS _ e
    exact apart_of hc hg h3 rfl
theorem Bd.Ok.offT {x : Bd} {W W' : World} {S : Nat → Prop} (h : x.Ok W) (k : KP S W W') (hS : ∀ g, S g → ∃ cu t, W.heap[g]? = some (.cells cu t (0, 0)) ∧ t ≠ 64 ∧ t ≠ 60 ∧ t ≠ 5) : x.Ok W' :=
  h.keepK k fun g cur hg e => by
    obtain ⟨cu, t, hc, _, _, h3⟩ := hS _ e
    exact apart_of hc hg h3 rfl
theorem RowO.offF {W W' : World} {f : Nat} {cf : Array Value} {r : Value} {e : TypeId} {sz : Nat} {u : Value} {n : Nat} {xs : List Value} (hr : RowO W e sz u n xs) (k : KP (fun g => r.ownBlock = some g ∨ g = f) W W') (hf : W.heap[f]? = some (.cells cf 32 (0, 0))) (he : 32 ≠ e) (ha : ∀ g, u.ownBlock = some g → r.ownBlock ≠ some g) : RowO W' e sz u n xs :=
  hr.keepK k fun g hg h => by
    rcases h with h | h
    · exact ha g hg h
    · obtain ⟨c2, hc⟩ := hr.block g hg
      rw [h] at hc
      exact apart_of hf hc he rfl
theorem Ap.fresh {u v v' : Value} {n : Nat} (h : Ap v u) (hu : ∀ g, u.ownBlock = some g → g < n) (f : v'.ownBlock = v.ownBlock ∨ ∃ g, v'.ownBlock = some g ∧ n ≤ g) : Ap v' u := by
  intro g hg he
  rcases f with f | ⟨g', f, hn⟩
  · exact h g (f ▸ hg) he
  · rw [f] at hg
    obtain rfl : g' = g := Option.some.inj hg
    have := hu _ he
    omega
theorem Fm.sv0 {base : Nat} {W W' : World} {x : Fa} {y : Fc} {k : Nat} {v' : Value} {X : List UInt8} (h : Fm base W x y k) (kp : KP (fun g => x.sv0.ownBlock = some g ∨ g = x.f) W W') (blk : W'.heap[x.f]? = some (.cells (({ x with sv0 := v' } : Fa).cs y.now) 32 (0, 0)))
    (row : RowO W' 9 1 v' (y.S0 ++ [X]).length ((y.S0 ++ [X]).map sv)) (fr : v'.ownBlock = x.sv0.ownBlock ∨ ∃ g, v'.ownBlock = some g ∧ W.heap.size ≤ g) : Fm base W' { x with sv0 := v' } { y with S0 := y.S0 ++ [X] } k := by
  have hS : ∀ g, (x.sv0.ownBlock = some g ∨ g = x.f) → ∃ cu t, W.heap[g]? = some (.cells cu t (0, 0)) ∧ t ≠ 64 ∧ t ≠ 60 ∧ t ≠ 5 := by
    rintro g (e | rfl)
    · obtain ⟨c2, hc⟩ := h.r0.block g e
      exact ⟨c2, _, hc, by decide, by decide, by decide⟩
    · exact ⟨_, _, h.blk, by decide, by decide, by decide⟩
  exact { h with
    blk := blk
    p0 := h.p0.offT kp hS
    p1 := h.p1.offT kp hS
    fly := h.fly.offF kp h.blk (by decide) (fun g hg e => by
      obtain ⟨c1, q1⟩ := h.fly.block g hg
      obtain ⟨c2, q2⟩ := h.r0.block g e
      exact apart_of q1 q2 (by decide) rfl)
    ok := fun p hp => (h.ok p hp).offT kp hS
    r0 := row
    r1 := h.r1.offF kp h.blk (by decide) h.a01.symm
    r2 := h.r2.offF kp h.blk (by decide) h.a02.symm
    r3 := h.r3.offF kp h.blk (by decide) h.a03.symm
    a01 := h.a01.fresh h.r1.lt fr
    a02 := h.a02.fresh h.r2.lt fr
    a03 := h.a03.fresh h.r3.lt fr
    h0 := fun g hg => by
      rcases fr with f | ⟨g', f, hn⟩
      · exact h.h0 g (f ▸ hg)
      · rw [f] at hg
        obtain rfl : g' = g := Option.some.inj hg
        have := h.hb
        have := blt h.blk
        omega }
theorem Fm.sv1 {base : Nat} {W W' : World} {x : Fa} {y : Fc} {k : Nat} {v' : Value} {X : List UInt8} (h : Fm base W x y k) (kp : KP (fun g => x.sv1.ownBlock = some g ∨ g = x.f) W W') (blk : W'.heap[x.f]? = some (.cells (({ x with sv1 := v' } : Fa).cs y.now) 32 (0, 0)))
    (row : RowO W' 9 1 v' (y.S1 ++ [X]).length ((y.S1 ++ [X]).map sv)) (fr : v'.ownBlock = x.sv1.ownBlock ∨ ∃ g, v'.ownBlock = some g ∧ W.heap.size ≤ g) : Fm base W' { x with sv1 := v' } { y with S1 := y.S1 ++ [X] } k := by
  have hS : ∀ g, (x.sv1.ownBlock = some g ∨ g = x.f) → ∃ cu t, W.heap[g]? = some (.cells cu t (0, 0)) ∧ t ≠ 64 ∧ t ≠ 60 ∧ t ≠ 5 := by
    rintro g (e | rfl)
    · obtain ⟨c2, hc⟩ := h.r1.block g e
      exact ⟨c2, _, hc, by decide, by decide, by decide⟩
    · exact ⟨_, _, h.blk, by decide, by decide, by decide⟩
  exact { h with
    blk := blk
    p0 := h.p0.offT kp hS
    p1 := h.p1.offT kp hS
    fly := h.fly.offF kp h.blk (by decide) (fun g hg e => by
      obtain ⟨c1, q1⟩ := h.fly.block g hg
      obtain ⟨c2, q2⟩ := h.r1.block g e
      exact apart_of q1 q2 (by decide) rfl)
    ok := fun p hp => (h.ok p hp).offT kp hS
    r0 := h.r0.offF kp h.blk (by decide) h.a01
    r1 := row
    r2 := h.r2.offF kp h.blk (by decide) h.a12.symm
    r3 := h.r3.offF kp h.blk (by decide) h.a13.symm
    a01 := (h.a01.symm.fresh h.r0.lt fr).symm
    a12 := h.a12.fresh h.r2.lt fr
    a13 := h.a13.fresh h.r3.lt fr
    h1 := fun g hg => by
      rcases fr with f | ⟨g', f, hn⟩
      · exact h.h1 g (f ▸ hg)
      · rw [f] at hg
        obtain rfl : g' = g := Option.some.inj hg
        have := h.hb
        have := blt h.blk
        omega }
theorem Fm.cv0 {base : Nat} {W W' : World} {x : Fa} {y : Fc} {k : Nat} {v' : Value} {X : List UInt8} (h : Fm base W x y k) (kp : KP (fun g => x.cv0.ownBlock = some g ∨ g = x.f) W W') (blk : W'.heap[x.f]? = some (.cells (({ x with cv0 := v' } : Fa).cs y.now) 32 (0, 0)))
    (row : RowO W' 9 1 v' (y.C0 ++ [X]).length ((y.C0 ++ [X]).map sv)) (fr : v'.ownBlock = x.cv0.ownBlock ∨ ∃ g, v'.ownBlock = some g ∧ W.heap.size ≤ g) : Fm base W' { x with cv0 := v' } { y with C0 := y.C0 ++ [X] } k := by
  have hS : ∀ g, (x.cv0.ownBlock = some g ∨ g = x.f) → ∃ cu t, W.heap[g]? = some (.cells cu t (0, 0)) ∧ t ≠ 64 ∧ t ≠ 60 ∧ t ≠ 5 := by
    rintro g (e | rfl)
    · obtain ⟨c2, hc⟩ := h.r2.block g e
      exact ⟨c2, _, hc, by decide, by decide, by decide⟩
    · exact ⟨_, _, h.blk, by decide, by decide, by decide⟩
  exact { h with
    blk := blk
    p0 := h.p0.offT kp hS
    p1 := h.p1.offT kp hS
    fly := h.fly.offF kp h.blk (by decide) (fun g hg e => by
      obtain ⟨c1, q1⟩ := h.fly.block g hg
      obtain ⟨c2, q2⟩ := h.r2.block g e
      exact apart_of q1 q2 (by decide) rfl)
    ok := fun p hp => (h.ok p hp).offT kp hS
    r0 := h.r0.offF kp h.blk (by decide) h.a02
    r1 := h.r1.offF kp h.blk (by decide) h.a12
    r2 := row
    r3 := h.r3.offF kp h.blk (by decide) h.a23.symm
    a02 := (h.a02.symm.fresh h.r0.lt fr).symm
    a12 := (h.a12.symm.fresh h.r1.lt fr).symm
    a23 := h.a23.fresh h.r3.lt fr
    h2 := fun g hg => by
      rcases fr with f | ⟨g', f, hn⟩
      · exact h.h2 g (f ▸ hg)
      · rw [f] at hg
        obtain rfl : g' = g := Option.some.inj hg
        have := h.hb
        have := blt h.blk
        omega }
theorem Fm.cv1 {base : Nat} {W W' : World} {x : Fa} {y : Fc} {k : Nat} {v' : Value} {X : List UInt8} (h : Fm base W x y k) (kp : KP (fun g => x.cv1.ownBlock = some g ∨ g = x.f) W W') (blk : W'.heap[x.f]? = some (.cells (({ x with cv1 := v' } : Fa).cs y.now) 32 (0, 0)))
    (row : RowO W' 9 1 v' (y.C1 ++ [X]).length ((y.C1 ++ [X]).map sv)) (fr : v'.ownBlock = x.cv1.ownBlock ∨ ∃ g, v'.ownBlock = some g ∧ W.heap.size ≤ g) : Fm base W' { x with cv1 := v' } { y with C1 := y.C1 ++ [X] } k := by
  have hS : ∀ g, (x.cv1.ownBlock = some g ∨ g = x.f) → ∃ cu t, W.heap[g]? = some (.cells cu t (0, 0)) ∧ t ≠ 64 ∧ t ≠ 60 ∧ t ≠ 5 := by
    rintro g (e | rfl)
    · obtain ⟨c2, hc⟩ := h.r3.block g e
      exact ⟨c2, _, hc, by decide, by decide, by decide⟩
    · exact ⟨_, _, h.blk, by decide, by decide, by decide⟩
  exact { h with
    blk := blk
    p0 := h.p0.offT kp hS
    p1 := h.p1.offT kp hS
    fly := h.fly.offF kp h.blk (by decide) (fun g hg e => by
      obtain ⟨c1, q1⟩ := h.fly.block g hg
      obtain ⟨c2, q2⟩ := h.r3.block g e
      exact apart_of q1 q2 (by decide) rfl)
    ok := fun p hp => (h.ok p hp).offT kp hS
    r0 := h.r0.offF kp h.blk (by decide) h.a03
    r1 := h.r1.offF kp h.blk (by decide) h.a13
    r2 := h.r2.offF kp h.blk (by decide) h.a23
    r3 := row
    a03 := (h.a03.symm.fresh h.r0.lt fr).symm
    a13 := (h.a13.symm.fresh h.r1.lt fr).symm
    a23 := (h.a23.symm.fresh h.r2.lt fr).symm
    h3 := fun g hg => by
      rcases fr with f | ⟨g', f, hn⟩
      · exact h.h3 g (f ▸ hg)
      · rw [f] at hg
        obtain rfl : g' = g := Option.some.inj hg
        have := h.hb
        have := blt h.blk
        omega }
theorem Fm.fv_ {base : Nat} {W W' : World} {x : Fa} {y : Fc} {k : Nat} {v' : Value} {P' : List Pk} (h : Fm base W x y k) (kp : KP (fun g => x.fv.ownBlock = some g ∨ g = x.f) W W') (blk : W'.heap[x.f]? = some (.cells (({ x with fv := v' } : Fa).cs y.now) 32 (0, 0)))
    (row : RowO W' 46 8 v' P'.length (flat Pk.cs P')) (ok : ∀ p ∈ P', p.b.Ok W') (fr : v'.ownBlock = x.fv.ownBlock ∨ ∃ g, v'.ownBlock = some g ∧ W.heap.size ≤ g) : Fm base W' { x with fv := v' } { y with P := P' } k := by
  have hS : ∀ g, (x.fv.ownBlock = some g ∨ g = x.f) → ∃ cu t, W.heap[g]? = some (.cells cu t (0, 0)) ∧ t ≠ 64 ∧ t ≠ 60 ∧ t ≠ 5 := by
    rintro g (e | rfl)
    · obtain ⟨c2, hc⟩ := h.fly.block g e
      exact ⟨c2, _, hc, by decide, by decide, by decide⟩
    · exact ⟨_, _, h.blk, by decide, by decide, by decide⟩
  have hr : ∀ (u : Value) (n : Nat) (xs : List Value), RowO W 9 1 u n xs → RowO W' 9 1 u n xs := fun u n xs hr => hr.offF kp h.blk (by decide) (fun g hg e => by
    obtain ⟨c1, q1⟩ := hr.block g hg
    obtain ⟨c2, q2⟩ := h.fly.block g e
    exact apart_of q1 q2 (by decide) rfl)
  exact { h with
    blk := blk
    p0 := h.p0.offT kp hS
    p1 := h.p1.offT kp hS
    fly := row
    ok := ok
    r0 := hr _ _ _ h.r0
    r1 := hr _ _ _ h.r1
    r2 := hr _ _ _ h.r2
    r3 := hr _ _ _ h.r3
    hf := fun g hg => by
      rcases fr with f | ⟨g', f, hn⟩
      · exact h.hf g (f ▸ hg)
      · rw [f] at hg
        obtain rfl : g' = g := Option.some.inj hg
        have := h.hb
        have := blt h.blk
        omega }
theorem Fm.tick {base : Nat} {W W' : World} {x : Fa} {y : Fc} {k : Nat} {t : Int} (h : Fm base W x y k) (kp : KP (fun g => g = x.f) W W') (blk : W'.heap[x.f]? = some (.cells (x.cs t) 32 (0, 0))) : Fm base W' x { y with now := t } k := by
  have hS : ∀ g, g = x.f → ∃ cu t, W.heap[g]? = some (.cells cu t (0, 0)) ∧ t ≠ 64 ∧ t ≠ 60 ∧ t ≠ 5 := by
    rintro g rfl
    exact ⟨_, _, h.blk, by decide, by decide, by decide⟩
  have hr : ∀ (e : TypeId) (sz : Nat) (u : Value) (n : Nat) (xs : List Value), 32 ≠ e → RowO W e sz u n xs → RowO W' e sz u n xs := fun e sz u n xs he hr => hr.keepK kp fun g hg hh => by
    obtain ⟨c2, hc⟩ := hr.block g hg
    rw [hh] at hc
    exact apart_of h.blk hc he rfl
  exact { h with
    blk := blk
    p0 := h.p0.offT kp hS
    p1 := h.p1.offT kp hS
    fly := hr _ _ _ _ _ (by decide) h.fly
    ok := fun p hp => (h.ok p hp).offT kp hS
    r0 := hr _ _ _ _ _ (by decide) h.r0
    r1 := hr _ _ _ _ _ (by decide) h.r1
    r2 := hr _ _ _ _ _ (by decide) h.r2
    r3 := hr _ _ _ _ _ (by decide) h.r3 }

end Go.Proofs.Ytnagbiicpecamaa
