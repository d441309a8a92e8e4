/-
  The field of the law LinkOrdered in memory: two links, packets in flight, what was sent and what came.
-/
import Derived.Test.YtnagbiicpecamaaJqd
namespace Go.Proofs.Ytnagbiicpecamaa
set_option linter.unusedSimpArgs false
set_option linter.unusedVariables false
open Go.RowKit Go.Maps Go.Sort

/-- the addresses of a field: two links, the packets, four rows of strings. -/
structure Fa where
  f : Nat
  b0 : Nat
  m0 : Nat
  v0 : Value
  b1 : Nat
  m1 : Nat
  v1 : Value
  fv : Value
  sv0 : Value
  sv1 : Value
  cv0 : Value
  cv1 : Value
/-- what it holds. -/
structure Fc where
  s0 : Sc
  L0 : List Ls
  K0 : List Kr
  s1 : Sc
  L1 : List Ls
  K1 : List Kr
  P : List Pk
  S0 : List (List UInt8)
  S1 : List (List UInt8)
  C0 : List (List UInt8)
  C1 : List (List UInt8)
  now : Int
def Fa.cs (x : Fa) (now : Int) : Array Value := #[.pointer (some ⟨x.b0, 0, none⟩), .pointer (some ⟨x.b1, 0, none⟩), x.fv, x.sv0, x.sv1, x.cv0, x.cv1, .int .i64 now]
def Ap (u v : Value) : Prop := ∀ g, u.ownBlock = some g → v.ownBlock ≠ some g
theorem Ap.symm {u v : Value} (h : Ap u v) : Ap v u := fun g hg he => h g he hg
structure Fm (base : Nat) (W : World) (x : Fa) (y : Fc) (k : Nat) : Prop where
  hb : base ≤ x.f
  blk : W.heap[x.f]? = some (.cells (x.cs y.now) 32 (0, 0))
  p0 : PL base W x.b0 x.m0 x.v0 k y.s0 y.L0 y.K0
  p1 : PL base W x.b1 x.m1 x.v1 k y.s1 y.L1 y.K1
  fly : RowO W 46 8 x.fv y.P.length (flat Pk.cs y.P)
  ok : ∀ p ∈ y.P, p.b.Ok W
  r0 : RowO W 9 1 x.sv0 y.S0.length (y.S0.map sv)
  r1 : RowO W 9 1 x.sv1 y.S1.length (y.S1.map sv)
  r2 : RowO W 9 1 x.cv0 y.C0.length (y.C0.map sv)
  r3 : RowO W 9 1 x.cv1 y.C1.length (y.C1.map sv)
  ab : x.b0 ≠ x.b1
  am : x.m0 ≠ x.m1
  av : Ap x.v0 x.v1
  a01 : Ap x.sv0 x.sv1
  a02 : Ap x.sv0 x.cv0
  a03 : Ap x.sv0 x.cv1
  a12 : Ap x.sv1 x.cv0
  a13 : Ap x.sv1 x.cv1
  a23 : Ap x.cv0 x.cv1
  h0 : ∀ g, x.sv0.ownBlock = some g → base ≤ g
  h1 : ∀ g, x.sv1.ownBlock = some g → base ≤ g
  h2 : ∀ g, x.cv0.ownBlock = some g → base ≤ g
  h3 : ∀ g, x.cv1.ownBlock = some g → base ≤ g
  hf : ∀ g, x.fv.ownBlock = some g → base ≤ g
theorem Fm.below {base : Nat} {W W' : World} {x : Fa} {y : Fc} {k : Nat} (h : Fm base W x y k) (b : Below W.heap.size W W') : Fm base W' x y k :=
  { h with
    blk := (b.block _ (blt h.blk)).trans h.blk
    p0 := h.p0.below b
    p1 := h.p1.below b
    fly := h.fly.below b
    ok := fun p hp => (h.ok p hp).below b
    r0 := h.r0.below b
    r1 := h.r1.below b
    r2 := h.r2.below b
    r3 := h.r3.below b }
theorem Fm.mono {base : Nat} {W : World} {x : Fa} {y : Fc} {k k' : Nat} (h : Fm base W x y k) (hk : k ≤ k') : Fm base W x y k' :=
  { h with p0 := h.p0.mono hk, p1 := h.p1.mono hk }
/-- a link beside the one that a call changed. -/
theorem PL.beside {base base' : Nat} {W W' : World} {b m b' m' : Nat} {v v' : Value} {c c' : Nat} {s s' : Sc} {L L' : List Ls} {K K' : List Kr} (h : PL base W b m v c s L K) (h' : PL base' W b' m' v' c' s' L' K') (k : KP (FP b' m' v') W W') (e1 : b ≠ b') (e2 : m ≠ m') (e3 : Ap v v') : PL base W' b m v c s L K := by
  obtain ⟨es, cl, hm⟩ := h.ml
  obtain ⟨es', cl', hm'⟩ := h'.ml
  refine h.keepK k ?_ ?_ ?_ fun g cur hg => h'.u8 g cur hg
  · rintro (e | e | e)
    · exact e1 e
    · have hl := h.lnk
      rw [e, hm'] at hl
      cases hl
    · obtain ⟨c2, hc⟩ := h'.row.block b e
      exact apart_of h.lnk hc (by decide) rfl
  · rintro (e | e | e)
    · have hl := h'.lnk
      rw [← e, hm] at hl
      cases hl
    · exact e2 e
    · obtain ⟨c2, hc⟩ := h'.row.block m e
      rw [hm] at hc
      cases hc
  · rintro g hg (e | e | e)
    · obtain ⟨c2, hc⟩ := h.row.block g hg
      exact apart_of hc h'.lnk (by decide) e
    · obtain ⟨c2, hc⟩ := h.row.block g hg
      rw [e, hm'] at hc
      cases hc
    · exact e3 g hg e
theorem RowO.nfK {base : Nat} {W W' : World} {b m : Nat} {v : Value} {c : Nat} {s : Sc} {L : List Ls} {K : List Kr} (h : PL base W b m v c s L K) (k : KP (FP b m v) W W') {e : TypeId} {sz : Nat} {u : Value} {n : Nat} {xs : List Value} (hr : RowO W e sz u n xs) (h1 : e ≠ 64) (h2 : e ≠ 60) : RowO W' e sz u n xs :=
  hr.keepK k fun g hg => by
    obtain ⟨c2, hc⟩ := hr.block g hg
    exact h.nf hc h1 h2
/-- a call changed link 0. -/
theorem Fm.link0 {base : Nat} {W W' : World} {x : Fa} {y : Fc} {k k' : Nat} {v' : Value} {s' : Sc} {L' : List Ls} {K' : List Kr} (h : Fm base W x y k) (hk : k ≤ k') (hp : PL base W' x.b0 x.m0 v' k' s' L' K') (kp : KP (FP x.b0 x.m0 x.v0) W W') (av : Ap v' x.v1) : Fm base W' { x with v0 := v' } { y with s0 := s', L0 := L', K0 := K' } k' :=
  { h with
    blk := (kp.block _ (blt h.blk) (h.p0.nf h.blk (by decide) (by decide))).trans h.blk
    p0 := hp
    p1 := (h.p1.beside h.p0 kp h.ab.symm h.am.symm h.av.symm).mono hk
    av := av
    fly := RowO.nfK h.p0 kp h.fly (by decide) (by decide)
    ok := fun p hp => (h.ok p hp).keepK kp h.p0.u8
    r0 := RowO.nfK h.p0 kp h.r0 (by decide) (by decide)
    r1 := RowO.nfK h.p0 kp h.r1 (by decide) (by decide)
    r2 := RowO.nfK h.p0 kp h.r2 (by decide) (by decide)
    r3 := RowO.nfK h.p0 kp h.r3 (by decide) (by decide) }
/-- a call changed link 1. -/
theorem Fm.link1 {base : Nat} {W W' : World} {x : Fa} {y : Fc} {k k' : Nat} {v' : Value} {s' : Sc} {L' : List Ls} {K' : List Kr} (h : Fm base W x y k) (hk : k ≤ k') (hp : PL base W' x.b1 x.m1 v' k' s' L' K') (kp : KP (FP x.b1 x.m1 x.v1) W W') (av : Ap x.v0 v') : Fm base W' { x with v1 := v' } { y with s1 := s', L1 := L', K1 := K' } k' :=
  { h with
    blk := (kp.block _ (blt h.blk) (h.p1.nf h.blk (by decide) (by decide))).trans h.blk
    p1 := hp
    p0 := (h.p0.beside h.p1 kp h.ab h.am h.av).mono hk
    av := av
    fly := RowO.nfK h.p1 kp h.fly (by decide) (by decide)
    ok := fun p hp => (h.ok p hp).keepK kp h.p1.u8
    r0 := RowO.nfK h.p1 kp h.r0 (by decide) (by decide)
    r1 := RowO.nfK h.p1 kp h.r1 (by decide) (by decide)
    r2 := RowO.nfK h.p1 kp h.r2 (by decide) (by decide)
    r3 := RowO.nfK h.p1 kp h.r3 (by decide) (by decide) }

end Go.Proofs.Ytnagbiicpecamaa
