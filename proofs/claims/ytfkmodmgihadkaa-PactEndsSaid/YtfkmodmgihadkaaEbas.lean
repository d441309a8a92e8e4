/-
  An entry in memory: its eighteen cells, kept; a row of the call's own is kept. No condition.
-/
import Derived.Test.YtfkmodmgihadkaaPlst
import Derived.Test.YtfkmodmgihadkaaQrow
import Derived.Test.YtfkmodmgihadkaaIHlp
namespace Go.Proofs.Ytfkmodmgihadkaa
set_option linter.unusedSimpArgs false
set_option linter.unusedVariables false
open Go.RowKit

/-- the numbers and the text of an entry, its two lists aside. -/
structure E18 where
  k : Int
  n : Int
  l : Int
  s : Int
  d : Int
  a0 : Int
  a1 : Int
  b0 : Int
  b1 : Int
  c0 : Int
  c1 : Int
  fl : Int
  rc : Int
  rv : ByteArray
  vn : Int
  vl : Int

/-- an entry's eighteen cells. -/
structure Ent (W : World) (b : Nat) (x : E18) (P Q : Value) : Prop where
  e0 : W.cell? ⟨b, 0, none⟩ = some (.int .u8 x.k)
  e1 : W.cell? ⟨b, 1, none⟩ = some (.int .u8 x.n)
  e2 : W.cell? ⟨b, 2, none⟩ = some (.int .u16 x.l)
  e3 : W.cell? ⟨b, 3, none⟩ = some (.int .u32 x.s)
  e4 : W.cell? ⟨b, 4, none⟩ = some (.int .u8 x.d)
  e5 : W.cell? ⟨b, 5, none⟩ = some (.int .u8 x.a0)
  e6 : W.cell? ⟨b, 6, none⟩ = some (.int .u8 x.a1)
  e7 : W.cell? ⟨b, 7, none⟩ = some (.int .u8 x.b0)
  e8 : W.cell? ⟨b, 8, none⟩ = some (.int .u8 x.b1)
  e9 : W.cell? ⟨b, 9, none⟩ = some (.int .u8 x.c0)
  e10 : W.cell? ⟨b, 10, none⟩ = some (.int .u8 x.c1)
  e11 : W.cell? ⟨b, 11, none⟩ = some (.int .u32 x.fl)
  e12 : W.cell? ⟨b, 12, none⟩ = some (P)
  e13 : W.cell? ⟨b, 13, none⟩ = some (.int .u8 x.rc)
  e14 : W.cell? ⟨b, 14, none⟩ = some (.string x.rv)
  e15 : W.cell? ⟨b, 15, none⟩ = some (Q)
  e16 : W.cell? ⟨b, 16, none⟩ = some (.int .u8 x.vn)
  e17 : W.cell? ⟨b, 17, none⟩ = some (.int .u16 x.vl)
theorem Ent.kept {W W' : World} {B b : Nat} {x : E18} {P Q : Value} (h : Ent W b x P Q) (hb : Below B W W') (hl : b < B) : Ent W' b x P Q :=
  ⟨(hb.cell (p := ⟨b, 0, none⟩) hl).trans h.e0, (hb.cell (p := ⟨b, 1, none⟩) hl).trans h.e1, (hb.cell (p := ⟨b, 2, none⟩) hl).trans h.e2, (hb.cell (p := ⟨b, 3, none⟩) hl).trans h.e3, (hb.cell (p := ⟨b, 4, none⟩) hl).trans h.e4, (hb.cell (p := ⟨b, 5, none⟩) hl).trans h.e5, (hb.cell (p := ⟨b, 6, none⟩) hl).trans h.e6, (hb.cell (p := ⟨b, 7, none⟩) hl).trans h.e7, (hb.cell (p := ⟨b, 8, none⟩) hl).trans h.e8, (hb.cell (p := ⟨b, 9, none⟩) hl).trans h.e9, (hb.cell (p := ⟨b, 10, none⟩) hl).trans h.e10, (hb.cell (p := ⟨b, 11, none⟩) hl).trans h.e11, (hb.cell (p := ⟨b, 12, none⟩) hl).trans h.e12, (hb.cell (p := ⟨b, 13, none⟩) hl).trans h.e13, (hb.cell (p := ⟨b, 14, none⟩) hl).trans h.e14, (hb.cell (p := ⟨b, 15, none⟩) hl).trans h.e15, (hb.cell (p := ⟨b, 16, none⟩) hl).trans h.e16, (hb.cell (p := ⟨b, 17, none⟩) hl).trans h.e17⟩
theorem Ent.keep {W W' : World} {b : Nat} {x : E18} {P Q : Value} (h : Ent W b x P Q) (hk : ∀ i, W'.cell? ⟨b, i, none⟩ = W.cell? ⟨b, i, none⟩) : Ent W' b x P Q :=
  ⟨(hk 0).trans h.e0, (hk 1).trans h.e1, (hk 2).trans h.e2, (hk 3).trans h.e3, (hk 4).trans h.e4, (hk 5).trans h.e5, (hk 6).trans h.e6, (hk 7).trans h.e7, (hk 8).trans h.e8, (hk 9).trans h.e9, (hk 10).trans h.e10, (hk 11).trans h.e11, (hk 12).trans h.e12, (hk 13).trans h.e13, (hk 14).trans h.e14, (hk 15).trans h.e15, (hk 16).trans h.e16, (hk 17).trans h.e17⟩
theorem Ent.set {W : World} {b : Nat} {x : E18} {P Q : Value} (h : Ent W b x P Q) (p : Addr) (v : Value) (hp : p.block ≠ b) : Ent (W.setCell p v) b x P Q :=
  h.keep fun i => World.cell?_setCell_far W p ⟨b, i, none⟩ v hp
def E0 : E18 := ⟨0, 0, 0, 0, 0, 0, 0, 0, 0, 0, 0, 0, 0, ByteArray.empty, 0, 0⟩
theorem Ent.lt {W : World} {b : Nat} {x : E18} {P Q : Value} (h : Ent W b x P Q) : b < W.heap.size := World.block_lt_of_cell? _ _ h.e0
set_option maxRecDepth 100000 in
theorem ent_new (W : World) (x : E18) (P Q : Value) (t : TypeId) : Ent (W.alloc (.cells #[.int .u8 x.k, .int .u8 x.n, .int .u16 x.l, .int .u32 x.s, .int .u8 x.d, .int .u8 x.a0, .int .u8 x.a1, .int .u8 x.b0, .int .u8 x.b1, .int .u8 x.c0, .int .u8 x.c1, .int .u32 x.fl, P, .int .u8 x.rc, .string x.rv, Q, .int .u8 x.vn, .int .u16 x.vl] t)) W.heap.size x P Q :=
  ⟨by simp, by simp, by simp, by simp, by simp, by simp, by simp, by simp, by simp, by simp, by simp, by simp, by simp, by simp, by simp, by simp, by simp, by simp⟩
/-- all eighteen, side by side. -/
abbrev EntS (W : World) (b : Nat) (x : E18) (P Q : Value) : Prop := W.cell? ⟨b, 0, none⟩ = some (.int .u8 x.k) ∧ W.cell? ⟨b, 1, none⟩ = some (.int .u8 x.n) ∧ W.cell? ⟨b, 2, none⟩ = some (.int .u16 x.l) ∧ W.cell? ⟨b, 3, none⟩ = some (.int .u32 x.s) ∧ W.cell? ⟨b, 4, none⟩ = some (.int .u8 x.d) ∧ W.cell? ⟨b, 5, none⟩ = some (.int .u8 x.a0) ∧ W.cell? ⟨b, 6, none⟩ = some (.int .u8 x.a1) ∧ W.cell? ⟨b, 7, none⟩ = some (.int .u8 x.b0) ∧ W.cell? ⟨b, 8, none⟩ = some (.int .u8 x.b1) ∧ W.cell? ⟨b, 9, none⟩ = some (.int .u8 x.c0) ∧ W.cell? ⟨b, 10, none⟩ = some (.int .u8 x.c1) ∧ W.cell? ⟨b, 11, none⟩ = some (.int .u32 x.fl) ∧ W.cell? ⟨b, 12, none⟩ = some (P) ∧ W.cell? ⟨b, 13, none⟩ = some (.int .u8 x.rc) ∧ W.cell? ⟨b, 14, none⟩ = some (.string x.rv) ∧ W.cell? ⟨b, 15, none⟩ = some (Q) ∧ W.cell? ⟨b, 16, none⟩ = some (.int .u8 x.vn) ∧ W.cell? ⟨b, 17, none⟩ = some (.int .u16 x.vl)
theorem Ent.all {W : World} {b : Nat} {x : E18} {P Q : Value} (h : Ent W b x P Q) : EntS W b x P Q := ⟨h.e0, h.e1, h.e2, h.e3, h.e4, h.e5, h.e6, h.e7, h.e8, h.e9, h.e10, h.e11, h.e12, h.e13, h.e14, h.e15, h.e16, h.e17⟩

/-- a block of eighteen zero cells that may be written. -/
structure Zero18 (W : World) (b : Nat) : Prop where
  ent : Ent W b E0 (.slice none 0 0) (.slice none 0 0)
  fro : ∀ i, W.frozen? ⟨b, i, none⟩ = false
theorem Zero18.kept {W W' : World} {B b : Nat} (h : Zero18 W b) (hb : Below B W W') (hl : b < B) : Zero18 W' b :=
  ⟨h.ent.kept hb hl, fun i => by
    have := h.fro i
    simp only [World.frozen?] at this ⊢
    rw [hb.block b hl]
    exact this⟩
/-- what a call has made of its own is kept by whatever comes behind. -/
theorem own_kept {W W' : World} {base : Nat} {e : TypeId} {z : Nat} {v : Value} {n : Nat} {xs : List Value} (h : W.ownsRow base e z v n xs) (hb : Below W.heap.size W W') : W'.ownsRow base e z v n xs := by
  refine ⟨h.1, ?_⟩
  rcases h.2 with hn | ⟨g, cap, cur, hv, h0, hg, r⟩
  · exact .inl hn
  · refine .inr ⟨g, cap, cur, hv, h0, ?_, r⟩
    rw [hb.block g (by
      have := (Array.getElem?_eq_some_iff.1 hg).1
      exact this)]
    exact hg
theorem own_set {W : World} {base : Nat} {e : TypeId} {z : Nat} {v : Value} {n : Nat} {xs : List Value} (h : W.ownsRow base e z v n xs) (p : Addr) (u : Value) (hp : p.block < base) : (W.setCell p u).ownsRow base e z v n xs := by
  refine ⟨h.1, ?_⟩
  rcases h.2 with hn | ⟨g, cap, cur, hv, h0, hg, r⟩
  · exact .inl hn
  · refine .inr ⟨g, cap, cur, hv, h0, ?_, r⟩
    rw [Below.heap_setCell _ _ _ g (by omega)]
    exact hg
theorem own_mono {W : World} {base base' : Nat} {e : TypeId} {z : Nat} {v : Value} {n : Nat} {xs : List Value} (h : W.ownsRow base e z v n xs) (hb : base' ≤ base) : W.ownsRow base' e z v n xs := by
  refine ⟨h.1, ?_⟩
  rcases h.2 with hn | ⟨g, cap, cur, hv, h0, r⟩
  · exact .inl hn
  · exact .inr ⟨g, cap, cur, hv, Nat.le_trans hb h0, r⟩
theorem own_lt {W : World} {base : Nat} {e : TypeId} {z : Nat} {v : Value} {n : Nat} {xs : List Value} (h : W.ownsRow base e z v n xs) : ∀ g, v.ownBlock = some g → base ≤ g ∧ g < W.heap.size := by
  intro g hg
  exact h.lt g hg

end Go.Proofs.Ytfkmodmgihadkaa
