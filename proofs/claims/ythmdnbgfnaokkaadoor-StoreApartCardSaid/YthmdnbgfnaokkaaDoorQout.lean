/-
  The store's outcome, by contract.
-/
import Derived.Test.YthmdnbgfnaokkaaDoorQwri
import Derived.Test.YthmdnbgfnaokkaaDoorQcnv
import Derived.Test.YthmdnbgfnaokkaaDoorQfew
namespace Go.Proofs.YthmdnbgfnaokkaaDoor
set_option linter.unusedSimpArgs false
set_option linter.unusedVariables false
open Go.RowKit Go.Sort


/-- what lies where outcome works. -/
structure OutSt (W : World) (n a6 a7 : Nat) (g k m : Int) (key val : ByteArray) (x : W3) : Prop where
  p0 : W.cell? ⟨n, 0, none⟩ = some (.int .u8 g)
  p1 : W.cell? ⟨n, 1, none⟩ = some (.int .u8 k)
  p2 : W.cell? ⟨n, 2, none⟩ = some (.string key)
  p3 : W.cell? ⟨n, 3, none⟩ = some (.string val)
  p4 : W.cell? ⟨n, 4, none⟩ = some (.int .i64 m)
  x0 : W.cell? ⟨n + 1, 0, none⟩ = some (.string x.key)
  x1 : W.cell? ⟨n + 1, 1, none⟩ = some (.string x.val)
  x2 : W.cell? ⟨n + 1, 2, none⟩ = some (.bool x.has)
  r0 : W.cell? ⟨n + 1 + 1, 0, none⟩ = some (.int .u8 0)
  r1 : W.cell? ⟨n + 1 + 1, 1, none⟩ = some (.string ByteArray.empty)
  t0 : W.cell? ⟨n + 1 + 1 + 1, 0, none⟩ = some (.string ByteArray.empty)
  t1 : W.cell? ⟨n + 1 + 1 + 1, 1, none⟩ = some (.string ByteArray.empty)
  t2 : W.cell? ⟨n + 1 + 1 + 1, 2, none⟩ = some (.bool false)
  s0 : W.cell? ⟨a6, 0, none⟩ = some (.int .u8 0)
  s1 : W.cell? ⟨a6, 1, none⟩ = some (.string ByteArray.empty)
  u0 : W.cell? ⟨a7, 0, none⟩ = some (.string x.key)
  u1 : W.cell? ⟨a7, 1, none⟩ = some (.string x.val)
  u2 : W.cell? ⟨a7, 2, none⟩ = some (.bool x.has)
  fr0 : W.frozen? ⟨n + 1 + 1, 0, none⟩ = false
  fr1 : W.frozen? ⟨n + 1 + 1, 1, none⟩ = false
  ft0 : W.frozen? ⟨n + 1 + 1 + 1, 0, none⟩ = false
  ft1 : W.frozen? ⟨n + 1 + 1 + 1, 1, none⟩ = false
  ft2 : W.frozen? ⟨n + 1 + 1 + 1, 2, none⟩ = false
  fs0 : W.frozen? ⟨a6, 0, none⟩ = false
  fs1 : W.frozen? ⟨a6, 1, none⟩ = false
  fu0 : W.frozen? ⟨a7, 0, none⟩ = false
  fu1 : W.frozen? ⟨a7, 1, none⟩ = false
  fu2 : W.frozen? ⟨a7, 2, none⟩ = false
  z : n + 1 + 1 + 1 + 1 + 1 < W.heap.size
  o : (a6 = n + 1 + 1 + 1 + 1 ∧ a7 = n + 1 + 1 + 1 + 1 + 1) ∨ (a7 = n + 1 + 1 + 1 + 1 ∧ a6 = n + 1 + 1 + 1 + 1 + 1)
set_option maxHeartbeats 400000 in
theorem OutSt.below {W W' : World} {n a6 a7 : Nat} {g k m : Int} {key val : ByteArray} {x : W3} (h : OutSt W n a6 a7 g k m key val x) (hb : Below W.heap.size W W') : OutSt W' n a6 a7 g k m key val x := by
  have hc : ∀ (b o : Nat), b < W.heap.size → W'.cell? ⟨b, o, none⟩ = W.cell? ⟨b, o, none⟩ := fun b o hl => hb.cell (p := ⟨b, o, none⟩) hl
  have hf : ∀ (b o : Nat), b < W.heap.size → W'.frozen? ⟨b, o, none⟩ = W.frozen? ⟨b, o, none⟩ := fun b o hl => hb.frozen (p := ⟨b, o, none⟩) hl
  have hs := hb.size
  obtain ⟨p0, p1, p2, p3, p4, x0, x1, x2, r0, r1, t0, t1, t2, s0, s1, u0, u1, u2, fr0, fr1, ft0, ft1, ft2, fs0, fs1, fu0, fu1, fu2, z, o⟩ := h
  have l6 : a6 < W.heap.size := by omega
  have l7 : a7 < W.heap.size := by omega
  exact ⟨(hc _ _ (by omega)).trans p0, (hc _ _ (by omega)).trans p1, (hc _ _ (by omega)).trans p2, (hc _ _ (by omega)).trans p3, (hc _ _ (by omega)).trans p4, (hc _ _ (by omega)).trans x0, (hc _ _ (by omega)).trans x1, (hc _ _ (by omega)).trans x2, (hc _ _ (by omega)).trans r0, (hc _ _ (by omega)).trans r1, (hc _ _ (by omega)).trans t0, (hc _ _ (by omega)).trans t1, (hc _ _ (by omega)).trans t2, (hc _ _ (by omega)).trans s0, (hc _ _ (by omega)).trans s1, (hc _ _ (by omega)).trans u0, (hc _ _ (by omega)).trans u1, (hc _ _ (by omega)).trans u2, (hf _ _ (by omega)).trans fr0, (hf _ _ (by omega)).trans fr1, (hf _ _ (by omega)).trans ft0, (hf _ _ (by omega)).trans ft1, (hf _ _ (by omega)).trans ft2, (hf _ _ (by omega)).trans fs0, (hf _ _ (by omega)).trans fs1, (hf _ _ (by omega)).trans fu0, (hf _ _ (by omega)).trans fu1, (hf _ _ (by omega)).trans fu2, by omega, o⟩
theorem wp_cutO {P : Program} {code : Code} {Q : Exit → Act → World → Prop} {a0 : Act} {w0 : World} (R : Act → Act → World → Prop) (h : code.wp P (fun e a w => e = .normal ∧ R a0 a w) a0 w0) (hk : ∀ a w, R a0 a w → Q .normal a w) : code.wp P Q a0 w0 :=
  Code.wp_mono (fun e a w h => by obtain ⟨rfl, h⟩ := h; exact hk a w h) h
/-- behind the making of res and then. -/
def AtO (w : World) (g k m : Int) (key val : ByteArray) (x : W3) (a0 a : Act) (W : World) : Prop :=
  ∃ (a6 a7 : Nat), a = (((a0.put (some 11) (.agg #[.int .u8 0, .string ByteArray.empty])).put (some 12) (.agg #[.string x.key, .string x.val, .bool x.has])).put (some 6) (.pointer (some ⟨a6, 0, none⟩))).put (some 7) (.pointer (some ⟨a7, 0, none⟩)) ∧
    Hid (OutSt W w.heap.size a6 a7 g k m key val x) ∧ Hid (Below w.heap.size w W)
theorem newSt (W W' : World) (n : Nat) (cs : Array Value) (t : TypeId) (hn : W.heap.size = n) (hb : Below (n + 1) (W.alloc (.cells cs t)) W') :
    (∀ j, W'.cell? ⟨n, j, none⟩ = cs[j]?) ∧ ∀ j, W'.frozen? ⟨n, j, none⟩ = false := by
  subst hn
  exact ⟨fun j => (hb.cell (p := ⟨W.heap.size, j, none⟩) (by simp)).trans (new_cellW W cs t j _ rfl), fun j => (hb.frozen (p := ⟨W.heap.size, j, none⟩) (by simp)).trans (World.frozen?_alloc_new _ _ _ _)⟩
theorem sixB (w : World) (c0 c1 c2 c3 c4 c5 : Array Value) (t0 t1 t2 t3 t4 t5 : TypeId) (n : Nat) (hn : w.heap.size = n) (W : World) (hW : W = ((((((w.alloc (.cells c0 t0)).alloc (.cells c1 t1)).alloc (.cells c2 t2)).alloc (.cells c3 t3)).alloc (.cells c4 t4)).alloc (.cells c5 t5)).drew) :
    ((∀ j, W.cell? ⟨n, j, none⟩ = c0[j]?) ∧ ∀ j, W.frozen? ⟨n, j, none⟩ = false) ∧
    ((∀ j, W.cell? ⟨n + 1, j, none⟩ = c1[j]?) ∧ ∀ j, W.frozen? ⟨n + 1, j, none⟩ = false) ∧
    ((∀ j, W.cell? ⟨n + 1 + 1, j, none⟩ = c2[j]?) ∧ ∀ j, W.frozen? ⟨n + 1 + 1, j, none⟩ = false) ∧
    ((∀ j, W.cell? ⟨n + 1 + 1 + 1, j, none⟩ = c3[j]?) ∧ ∀ j, W.frozen? ⟨n + 1 + 1 + 1, j, none⟩ = false) ∧
    ((∀ j, W.cell? ⟨n + 1 + 1 + 1 + 1, j, none⟩ = c4[j]?) ∧ ∀ j, W.frozen? ⟨n + 1 + 1 + 1 + 1, j, none⟩ = false) ∧
    ((∀ j, W.cell? ⟨n + 1 + 1 + 1 + 1 + 1, j, none⟩ = c5[j]?) ∧ ∀ j, W.frozen? ⟨n + 1 + 1 + 1 + 1 + 1, j, none⟩ = false) ∧ n + 1 + 1 + 1 + 1 + 1 < W.heap.size ∧ Below n w W := by
  subst hW
  subst hn
  refine ⟨newSt w _ _ c0 t0 rfl ?_, newSt (w.alloc (.cells c0 t0)) _ _ c1 t1 (by simp) ?_, newSt ((w.alloc (.cells c0 t0)).alloc (.cells c1 t1)) _ _ c2 t2 (by simp) ?_, newSt (((w.alloc (.cells c0 t0)).alloc (.cells c1 t1)).alloc (.cells c2 t2)) _ _ c3 t3 (by simp) ?_, newSt ((((w.alloc (.cells c0 t0)).alloc (.cells c1 t1)).alloc (.cells c2 t2)).alloc (.cells c3 t3)) _ _ c4 t4 (by simp) ?_, newSt (((((w.alloc (.cells c0 t0)).alloc (.cells c1 t1)).alloc (.cells c2 t2)).alloc (.cells c3 t3)).alloc (.cells c4 t4)) _ _ c5 t5 (by simp) ?_, by simp [World.drew], ?_⟩
  all_goals repeat (first | (with_reducible exact Below.refl _ _) | (with_reducible refine Below.drew ?_) | (with_reducible refine Below.alloc ?_ (by first | (simp; done) | (simp; omega)) _))
theorem atO_a (w : World) (g k m : Int) (key val : ByteArray) (x : W3) (W : World) (hW : W = ((((((w.alloc (.cells #[.int .u8 g, .int .u8 k, .string key, .string val, .int .i64 m] 37)).alloc (.cells #[.string x.key, .string x.val, .bool x.has] 75)).alloc (.cells #[.int .u8 0, .string ByteArray.empty] 33)).alloc (.cells #[.string ByteArray.empty, .string ByteArray.empty, .bool false] 75)).alloc (.cells #[.int .u8 0, .string ByteArray.empty] 33)).alloc (.cells #[.string x.key, .string x.val, .bool x.has] 75)).drew) :
    Hid (OutSt W w.heap.size (w.heap.size + 1 + 1 + 1 + 1) (w.heap.size + 1 + 1 + 1 + 1 + 1) g k m key val x) ∧ Hid (Below w.heap.size w W) := by
  obtain ⟨⟨a, fa⟩, ⟨b, fb⟩, ⟨c, fc⟩, ⟨d, fd⟩, ⟨e, fe⟩, ⟨f, ff⟩, hz, hB⟩ := sixB w _ _ _ _ _ _ _ _ _ _ _ _ _ rfl W hW
  exact ⟨Lib.hid ⟨a 0, a 1, a 2, a 3, a 4, b 0, b 1, b 2, c 0, c 1, d 0, d 1, d 2, e 0, e 1, f 0, f 1, f 2, fc 0, fc 1, fd 0, fd 1, fd 2, fe 0, fe 1, ff 0, ff 1, ff 2, hz, .inl ⟨rfl, rfl⟩⟩, Lib.hid hB⟩
theorem atO_b (w : World) (g k m : Int) (key val : ByteArray) (x : W3) (W : World) (hW : W = ((((((w.alloc (.cells #[.int .u8 g, .int .u8 k, .string key, .string val, .int .i64 m] 37)).alloc (.cells #[.string x.key, .string x.val, .bool x.has] 75)).alloc (.cells #[.int .u8 0, .string ByteArray.empty] 33)).alloc (.cells #[.string ByteArray.empty, .string ByteArray.empty, .bool false] 75)).alloc (.cells #[.string x.key, .string x.val, .bool x.has] 75)).alloc (.cells #[.int .u8 0, .string ByteArray.empty] 33)).drew) :
    Hid (OutSt W w.heap.size (w.heap.size + 1 + 1 + 1 + 1 + 1) (w.heap.size + 1 + 1 + 1 + 1) g k m key val x) ∧ Hid (Below w.heap.size w W) := by
  obtain ⟨⟨a, fa⟩, ⟨b, fb⟩, ⟨c, fc⟩, ⟨d, fd⟩, ⟨f, ff⟩, ⟨e, fe⟩, hz, hB⟩ := sixB w _ _ _ _ _ _ _ _ _ _ _ _ _ rfl W hW
  exact ⟨Lib.hid ⟨a 0, a 1, a 2, a 3, a 4, b 0, b 1, b 2, c 0, c 1, d 0, d 1, d 2, e 0, e 1, f 0, f 1, f 2, fc 0, fc 1, fd 0, fd 1, fd 2, fe 0, fe 1, ff 0, ff 1, ff 2, hz, .inr ⟨rfl, rfl⟩⟩, Lib.hid hB⟩
/-- what a right part comes to. -/
def outN (k m : Int) (key val : ByteArray) (x : W3) : Int × ByteArray × W3 :=
  if k = 0 then (0, x.val, x) else if k = 1 then (0, ByteArray.mk #[], ⟨key, val, true⟩) else if k = 4 then (0, x.val, ⟨key, ByteArray.mk #[], false⟩) else
  if (plusN x (if k = 3 then -m else m)).2 = false then (2, ByteArray.mk #[], x) else
  if k = 3 ∧ (plusN x (if k = 3 then -m else m)).1 < 0 then (1, ByteArray.mk #[], x) else
  (0, digN (plusN x (if k = 3 then -m else m)).1, ⟨key, digN (plusN x (if k = 3 then -m else m)).1, true⟩)
def OutP (w : World) (k m : Int) (key val : ByteArray) (x : W3) (e : Ending) (w' : World) : Prop :=
  ∃ (c : Int) (v : ByteArray) (t : W3), e = .returned (.tuple #[.agg #[.int .u8 c, .string v], .agg #[.string t.key, .string t.val, .bool t.has]]) ∧ outN k m key val x = (c, v, t) ∧ Below w.heap.size w w'

theorem plusN_bd (x : W3) (n : Int) : -9223372036854775808 ≤ (plusN x n).1 ∧ (plusN x n).1 ≤ 9223372036854775807 := by
  unfold plusN
  split
  · show _ ≤ wrap64 _ ∧ wrap64 _ ≤ _
    unfold wrap64
    omega
  · decide

end Go.Proofs.YthmdnbgfnaokkaaDoor
