/-
  A Set with a map: Has and Len, by contracts. Condition: each number fits its kind.
-/
import Derived.Test.YtehkofeokccdeaaKey
import Derived.Test.YtehkofeokccdeaaHas
namespace Go.Proofs.Ytehkofeokccdeaa
set_option linter.unusedSimpArgs false
set_option linter.unusedVariables false
open Go.RowKit Go.Maps

theorem unitZero (W : World) : (zeroValue 69).run Try.prog W = .ok (.agg #[]) W := by kernel_rfl

/-- A look-up in the set's map, in every world where the map is as it is. -/
theorem lookSet {H : Type} {bm nn : Nat} {D : DataW H} {w : World} (x : I10) (rx : x.Rng) (h : w.ownsMap Try.prog 48 unitElem bm nn D) :
    ∃ es clock, w.heap[bm]? = some (.map es clock) ∧ ∀ W : World, W.heap[bm]? = some (.map es clock) → (Instr.lookup 66 (.map (some bm)) (.agg #[.int .u8 x.n, .int .u16 x.l, .int .u32 x.s, .int .u8 x.d, .int .u8 x.a0, .int .u8 x.a1, .int .u8 x.b0, .int .u8 x.b1, .int .u8 x.c0, .int .u8 x.c1]) true).run Try.prog W = .ok (.tuple #[.agg #[], .bool (Maps.has D x.lit)]) W := by
  obtain ⟨es, clock, hb, F, hs, hD⟩ := h
  refine ⟨es, clock, hb, fun W hW => ?_⟩
  have hown : W.ownsMap Try.prog 48 unitElem bm nn D := ⟨es, clock, hW, F, hs, hD⟩
  obtain ⟨v, ps, hrun, hv⟩ := hown.look_ok idKeyed Try.underlying66 (unitZero W) unitElem_mk (idKey x rx)
  obtain ⟨rfl, _⟩ := unitElem_inv hv
  exact hrun

set_option maxRecDepth 100000 in
set_option maxHeartbeats 1000000 in
theorem hasSet {H : Type} (b bm nn : Nat) (D : DataW H) (x : I10) (rx : x.Rng) (w : World) (hc1 : w.cell? ⟨b, 1, none⟩ = some (.map (some bm))) (hown : w.ownsMap Try.prog 48 unitElem bm nn D) :
    Calls Try.prog 13 #[.pointer (some ⟨b, 0, none⟩), .agg #[.int .u8 x.n, .int .u16 x.l, .int .u32 x.s, .int .u8 x.d, .int .u8 x.a0, .int .u8 x.a1, .int .u8 x.b0, .int .u8 x.b1, .int .u8 x.c0, .int .u8 x.c1]] w fun e w' => e = .returned (.bool (Maps.has D x.lit)) ∧ Below w.heap.size w w' := by
  have hl := World.block_lt_of_cell? w _ hc1
  obtain ⟨es, clock, hb, hlk⟩ := lookSet x rx hown
  have hbm : bm < w.heap.size := (Array.getElem?_eq_some_iff.1 hb).1
  have ha : ∀ o, (w.alloc o).heap[bm]? = some (.map es clock) := fun o => (Below.heap_alloc w o bm hbm).trans hb
  have ha2 : ∀ o o2, ((w.alloc o).alloc o2).heap[bm]? = some (.map es clock) := fun o o2 => (Below.heap_alloc _ o2 bm (by simp; omega)).trans (ha o)
  have had : ∀ o, (w.alloc o).drew.heap[bm]? = some (.map es clock) := fun o => ha o
  have ha2d : ∀ o o2, ((w.alloc o).alloc o2).drew.heap[bm]? = some (.map es clock) := fun o o2 => ha2 o o2
  generalize Maps.has D x.lit = r at hlk ⊢
  clear hown
  go_enter Try.func13, Try.ntmps13
  go_wp2
  go_region_held3 (fun w' => w'.heap[bm]? = some (.map es clock) ∧ w'.cell? ⟨b, 1, none⟩ = some (.map (some bm)) ∧ w'.cell? ⟨w.heap.size, 0, none⟩ = some (.int .u8 x.n) ∧ w'.cell? ⟨w.heap.size, 1, none⟩ = some (.int .u16 x.l) ∧ w'.cell? ⟨w.heap.size, 2, none⟩ = some (.int .u32 x.s) ∧ w'.cell? ⟨w.heap.size, 3, none⟩ = some (.int .u8 x.d) ∧ w'.cell? ⟨w.heap.size, 4, none⟩ = some (.int .u8 x.a0) ∧ w'.cell? ⟨w.heap.size, 5, none⟩ = some (.int .u8 x.a1) ∧ w'.cell? ⟨w.heap.size, 6, none⟩ = some (.int .u8 x.b0) ∧ w'.cell? ⟨w.heap.size, 7, none⟩ = some (.int .u8 x.b1) ∧ w'.cell? ⟨w.heap.size, 8, none⟩ = some (.int .u8 x.c0) ∧ w'.cell? ⟨w.heap.size, 9, none⟩ = some (.int .u8 x.c1)) ((first | (refine ⟨by first | exact had _ | exact ha2d _ _ | exact ha _ | exact ha2 _ _, ?_⟩; simp [hl, hc1]; done) | (go_simp; done) | go_keep)) (fail)
  all_goals go_wp2
  all_goals go_ret
  all_goals exact ⟨rfl, (by repeat (first | (with_reducible exact Below.refl _ _) | (with_reducible refine Below.setCell ?_ (by first | (simp; done) | (simp; omega)) _) | (with_reducible refine Below.drew ?_) | (with_reducible refine Below.alloc ?_ (by first | (simp; done) | (simp; omega)) _)))⟩

set_option maxHeartbeats 1000000 in
theorem lenSet {H : Type} (b bm nn : Nat) (D : DataW H) (w : World) (hc1 : w.cell? ⟨b, 1, none⟩ = some (.map (some bm))) (hown : w.ownsMap Try.prog 48 unitElem bm nn D) :
    Calls Try.prog 19 #[.pointer (some ⟨b, 0, none⟩)] w fun e w' => e = .returned (.int .i64 (Maps.size D)) ∧ w = w' := by
  have hl := World.block_lt_of_cell? w _ hc1
  have hlen := fun ty => hown.len Try.underlying66 ty
  generalize Maps.size D = r at hlen ⊢
  clear hown
  go_enter Try.func19, Try.ntmps19
  go_wp2
  go_ret
  exact ⟨rfl, rfl⟩

end Go.Proofs.Ytehkofeokccdeaa
