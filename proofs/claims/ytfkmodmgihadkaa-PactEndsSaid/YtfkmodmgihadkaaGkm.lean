/-
  Processes as keys of a map, and the map of those who have counted: look up, put, empty, count. Condition: each number fits its kind.
-/
import Derived.Test.YtfkmodmgihadkaaGda
import Derived.Handy
namespace Go.Proofs.Ytfkmodmgihadkaa
set_option linter.unusedSimpArgs false
set_option linter.unusedVariables false
open Go.RowKit Go.Maps Go.Sort Go.ChangeMaps Go.MapKept
open V (P2)

theorem keyLaidOut : laidOutB Try.prog = true := by kernel_rfl
theorem prRow : (54 : TypeId) < Try.prog.types.size := of_decide_eq_true (by kernel_rfl)
theorem prWide : (match Try.prog.underlying 54 with | some (.array _ _) | some (.struct _) => true | _ => false) = true := by kernel_rfl
set_option maxRecDepth 100000 in
theorem prKeyed : Keyed Try.prog 54 := Keyed.of_law (deep_law_laid keyLaidOut (m := 2) (by omega) prRow (by kernel_rfl) prWide)
theorem wf_u8 {n : Int} (h : 0 ≤ n ∧ n ≤ 255) : (Lit.int .u8 n).wf = true := by
  simp [Lit.wf, IntKind.min, IntKind.max, IntKind.signed, IntKind.bits]
  omega
theorem wf_u16 {n : Int} (h : 0 ≤ n ∧ n ≤ 65535) : (Lit.int .u16 n).wf = true := by
  simp [Lit.wf, IntKind.min, IntKind.max, IntKind.signed, IntKind.bits]
  omega
/-- its numbers fit their kinds. -/
def Rg2 (x : P2) : Prop := (0 ≤ x.n ∧ x.n ≤ 255) ∧ (0 ≤ x.l ∧ x.l ≤ 65535)
def lit2 (x : P2) : Lit := .string (keyBytes [.int .u8 x.n, .int .u16 x.l])
set_option maxRecDepth 100000 in
set_option maxHeartbeats 1000000 in
theorem prKey (x : P2) (h : Rg2 x) : keyOf Try.prog 54 (.agg #[.int .u8 x.n, .int .u16 x.l]) = some (lit2 x) := by
  have hk : Try.prog.keyType 54 = true := by kernel_rfl
  obtain ⟨m, hs⟩ : ∃ m, Try.prog.types.size = m + 1 + 1 + 1 := ⟨Try.prog.types.size - 3, by kernel_rfl⟩
  have hC24 : Try.prog.cellsOf 54 = 2 := by kernel_rfl
  have hC5 : Try.prog.cellsOf 5 = 1 := by kernel_rfl
  have hC22 : Try.prog.cellsOf 52 = 1 := by kernel_rfl
  obtain ⟨h0, h1⟩ := h
  have w0 := wf_u8 h0
  have w1 := wf_u16 h1
  have k5 : ∀ (d : Nat) (v : Int), (Lit.int .u8 v).wf = true → Try.prog.keyLits (d + 1) 5 [.int .u8 v] = some [.int .u8 v] := fun d v hv => by simp [Program.keyLits, Try.underlying5, hv]
  have k22 : ∀ (d : Nat) (v : Int), (Lit.int .u16 v).wf = true → Try.prog.keyLits (d + 1) 52 [.int .u16 v] = some [.int .u16 v] := fun d v hv => by simp [Program.keyLits, Try.underlying52, hv]
  have hls : Try.prog.keyLits (m + 1 + 1 + 1 + 1) 54 [.int .u8 x.n, .int .u16 x.l] = some [.int .u8 x.n, .int .u16 x.l] := by
    unfold Program.keyLits
    rw [Try.underlying54]
    dsimp only
    rw [if_pos ⟨by rw [hC24]; rfl, by kernel_rfl⟩]
    simp [hC5, hC22, k5 _ _ w0, k22 _ _ w1]
  have hf : Value.formed Try.prog 54 (.agg #[.int .u8 x.n, .int .u16 x.l]) = true := by simp [Value.formed, Try.underlying54, hC24]
  unfold keyOf
  rw [Try.underlying54]
  simp only [hk, hs, hf, Bool.and_self, if_true, Value.cells]
  rw [hls]
  rfl
theorem lit2_inj {x y : P2} (hx : Rg2 x) (hy : Rg2 y) (h : lit2 x = lit2 y) : x = y := by
  have e := prKeyed.inj (prKey x hx) (h ▸ prKey y hy)
  injection e with e
  obtain ⟨n, l⟩ := x
  obtain ⟨n', l'⟩ := y
  simp at e
  simp [e]
theorem lt_maxLen {n : Nat} (h : n ≤ 1000) : n < maxLen := by
  unfold maxLen
  omega
theorem unitZero (W : World) : (zeroValue 76).run Try.prog W = .ok (.agg #[]) W := by kernel_rfl
theorem mapP : Try.prog.underlying 71 = some (.map 54 76) := Try.underlying71

/-- the map has just these. -/
structure MapC (D : DataW Unit) (C : List P2) : Prop where
  nodup : C.Nodup
  rng : ∀ x ∈ C, Rg2 x
  all : ∀ kl, has D kl = true → ∃ x ∈ C, kl = lit2 x
  has_ : ∀ x ∈ C, has D (lit2 x) = true
  size : Maps.size D = C.length
theorem MapC.nil : MapC (.map []) [] := ⟨List.nodup_nil, (fun _ h => by cases h), (fun kl h => by cases h), (fun _ h => by cases h), rfl⟩
theorem MapC.iff {D : DataW Unit} {C : List P2} (h : MapC D C) (x : P2) (rx : Rg2 x) : has D (lit2 x) = decide (x ∈ C) := by
  by_cases hx : x ∈ C
  · rw [h.has_ x hx, decide_eq_true hx]
  · rw [decide_eq_false hx]
    cases hh : has D (lit2 x) with
    | false => rfl
    | true =>
      obtain ⟨y, hy, e⟩ := h.all _ hh
      exact absurd ((lit2_inj rx (h.rng y hy) e) ▸ hy) hx
theorem MapC.put {D : DataW Unit} {C : List P2} (h : MapC D C) (hT : Tidy D) (hI : IsMap D) (x : P2) (rx : Rg2 x) (hn : x ∉ C) : MapC (D.put (lit2 x) (.agg [])) (C ++ [x]) := by
  have hkey := prKeyed.key (prKey x rx)
  have hm : ∀ {y}, y ∈ C ++ [x] → y ∈ C ∨ y = x := fun hy => by simpa using hy
  have hne : ∀ y ∈ C, lit2 y ≠ lit2 x := fun y hy e => hn ((lit2_inj (h.rng y hy) rx e) ▸ hy)
  refine ⟨List.nodup_append.2 ⟨h.nodup, by simp, fun y hy z hz e => ?_⟩, fun y hy => ?_, fun kl hkl => ?_, fun y hy => ?_, ?_⟩
  · obtain rfl : z = x := by simpa using hz
    exact hn (e ▸ hy)
  · rcases hm hy with hy | rfl
    · exact h.rng y hy
    · exact rx
  · by_cases e : kl = lit2 x
    · exact ⟨x, by simp, e⟩
    · rw [has_put_other e] at hkl
      obtain ⟨y, hy, ey⟩ := h.all kl hkl
      exact ⟨y, List.mem_append_left _ hy, ey⟩
  · rcases hm hy with hy | rfl
    · rw [has_put_other (hne y hy)]
      exact h.has_ y hy
    · exact has_put_same hI hkey _
  · have e1 : has D (lit2 x) = false := by rw [h.iff x rx]; simpa using hn
    rw [size_put hT, h.size, e1]
    simp

/-- the map in memory: block m; n bounds what was ever put. -/
def CtAt (W : World) (m : Nat) (C : List P2) : Prop := ∃ (nn : Nat) (D : DataW Unit), nn ≤ C.length ∧ W.ownsMap Try.prog 54 unitElem m nn D ∧ MapC D C
theorem CtAt.lt {W : World} {m : Nat} {C : List P2} (h : CtAt W m C) : ∃ es clock, W.heap[m]? = some (.map es clock) := by
  obtain ⟨nn, D, _, ⟨es, cl, hm, _⟩, _⟩ := h
  exact ⟨es, cl, hm⟩
theorem CtAt.keep {W W' : World} {m : Nat} {C : List P2} (h : CtAt W m C) (k : W'.heap[m]? = W.heap[m]?) : CtAt W' m C := by
  obtain ⟨nn, D, hk, ⟨es, cl, hm, F, hs, hD⟩, M⟩ := h
  exact ⟨nn, D, hk, ⟨es, cl, k.trans hm, F, hs, hD⟩, M⟩
theorem CtAt.made (w : World) : CtAt (w.alloc (.map #[] 0)) w.heap.size [] := ⟨0, .map [], Nat.le_refl _, World.ownsMap_made w _ _ _, MapC.nil⟩
theorem CtAt.look {W : World} {m : Nat} {C : List P2} (h : CtAt W m C) (x : P2) (rx : Rg2 x) :
    ∃ es clock, W.heap[m]? = some (.map es clock) ∧ ∀ W' : World, W'.heap[m]? = some (.map es clock) → (Instr.lookup 71 (.map (some m)) (.agg #[.int .u8 x.n, .int .u16 x.l]) true).run Try.prog W' = .ok (.tuple #[.agg #[], .bool (decide (x ∈ C))]) W' := by
  obtain ⟨nn, D, _, ⟨es, clock, hb, F, hs, hD⟩, M⟩ := h
  refine ⟨es, clock, hb, fun W' hW => ?_⟩
  have hown : W'.ownsMap Try.prog 54 unitElem m nn D := ⟨es, clock, hW, F, hs, hD⟩
  obtain ⟨v, ps, hrun, hv⟩ := hown.look_ok prKeyed mapP (unitZero W') unitElem_mk (prKey x rx)
  obtain ⟨rfl, _⟩ := unitElem_inv hv
  rw [← M.iff x rx]
  exact hrun
theorem CtAt.len {W : World} {m : Nat} {C : List P2} (h : CtAt W m C) (ty : TypeId) : (Builtin.len_ #[71] ty #[.map (some m)]).run Try.prog W = .ok (.int .i64 C.length) W := by
  obtain ⟨nn, D, _, O, M⟩ := h
  rw [← M.size]
  exact O.len mapP ty
theorem CtAt.put {W : World} {m : Nat} {C : List P2} (h : CtAt W m C) (x : P2) (rx : Rg2 x) (hn : x ∉ C) (hl : C.length ≤ 1000) :
    ∃ W', (Instr.mapUpdate 71 (.map (some m)) (.agg #[.int .u8 x.n, .int .u16 x.l]) (.agg #[])).run Try.prog W = .ok () W' ∧ CtAt W' m (C ++ [x]) ∧ KP (fun k => k = m) W W' := by
  obtain ⟨nn, D, hnn, O, M⟩ := h
  have hT := O.tidy prKeyed
  have hI := O.isMap
  obtain ⟨W', hrun, O', ht⟩ := O.store prKeyed mapP (lt_maxLen (Nat.le_trans hnn hl)) (prKey x rx) unitElem_mk
  have hm := M.put hT hI x rx hn
  have hk : KP (fun k => k = m) W W' := KP.grown ht.grown fun k e => (Option.some.inj e).symm
  have hz : nn + 1 ≤ (C ++ [x]).length := by
    rw [List.length_append]
    exact Nat.succ_le_succ hnn
  exact ⟨W', hrun, ⟨nn + 1, _, hz, O', hm⟩, hk⟩
theorem CtAt.clear {W : World} {m : Nat} {C : List P2} (h : CtAt W m C) (ty : TypeId) :
    ∃ W', (Builtin.clear_ #[71] ty #[.map (some m)]).run Try.prog W = .ok (.tuple #[]) W' ∧ CtAt W' m [] ∧ KP (fun k => k = m) W W' := by
  obtain ⟨nn, D, hnn, ⟨es, clock, hb, F, hs, hD⟩, M⟩ := h
  refine ⟨setBlock W m (.map #[] clock), ?_, ⟨0, .map [], Nat.le_refl _, ⟨#[], clock, heap_setBlock_same hb _, ⟨by simp, stamped_empty clock, by simp⟩, Nat.le_refl _, rfl⟩, MapC.nil⟩, ⟨rfl, rfl, rfl, by simp [setBlock], fun i _ hi => heap_setBlock_other hb _ hi⟩⟩
  simp [Builtin.clear_, run_underlying mapP, Go.MapKept.run_getObj_map hb, Go.MapKept.run_setObj_map _ hb, Result.andThen, setBlock]

end Go.Proofs.Ytfkmodmgihadkaa
