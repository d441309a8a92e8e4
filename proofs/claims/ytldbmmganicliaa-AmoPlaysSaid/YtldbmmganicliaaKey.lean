/-
  Identifiers of the program as keys of a map: the law of their kind; each has its literal. Condition: each number fits its kind.
-/
import Derived.Test.YtldbmmganicliaaFnd
import Derived.DeepKeys4
import Derived.Maps.OwnSet
namespace Go.Proofs.Ytldbmmganicliaa
set_option linter.unusedSimpArgs false
set_option linter.unusedVariables false
open Go.RowKit Go.Maps

theorem idLaidOut : laidOutB Try.prog = true := by kernel_rfl
theorem idRow : (37 : TypeId) < Try.prog.types.size := of_decide_eq_true (by kernel_rfl)
theorem idWide : (match Try.prog.underlying 37 with | some (.array _ _) | some (.struct _) => true | _ => false) = true := by kernel_rfl
set_option maxRecDepth 100000 in
theorem idKeyed : Keyed Try.prog 37 := Keyed.of_law (deep_law_laid idLaidOut (m := 4) (by omega) idRow (by kernel_rfl) idWide)
theorem wf_u8 {n : Int} (h : 0 ≤ n ∧ n ≤ 255) : (Lit.int .u8 n).wf = true := by
  simp [Lit.wf, IntKind.min, IntKind.max, IntKind.signed, IntKind.bits]
  omega
theorem wf_u16 {n : Int} (h : 0 ≤ n ∧ n ≤ 65535) : (Lit.int .u16 n).wf = true := by
  simp [Lit.wf, IntKind.min, IntKind.max, IntKind.signed, IntKind.bits]
  omega
theorem wf_u32 {n : Int} (h : 0 ≤ n ∧ n ≤ 4294967295) : (Lit.int .u32 n).wf = true := by
  simp [Lit.wf, IntKind.min, IntKind.max, IntKind.signed, IntKind.bits]
  omega
/-- an identifier's literal, as a key. -/
def I10.lits (x : I10) : List Lit := [.int .u8 x.n, .int .u16 x.l, .int .u32 x.s, .int .u8 x.d, .int .u8 x.a0, .int .u8 x.a1, .int .u8 x.b0, .int .u8 x.b1, .int .u8 x.c0, .int .u8 x.c1]
def I10.lit (x : I10) : Lit := .string (keyBytes x.lits)
set_option maxRecDepth 100000 in
set_option maxHeartbeats 1000000 in
theorem idKey (x : I10) (h : x.Rng) : keyOf Try.prog 37 (.agg #[.int .u8 x.n, .int .u16 x.l, .int .u32 x.s, .int .u8 x.d, .int .u8 x.a0, .int .u8 x.a1, .int .u8 x.b0, .int .u8 x.b1, .int .u8 x.c0, .int .u8 x.c1]) = some x.lit := by
  have hk : Try.prog.keyType 37 = true := by kernel_rfl
  obtain ⟨m, hs⟩ : ∃ m, Try.prog.types.size = m + 1 + 1 + 1 + 1 := ⟨Try.prog.types.size - 4, by kernel_rfl⟩
  have hC : Try.prog.cellsOf 37 = 10 := by kernel_rfl
  have hC24 : Try.prog.cellsOf 31 = 2 := by kernel_rfl
  have hC25 : Try.prog.cellsOf 32 = 1 := by kernel_rfl
  have hC5 : Try.prog.cellsOf 5 = 1 := by kernel_rfl
  have hC22 : Try.prog.cellsOf 29 = 1 := by kernel_rfl
  have hC28 : Try.prog.cellsOf 35 = 6 := by kernel_rfl
  have hC27 : Try.prog.cellsOf 34 = 2 := by kernel_rfl
  have hr : List.range 3 = [0, 1, 2] := rfl
  obtain ⟨h0, h1, h2, h3, h4, h5, h6, h7, h8, h9⟩ := h
  have w0 := wf_u8 h0
  have w1 := wf_u16 h1
  have w2 := wf_u32 h2
  have w3 := wf_u8 h3
  have w4 := wf_u8 h4
  have w5 := wf_u8 h5
  have w6 := wf_u8 h6
  have w7 := wf_u8 h7
  have w8 := wf_u8 h8
  have w9 := wf_u8 h9
  have k5 : ∀ (d : Nat) (v : Int), (Lit.int .u8 v).wf = true → Try.prog.keyLits (d + 1) 5 [.int .u8 v] = some [.int .u8 v] := fun d v hv => by simp [Program.keyLits, Try.underlying5, hv]
  have k22 : ∀ (d : Nat) (v : Int), (Lit.int .u16 v).wf = true → Try.prog.keyLits (d + 1) 29 [.int .u16 v] = some [.int .u16 v] := fun d v hv => by simp [Program.keyLits, Try.underlying29, hv]
  have k25 : ∀ (d : Nat) (v : Int), (Lit.int .u32 v).wf = true → Try.prog.keyLits (d + 1) 32 [.int .u32 v] = some [.int .u32 v] := fun d v hv => by simp [Program.keyLits, Try.underlying32, hv]
  have k24 : ∀ (d : Nat) (u v : Int), (Lit.int .u8 u).wf = true → (Lit.int .u16 v).wf = true → Try.prog.keyLits (d + 1 + 1) 31 [.int .u8 u, .int .u16 v] = some [.int .u8 u, .int .u16 v] := fun d u v hu hv => by
    unfold Program.keyLits
    rw [Try.underlying31]
    dsimp only
    rw [if_pos ⟨by rw [hC24]; rfl, by kernel_rfl⟩]
    simp [hC5, hC22, k5 d u hu, k22 d v hv]
  have k27 : ∀ (d : Nat) (u v : Int), (Lit.int .u8 u).wf = true → (Lit.int .u8 v).wf = true → Try.prog.keyLits (d + 1 + 1) 34 [.int .u8 u, .int .u8 v] = some [.int .u8 u, .int .u8 v] := fun d u v hu hv => by
    unfold Program.keyLits
    rw [Try.underlying34]
    dsimp only
    rw [if_pos ⟨by rw [hC27]; rfl, by kernel_rfl⟩]
    simp [hC5, k5 d u hu, k5 d v hv]
  have k28 : Try.prog.keyLits (m + 1 + 1 + 1 + 1) 35 [.int .u8 x.a0, .int .u8 x.a1, .int .u8 x.b0, .int .u8 x.b1, .int .u8 x.c0, .int .u8 x.c1] = some [.int .u8 x.a0, .int .u8 x.a1, .int .u8 x.b0, .int .u8 x.b1, .int .u8 x.c0, .int .u8 x.c1] := by
    unfold Program.keyLits
    rw [Try.underlying35]
    dsimp only
    rw [if_pos (by rw [hC28]; rfl), hr]
    simp [hC27, k27 _ _ _ w4 w5, k27 _ _ _ w6 w7, k27 _ _ _ w8 w9]
  have hls : Try.prog.keyLits (m + 1 + 1 + 1 + 1 + 1) 37 [.int .u8 x.n, .int .u16 x.l, .int .u32 x.s, .int .u8 x.d, .int .u8 x.a0, .int .u8 x.a1, .int .u8 x.b0, .int .u8 x.b1, .int .u8 x.c0, .int .u8 x.c1] = some x.lits := by
    unfold Program.keyLits
    rw [Try.underlying37]
    dsimp only
    rw [if_pos ⟨by rw [hC]; rfl, by kernel_rfl⟩]
    simp [hC24, hC25, hC5, hC28, k24 _ _ _ w0 w1, k25 _ _ w2, k5 _ _ w3, k28, I10.lits]
  have hf : Value.formed Try.prog 37 (.agg #[.int .u8 x.n, .int .u16 x.l, .int .u32 x.s, .int .u8 x.d, .int .u8 x.a0, .int .u8 x.a1, .int .u8 x.b0, .int .u8 x.b1, .int .u8 x.c0, .int .u8 x.c1]) = true := by simp [Value.formed, Try.underlying37, hC]
  unfold keyOf
  rw [Try.underlying37]
  simp only [hk, hs, hf, Bool.and_self, if_true, Value.cells]
  rw [hls]
  rfl

end Go.Proofs.Ytldbmmganicliaa
