/-
  Keys of the wheel as keys of a map: the law of their kind; each has its literal. Condition: each number fits its kind.
-/
import Derived.Test.YtfekkfphogjpeaaYmt
import Derived.DeepKeys4
import Derived.Maps.OwnSet
import Derived.Handy
namespace Go.Proofs.Ytfekkfphogjpeaa
set_option linter.unusedSimpArgs false
set_option linter.unusedVariables false
open Go.RowKit Go.Maps

theorem keyLaidOut : laidOutB Try.prog = true := by kernel_rfl
theorem keyRow : (50 : TypeId) < Try.prog.types.size := of_decide_eq_true (by kernel_rfl)
theorem keyWide : (match Try.prog.underlying 50 with | some (.array _ _) | some (.struct _) => true | _ => false) = true := by kernel_rfl
set_option maxRecDepth 100000 in
theorem kKeyed : Keyed Try.prog 50 := Keyed.of_law (deep_law_laid keyLaidOut (m := 5) (by omega) keyRow (by kernel_rfl) keyWide)
theorem wf_u8 {n : Int} (h : 0 ≤ n ∧ n ≤ 255) : (Lit.int .u8 n).wf = true := by
  simp [Lit.wf, IntKind.min, IntKind.max, IntKind.signed, IntKind.bits]
  omega
theorem wf_u16 {n : Int} (h : 0 ≤ n ∧ n ≤ 65535) : (Lit.int .u16 n).wf = true := by
  simp [Lit.wf, IntKind.min, IntKind.max, IntKind.signed, IntKind.bits]
  omega
theorem wf_u32 {n : Int} (h : 0 ≤ n ∧ n ≤ 4294967295) : (Lit.int .u32 n).wf = true := by
  simp [Lit.wf, IntKind.min, IntKind.max, IntKind.signed, IntKind.bits]
  omega
/-- a key's literal. -/
def K13.lits (x : K13) : List Lit := [.int .u8 x.k, .int .u8 x.pn, .int .u16 x.pl, .int .u8 x.x.n, .int .u16 x.x.l, .int .u32 x.x.s, .int .u8 x.x.d, .int .u8 x.x.a0, .int .u8 x.x.a1, .int .u8 x.x.b0, .int .u8 x.x.b1, .int .u8 x.x.c0, .int .u8 x.x.c1]
def K13.lit (x : K13) : Lit := .string (keyBytes x.lits)
set_option maxRecDepth 100000 in
set_option maxHeartbeats 1000000 in
theorem kKey (x : K13) (h : x.Rng) : keyOf Try.prog 50 (.agg #[.int .u8 x.k, .int .u8 x.pn, .int .u16 x.pl, .int .u8 x.x.n, .int .u16 x.x.l, .int .u32 x.x.s, .int .u8 x.x.d, .int .u8 x.x.a0, .int .u8 x.x.a1, .int .u8 x.x.b0, .int .u8 x.x.b1, .int .u8 x.x.c0, .int .u8 x.x.c1]) = some x.lit := by
  have hk : Try.prog.keyType 50 = true := by kernel_rfl
  obtain ⟨m, hs⟩ : ∃ m, Try.prog.types.size = m + 1 + 1 + 1 + 1 + 1 := ⟨Try.prog.types.size - 5, by kernel_rfl⟩
  have hC : Try.prog.cellsOf 48 = 10 := by kernel_rfl
  have hCK : Try.prog.cellsOf 50 = 13 := by kernel_rfl
  have hC24 : Try.prog.cellsOf 44 = 2 := by kernel_rfl
  have hC25 : Try.prog.cellsOf 31 = 1 := by kernel_rfl
  have hC5 : Try.prog.cellsOf 5 = 1 := by kernel_rfl
  have hC22 : Try.prog.cellsOf 28 = 1 := by kernel_rfl
  have hC28 : Try.prog.cellsOf 46 = 6 := by kernel_rfl
  have hC27 : Try.prog.cellsOf 45 = 2 := by kernel_rfl
  have hr : List.range 3 = [0, 1, 2] := rfl
  obtain ⟨g0, g1, g2, ⟨h0, h1, h2, h3, h4, h5, h6, h7, h8, h9⟩⟩ := h
  have u0 := wf_u8 g0
  have u1 := wf_u8 g1
  have u2 := wf_u16 g2
  have w0 := wf_u8 h0
  have w1 := wf_u16 h1
  have w2 := wf_u32 h2
  have w3 := wf_u8 h3
  have w4 := wf_u8 h4
  have w5 := wf_u8 h5
  have w6 := wf_u8 h6
  have w7 := wf_u8 h7
  have w8 := wf_u8 h8
  have w9 := wf_u8 h9
  have k5 : ∀ (d : Nat) (v : Int), (Lit.int .u8 v).wf = true → Try.prog.keyLits (d + 1) 5 [.int .u8 v] = some [.int .u8 v] := fun d v hv => by simp [Program.keyLits, Try.underlying5, hv]
  have k22 : ∀ (d : Nat) (v : Int), (Lit.int .u16 v).wf = true → Try.prog.keyLits (d + 1) 28 [.int .u16 v] = some [.int .u16 v] := fun d v hv => by simp [Program.keyLits, Try.underlying28, hv]
  have k25 : ∀ (d : Nat) (v : Int), (Lit.int .u32 v).wf = true → Try.prog.keyLits (d + 1) 31 [.int .u32 v] = some [.int .u32 v] := fun d v hv => by simp [Program.keyLits, Try.underlying31, hv]
  have k24 : ∀ (d : Nat) (u v : Int), (Lit.int .u8 u).wf = true → (Lit.int .u16 v).wf = true → Try.prog.keyLits (d + 1 + 1) 44 [.int .u8 u, .int .u16 v] = some [.int .u8 u, .int .u16 v] := fun d u v hu hv => by
    unfold Program.keyLits
    rw [Try.underlying44]
    dsimp only
    rw [if_pos ⟨by rw [hC24]; rfl, by kernel_rfl⟩]
    simp [hC5, hC22, k5 d u hu, k22 d v hv]
  have k27 : ∀ (d : Nat) (u v : Int), (Lit.int .u8 u).wf = true → (Lit.int .u8 v).wf = true → Try.prog.keyLits (d + 1 + 1) 45 [.int .u8 u, .int .u8 v] = some [.int .u8 u, .int .u8 v] := fun d u v hu hv => by
    unfold Program.keyLits
    rw [Try.underlying45]
    dsimp only
    rw [if_pos ⟨by rw [hC27]; rfl, by kernel_rfl⟩]
    simp [hC5, k5 d u hu, k5 d v hv]
  have k28 : Try.prog.keyLits (m + 1 + 1 + 1 + 1) 46 [.int .u8 x.x.a0, .int .u8 x.x.a1, .int .u8 x.x.b0, .int .u8 x.x.b1, .int .u8 x.x.c0, .int .u8 x.x.c1] = some [.int .u8 x.x.a0, .int .u8 x.x.a1, .int .u8 x.x.b0, .int .u8 x.x.b1, .int .u8 x.x.c0, .int .u8 x.x.c1] := by
    unfold Program.keyLits
    rw [Try.underlying46]
    dsimp only
    rw [if_pos (by rw [hC28]; rfl), hr]
    simp [hC27, k27 _ _ _ w4 w5, k27 _ _ _ w6 w7, k27 _ _ _ w8 w9]
  have k10 : Try.prog.keyLits (m + 1 + 1 + 1 + 1 + 1) 48 [.int .u8 x.x.n, .int .u16 x.x.l, .int .u32 x.x.s, .int .u8 x.x.d, .int .u8 x.x.a0, .int .u8 x.x.a1, .int .u8 x.x.b0, .int .u8 x.x.b1, .int .u8 x.x.c0, .int .u8 x.x.c1] = some [.int .u8 x.x.n, .int .u16 x.x.l, .int .u32 x.x.s, .int .u8 x.x.d, .int .u8 x.x.a0, .int .u8 x.x.a1, .int .u8 x.x.b0, .int .u8 x.x.b1, .int .u8 x.x.c0, .int .u8 x.x.c1] := by
    unfold Program.keyLits
    rw [Try.underlying48]
    dsimp only
    rw [if_pos ⟨by rw [hC]; rfl, by kernel_rfl⟩]
    simp [hC24, hC25, hC5, hC28, k24 _ _ _ w0 w1, k25 _ _ w2, k5 _ _ w3, k28]
  have hls : Try.prog.keyLits (m + 1 + 1 + 1 + 1 + 1 + 1) 50 [.int .u8 x.k, .int .u8 x.pn, .int .u16 x.pl, .int .u8 x.x.n, .int .u16 x.x.l, .int .u32 x.x.s, .int .u8 x.x.d, .int .u8 x.x.a0, .int .u8 x.x.a1, .int .u8 x.x.b0, .int .u8 x.x.b1, .int .u8 x.x.c0, .int .u8 x.x.c1] = some x.lits := by
    unfold Program.keyLits
    rw [Try.underlying50]
    dsimp only
    rw [if_pos ⟨by rw [hCK]; rfl, by kernel_rfl⟩]
    simp [hC24, hC25, hC5, hC28, hC, k24 _ _ _ u1 u2, k5 _ _ u0, k10, K13.lits]
  have hf : Value.formed Try.prog 50 (.agg #[.int .u8 x.k, .int .u8 x.pn, .int .u16 x.pl, .int .u8 x.x.n, .int .u16 x.x.l, .int .u32 x.x.s, .int .u8 x.x.d, .int .u8 x.x.a0, .int .u8 x.x.a1, .int .u8 x.x.b0, .int .u8 x.x.b1, .int .u8 x.x.c0, .int .u8 x.x.c1]) = true := by simp [Value.formed, Try.underlying50, hCK]
  unfold keyOf
  rw [Try.underlying50]
  simp only [hk, hs, hf, Bool.and_self, if_true, Value.cells]
  rw [hls]
  rfl

end Go.Proofs.Ytfekkfphogjpeaa
