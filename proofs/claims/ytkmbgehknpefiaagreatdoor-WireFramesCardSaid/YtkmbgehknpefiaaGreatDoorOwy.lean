/-
  Bytes in memory behind a slice; slices.Clone of bytes; a Writer's Bytes: by exact answers. Condition: at most 2^47 bytes.
-/
import Derived.Test.YtkmbgehknpefiaaGreatDoorOwt
namespace Go.Proofs.YtkmbgehknpefiaaGreatDoor
set_option linter.unusedSimpArgs false
set_option linter.unusedVariables false
open Go.RowKit

/-- bytes in memory, behind a slice's address. -/
def BytesAt (W : World) (B : Nat) (A : Option Addr) (L : List UInt8) : Prop :=
  L ≠ [] → ∃ b o, A = some ⟨b, o, none⟩ ∧ b < B ∧ ∀ j x, L[j]? = some x → W.cell? ⟨b, o + j, none⟩ = some (.int .u8 x.toNat)
theorem BytesAt.keep {W W' : World} {B B' : Nat} {A : Option Addr} {L : List UInt8} (h : BytesAt W B A L) (hB : B ≤ B') (hk : ∀ b i, b < B → W'.cell? ⟨b, i, none⟩ = W.cell? ⟨b, i, none⟩) : BytesAt W' B' A L := fun hx => by
  obtain ⟨b, o, e, hb, hc⟩ := h hx
  exact ⟨b, o, e, Nat.lt_of_lt_of_le hb hB, fun i x hi => (hk b _ hb).trans (hc i x hi)⟩
theorem BytesAt.below {W W' : World} {B B' C : Nat} {A : Option Addr} {L : List UInt8} (h : BytesAt W B A L) (hb : Below C W W') (hC : B ≤ C) (hB : B ≤ B') : BytesAt W' B' A L :=
  h.keep hB fun b i hl => hb.cell (p := ⟨b, i, none⟩) (by simp; omega)
theorem addr_add (b o j : Nat) : (⟨b, o, none⟩ : Addr).add j = ⟨b, o + j, none⟩ := by
  unfold Addr.add
  by_cases h : j = 0
  · subst h; rfl
  · simp [h]
theorem BytesAt.cells {W : World} {B : Nat} {a : Addr} {L : List UInt8} (h : BytesAt W B (some a) L) : ∀ j u, (Lib.byteCells L)[j]? = some u → W.cell? (a.add j) = some u := by
  intro j u hu
  have hne : L ≠ [] := by rintro rfl; simp [Lib.byteCells] at hu
  obtain ⟨b, o, e, hb, hc⟩ := h hne
  cases e
  rw [Lib.byteCells, List.getElem?_map] at hu
  cases hx : L[j]? with
  | none => rw [hx] at hu; simp at hu
  | some x =>
    rw [hx] at hu
    simp at hu
    subst hu
    rw [addr_add]
    exact hc j x hx
theorem byteCells_one (L : List UInt8) : ∀ u ∈ Lib.byteCells L, u.oneCell' = true := by
  intro u hu
  simp only [Lib.byteCells, List.mem_map] at hu
  obtain ⟨x, _, rfl⟩ := hu
  rfl
/-- what an owned row holds. -/
theorem bytes_of_own {W : World} {base : Nat} {v : Value} {n : Nat} {L : List UInt8} (h : W.ownsRow base 5 1 v n (Lib.byteCells L)) :
    ∃ A c, v = .slice A n c ∧ n = L.length ∧ BytesAt W W.heap.size A L ∧ L.length ≤ c ∧ c ≤ maxLen := by
  have hn : n = L.length := by
    have := h.1
    rw [Lib.byteCells_length] at this
    omega
  rcases h.2 with ⟨rfl, rfl⟩ | ⟨g, cap, cur, rfl, hbg, hg, hnc, hcm, hcs, htake⟩
  · exact ⟨none, 0, rfl, hn, fun hx => absurd (List.eq_nil_of_length_eq_zero hn.symm) hx, by omega, by unfold maxLen; omega⟩
  · refine ⟨_, cap, rfl, hn, fun hx => ⟨g, 0, rfl, (Array.getElem?_eq_some_iff.1 hg).1, fun j x hj => ?_⟩, by omega, hcm⟩
    have := h.cells (g := g) rfl j (.int .u8 x.toNat) (by rw [Lib.byteCells, List.getElem?_map, hj]; rfl)
    rwa [addr_add] at this

set_option maxRecDepth 100000 in
set_option maxHeartbeats 1000000 in
theorem cloneB (A : Option Addr) (L : List UInt8) (c : Nat) (w : World) (hr : BytesAt w w.heap.size A L) (hl : L.length ≤ 140737488355328) (hc : L.length ≤ c) (hm : c ≤ maxLen) :
    Calls Tryz.prog 88 #[.slice A L.length c] w fun e w' => ∃ v, e = .returned v ∧ w'.ownsRow w.heap.size 5 1 v L.length (Lib.byteCells L) ∧ Below w.heap.size w w' := by
  obtain ⟨i0, hi0, hz0, hz1, hz2⟩ := info_parts byteI
  have hnil : ∀ W, Sem.run Tryz.prog (binOp .eql 41 (.slice A L.length c) (.slice none 0 0)) W = .ok (.bool A.isNone) W := fun W => Lib.run_eql_slice_nil W _ _ _ _ _ 0 0 Tryz.underlying41
  cases A with
  | none =>
    have hL : L = [] := by
      rcases Classical.em (L = []) with h | h
      · exact h
      · obtain ⟨b, o, e, -⟩ := hr h
        cases e
    subst hL
    simp only [Option.isNone, List.length_nil] at hnil
    go_enter Tryz.func88, Tryz.ntmps88
    go_wp2
    go_ret
    exact ⟨_, rfl, World.ownsRow_nil _ _ _ _, Below.refl _ _⟩
  | some a =>
    simp only [Option.isNone] at hnil
    have O0 : Hid ((w.alloc (.cells #[] 5)).ownsRow w.heap.size 5 1 (.slice (some ⟨w.heap.size, 0, none⟩) 0 0) 0 []) := Lib.hid ⟨rfl, .inr ⟨w.heap.size, 0, #[], rfl, Nat.le_refl _, heap_alloc_new w _, Nat.le_refl _, by unfold maxLen; omega, rfl, rfl⟩⟩
    have B0 := Lib.hid ((Below.refl w.heap.size w).alloc (Nat.le_refl _) (.cells #[] 5))
    have HC := Lib.hid ((hr.below (C := w.heap.size) B0.out (Nat.le_refl _) B0.out.size).cells)
    clear hr
    go_enter Tryz.func88, Tryz.ntmps88
    go_wp2_with (at_builtin
                 refine wpList_append_own _ rfl (.tmp 5) (.tmp 6) 41 rfl w.heap.size 5 i0 _ 1 1 Tryz.underlying41 hi0 hz0 hz1 hz2 rfl (by decide) _ 0 _ rfl O0.out a L.length c (Lib.byteCells L) rfl (by rw [Lib.byteCells_length, Nat.mul_one]) HC.out (byteCells_one L) (by unfold maxLen; omega) (by omega) B0.out.size ?_
                 intro v' w3 hown' hgrow' hnil'
                 have B3 := Lib.hid (B0.out.grown hgrow' B0.out.size fun k hk => (O0.out.lt k hk).1)
                 rw [Nat.zero_add, List.nil_append] at hown'
                 have O3 := Lib.hid hown'
                 clear hown' hgrow' hnil')
    go_ret
    exact ⟨_, rfl, O3.out, B3.out⟩

set_option maxRecDepth 100000 in
set_option maxHeartbeats 1000000 in
theorem wY (base b : Nat) (L : List UInt8) (W : World) (h : WrAt base b L W) (hB : base ≤ W.heap.size) (hl : L.length ≤ 140737488355328) :
    Calls Tryz.prog 28 #[.pointer (some ⟨b, 0, none⟩)] W fun e W' => ∃ v, e = .returned v ∧ W'.ownsRow W.heap.size 5 1 v L.length (Lib.byteCells L) ∧ Below W.heap.size W W' := by
  obtain ⟨hb, v, bV, hrow⟩ := h
  obtain ⟨A, c, rfl, -, hat, hc1, hc2⟩ := bytes_of_own hrow
  have hc := bV.cell
  have K := Lib.hid (cloneB A L c W hat hl hc1 hc2)
  clear hat hrow
  go_enter Tryz.func28, Tryz.ntmps28
  go_wp2_with fail
  refine K.out.mono ?_
  rintro e w1 ⟨v, rfl, ho, hb1⟩
  go_wp2
  go_ret
  exact ⟨_, rfl, ho, hb1⟩

end Go.Proofs.YtkmbgehknpefiaaGreatDoor
