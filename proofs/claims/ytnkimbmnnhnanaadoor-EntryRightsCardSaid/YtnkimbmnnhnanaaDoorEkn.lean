/-
  A known call is right in its group and in no other. Condition: its part lies in memory.
-/
import Derived.Test.YtnkimbmnnhnanaaDoorEsw
import Derived.Test.YtnkimbmnnhnanaaDoorEeq
import Derived.Test.YtnkimbmnnhnanaaDoorEru
namespace Go.Proofs.YtnkimbmnnhnanaaDoor
set_option linter.unusedSimpArgs false
set_option linter.unusedVariables false
open Go.RowKit Go.Sort

def kE : E18 := ⟨0, 1, 1, 5, 0, 0, 0, 0, 0, 0, 0, 0, 0, ByteArray.empty, 0, 0⟩
theorem rows_k {W : World} {bp B : Nat} (hb : bp < B) (h : PartAt W bp 0 kQ) : RowsP W B (some ⟨bp, 0, none⟩) [kQ] := fun _ =>
  ⟨bp, 0, rfl, hb, fun i x hi => by
    rcases i with _ | i
    · simp at hi; subst hi; simpa using h
    · simp at hi⟩
theorem rowsW_nil {W : World} {B : Nat} {A : Option Addr} : RowsW W B A [] := fun h => absurd rfl h
theorem kQ_rng : kQ.Rng := ⟨by decide, by decide, by decide, by decide, by decide⟩
theorem kE_rng : kE.Rng := ⟨by decide, by decide, by decide, by decide⟩
theorem rightK0 (bp : Nat) (w : World) (hb : bp < w.heap.size) (hp : PartAt w bp 0 kQ) :
    Calls Tryd.prog 8 #[.agg #[.int .u8 0, .int .u8 1, .int .u16 1, .int .u32 5, .int .u8 0, .int .u8 0, .int .u8 0, .int .u8 0, .int .u8 0, .int .u8 0, .int .u8 0, .int .u32 0, .slice (some ⟨bp, 0, none⟩) 1 1, .int .u8 0, .string ByteArray.empty, .slice none 0 0, .int .u8 0, .int .u16 0], .int .u8 0] w fun e w' => e = .returned (.bool true) ∧ Below w.heap.size w w' := by
  have := rightE kE (some ⟨bp, 0, none⟩) none [kQ] [] 1 0 0 w (rows_k hb hp) rowsW_nil (fun x hx => by
      have : x = kQ := by simpa using hx
      subst this
      exact kQ_rng) (Nat.le_refl _) (by unfold maxLen; omega) (Nat.le_refl _) (by unfold maxLen; omega) kE_rng (by omega)
  rw [show rE kE [kQ] [] 0 = true by decide] at this
  exact this
theorem rightK1 (bp : Nat) (w : World) (hb : bp < w.heap.size) (hp : PartAt w bp 0 kQ) :
    Calls Tryd.prog 8 #[.agg #[.int .u8 0, .int .u8 1, .int .u16 1, .int .u32 5, .int .u8 0, .int .u8 0, .int .u8 0, .int .u8 0, .int .u8 0, .int .u8 0, .int .u8 0, .int .u32 0, .slice (some ⟨bp, 0, none⟩) 1 1, .int .u8 0, .string ByteArray.empty, .slice none 0 0, .int .u8 0, .int .u16 0], .int .u8 1] w fun e w' => e = .returned (.bool false) ∧ Below w.heap.size w w' := by
  have := rightE kE (some ⟨bp, 0, none⟩) none [kQ] [] 1 0 1 w (rows_k hb hp) rowsW_nil (fun x hx => by
      have : x = kQ := by simpa using hx
      subst this
      exact kQ_rng) (Nat.le_refl _) (by unfold maxLen; omega) (Nat.le_refl _) (by unfold maxLen; omega) kE_rng (by omega)
  rw [show rE kE [kQ] [] 1 = false by decide] at this
  exact this

end Go.Proofs.YtnkimbmnnhnanaaDoor
