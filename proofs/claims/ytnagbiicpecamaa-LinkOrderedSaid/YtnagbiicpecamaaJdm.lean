/-
  The document's link in memory; its New. Condition: the numbers fit their kinds.
-/
import Derived.Test.YtnagbiicpecamaaJox
namespace Go.Proofs.Ytnagbiicpecamaa
set_option linter.unusedSimpArgs false
set_option linter.unusedVariables false
open Go.RowKit Go.Maps Go.Sort

def Kr.cs (x : Kr) : Array Value := #[.int .u64 x.seq, .slice x.b.A x.b.B.length x.b.c]
theorem Kr.sz : ∀ x : Kr, x.cs.size = 2 := fun _ => rfl
theorem Kr.one : ∀ x : Kr, ∀ u ∈ x.cs.toList, u.oneCell' = true := by
  intro x u hu
  simp only [Kr.cs, List.mem_cons, List.not_mem_nil, or_false] at hu
  rcases hu with rfl | rfl <;> rfl
def Sc.ds (s : Sc) (v w : Value) : Array Value := #[.int .u8 s.mn, .int .u16 s.ml, .int .u8 s.pn, .int .u16 s.pl, .int .i64 s.again, .int .u64 s.next, .int .u64 s.want, v, w, .bool s.owed]
/-- what a call may change. -/
def FD (b : Nat) (v w : Value) (k : Nat) : Prop := k = b ∨ v.ownBlock = some k ∨ w.ownBlock = some k
end Go.Proofs.Ytnagbiicpecamaa
