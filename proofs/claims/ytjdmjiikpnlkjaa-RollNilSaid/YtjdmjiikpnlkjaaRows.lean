/-
  No cell of these rows narrows 'for every input' (looked for: loops, veiled, ifaces, maps, wideKeys, modest, calm, conditions, laid).
  DERIVED. THE GIVEN ROWS OF THIS SEAT. 4 by the template 'for every input the law returns true; each argument reads behind the call as it read before'; 0 by the template 'total and deterministic' (their statements: YtjdmjiikpnlkjaaTotals.lean).
  GIVEN WITH THE SEED: the statements are not yours to turn. If you find one false, say at which input.
  Laid BY PROGRAM, IN A SANDBOX (cutbox-rows.mjs): the forced cells as the released guide's own fill.sh prints them over the translation 6cfe6af4608a2602… (all of the seat's roots in one cut). By AI agents, Wed Nov 11 2026. No macro, syntax, notation, axiom, sorry.
-/
import Derived.Test.YtjdmjiikpnlkjaaChecked
import GoSem.Claim
import GoSem.ClaimJoined
import GoSem.ClaimMapViews
import Derived.JoinedTies
import Derived.KernelRfl
namespace Go.Proofs.Ytjdmjiikpnlkjaa
/- THE CELL 'sum', in the pinned program and in every row, IS THE sha256 OF THE DUMP (.gsa) THAT YtjdmjiikpnlkjaaProg.lean LOADS. Nothing in Lean hashes anything: it is a label: what it is worth is what the hold of that sum in a sandbox is worth. -/
noncomputable def Try.pinned : Pinned := { name := "ytjdmjiikpnlkjaa", sum := "6cfe6af4608a2602445b796c1b753c1e411eb93a7d8c2b14e01bc423ab69597d", checked := Try.checked }
namespace Rows
def none {H : Type} : Left H := { results := [], args := [] }

/-- 'gemotlaw12.RollOne': WHATEVER THE INPUT: true; the input reads as it did. -/
def rollOneSpec : ChangeSpec := { name := "rollOne", fn := fun _ => fun
  | [d1, d2] => { results := [.lit (.bool true)], args := [d1, d2] }
  | _ => none }
def rollOneRow : OpenClaim := { program := "ytjdmjiikpnlkjaa", sum := "6cfe6af4608a2602445b796c1b753c1e411eb93a7d8c2b14e01bc423ab69597d", func := "gemot/gemotlaw12.RollOne", spec := "rollOne", unfollowed := true, recurses := true, plainKeys := false, apart := false }
def RollOneSaid : Prop := rollOneRow.holds Try.pinned (OpenSpec.ofChange rollOneSpec)

/-- ITS FALSE NEIGHBOUR: 'it returns false'. Refute it at one input. -/
def rollOneWrong : ChangeSpec := { name := "rollOne", fn := fun _ => fun
  | [d1, d2] => { results := [.lit (.bool false)], args := [d1, d2] }
  | _ => none }
def RollOneWrongFalsely : Prop := rollOneRow.holds Try.pinned (OpenSpec.ofChange rollOneWrong)

/-- 'gemotlaw12.RollKeeps': WHATEVER THE INPUT: true; the input reads as it did. -/
def rollKeepsSpec : ChangeSpec := { name := "rollKeeps", fn := fun _ => fun
  | [d1, d2, d3, d4] => { results := [.lit (.bool true)], args := [d1, d2, d3, d4] }
  | _ => none }
def rollKeepsRow : OpenClaim := { program := "ytjdmjiikpnlkjaa", sum := "6cfe6af4608a2602445b796c1b753c1e411eb93a7d8c2b14e01bc423ab69597d", func := "gemot/gemotlaw12.RollKeeps", spec := "rollKeeps", unfollowed := true, recurses := true, plainKeys := false, apart := false }
def RollKeepsSaid : Prop := rollKeepsRow.holds Try.pinned (OpenSpec.ofChange rollKeepsSpec)

/-- ITS FALSE NEIGHBOUR: 'it returns false'. Refute it at one input. -/
def rollKeepsWrong : ChangeSpec := { name := "rollKeeps", fn := fun _ => fun
  | [d1, d2, d3, d4] => { results := [.lit (.bool false)], args := [d1, d2, d3, d4] }
  | _ => none }
def RollKeepsWrongFalsely : Prop := rollKeepsRow.holds Try.pinned (OpenSpec.ofChange rollKeepsWrong)

/-- 'gemotlaw12.RollBounds': WHATEVER THE INPUT: true; the input reads as it did. -/
def rollBoundsSpec : ChangeSpec := { name := "rollBounds", fn := fun _ => fun
  | [d1, d2] => { results := [.lit (.bool true)], args := [d1, d2] }
  | _ => none }
def rollBoundsRow : OpenClaim := { program := "ytjdmjiikpnlkjaa", sum := "6cfe6af4608a2602445b796c1b753c1e411eb93a7d8c2b14e01bc423ab69597d", func := "gemot/gemotlaw12.RollBounds", spec := "rollBounds", unfollowed := true, recurses := true, plainKeys := false, apart := false }
def RollBoundsSaid : Prop := rollBoundsRow.holds Try.pinned (OpenSpec.ofChange rollBoundsSpec)

/-- ITS FALSE NEIGHBOUR: 'it returns false'. Refute it at one input. -/
def rollBoundsWrong : ChangeSpec := { name := "rollBounds", fn := fun _ => fun
  | [d1, d2] => { results := [.lit (.bool false)], args := [d1, d2] }
  | _ => none }
def RollBoundsWrongFalsely : Prop := rollBoundsRow.holds Try.pinned (OpenSpec.ofChange rollBoundsWrong)

/-- 'gemotlaw12.RollNil': WHATEVER THE INPUT: true; the input reads as it did. -/
def rollNilSpec : ChangeSpec := { name := "rollNil", fn := fun _ => fun
  | [d] => { results := [.lit (.bool true)], args := [d] }
  | _ => none }
def rollNilRow : OpenClaim := { program := "ytjdmjiikpnlkjaa", sum := "6cfe6af4608a2602445b796c1b753c1e411eb93a7d8c2b14e01bc423ab69597d", func := "gemot/gemotlaw12.RollNil", spec := "rollNil", unfollowed := true, recurses := true, plainKeys := false, apart := false }
def RollNilSaid : Prop := rollNilRow.holds Try.pinned (OpenSpec.ofChange rollNilSpec)

/-- ITS FALSE NEIGHBOUR: 'it returns false'. Refute it at one input. -/
def rollNilWrong : ChangeSpec := { name := "rollNil", fn := fun _ => fun
  | [d] => { results := [.lit (.bool false)], args := [d] }
  | _ => none }
def RollNilWrongFalsely : Prop := rollNilRow.holds Try.pinned (OpenSpec.ofChange rollNilWrong)

/- THE SECOND FORM. 'bulk': how many values and letters a reading holds, each counted each time it is reached (what is shared counts as often as it is met; a slice's spare places count too). A statement '..UptoSaid' is the law's where the arguments, and the package variables that the reading takes, are together of bulk at most 1048576: NARROWER than '..Said'. Prove '..Said' where nothing that the law and all that it calls make is longer than what came in: it says more and counts as full. Else prove '..UptoSaid'. A law counts once. -/
mutual
def uptoBulk {H : Type} : DataW H → Nat
  | .lit (.string bytes) => bytes.length + 1
  | .lit _ => 1
  | .nil => 1
  | .ptr d => uptoBulk d + 1
  | .slice elems spare => uptoBulkAll elems + uptoBulkAll spare + 1
  | .agg parts => uptoBulkAll parts + 1
  | .iface _ d => uptoBulk d + 1
  | .map entries => uptoBulkEntries entries + 1
  | .held _ => 1
def uptoBulkAll {H : Type} : List (DataW H) → Nat
  | [] => 0
  | d :: r => uptoBulk d + uptoBulkAll r
def uptoBulkEntries {H : Type} : List (Lit × DataW H) → Nat
  | [] => 0
  | x :: r => uptoBulkEntry x + uptoBulkEntries r
def uptoBulkEntry {H : Type} : Lit × DataW H → Nat
  | (.string bytes, d) => bytes.length + uptoBulk d + 1
  | (_, d) => uptoBulk d + 1
 end
def uptoSmall : (H : Type) → List (DataW H) → Bool := fun _ ds => decide (uptoBulkAll ds ≤ 1048576)
def OpenSpec.upto (s : _root_.Go.ChangeSpec) : _root_.Go.OpenSpec := { _root_.Go.OpenSpec.ofChange s with cond := some uptoSmall }

/-- 'gemotlaw12.RollOne', WHERE WHAT IT READS IS OF BULK AT MOST 1048576: true; the input reads as it did. -/
def rollOneUptoRow : OpenClaim := { program := "ytjdmjiikpnlkjaa", sum := "6cfe6af4608a2602445b796c1b753c1e411eb93a7d8c2b14e01bc423ab69597d", func := "gemot/gemotlaw12.RollOne", spec := "rollOne", unfollowed := true, recurses := true, plainKeys := false, apart := false, narrowed := true }
def RollOneUptoSaid : Prop := rollOneUptoRow.holds Try.pinned (OpenSpec.upto rollOneSpec)

/-- 'gemotlaw12.RollKeeps', WHERE WHAT IT READS IS OF BULK AT MOST 1048576: true; the input reads as it did. -/
def rollKeepsUptoRow : OpenClaim := { program := "ytjdmjiikpnlkjaa", sum := "6cfe6af4608a2602445b796c1b753c1e411eb93a7d8c2b14e01bc423ab69597d", func := "gemot/gemotlaw12.RollKeeps", spec := "rollKeeps", unfollowed := true, recurses := true, plainKeys := false, apart := false, narrowed := true }
def RollKeepsUptoSaid : Prop := rollKeepsUptoRow.holds Try.pinned (OpenSpec.upto rollKeepsSpec)

/-- 'gemotlaw12.RollBounds', WHERE WHAT IT READS IS OF BULK AT MOST 1048576: true; the input reads as it did. -/
def rollBoundsUptoRow : OpenClaim := { program := "ytjdmjiikpnlkjaa", sum := "6cfe6af4608a2602445b796c1b753c1e411eb93a7d8c2b14e01bc423ab69597d", func := "gemot/gemotlaw12.RollBounds", spec := "rollBounds", unfollowed := true, recurses := true, plainKeys := false, apart := false, narrowed := true }
def RollBoundsUptoSaid : Prop := rollBoundsUptoRow.holds Try.pinned (OpenSpec.upto rollBoundsSpec)

/-- 'gemotlaw12.RollNil', WHERE WHAT IT READS IS OF BULK AT MOST 1048576: true; the input reads as it did. -/
def rollNilUptoRow : OpenClaim := { program := "ytjdmjiikpnlkjaa", sum := "6cfe6af4608a2602445b796c1b753c1e411eb93a7d8c2b14e01bc423ab69597d", func := "gemot/gemotlaw12.RollNil", spec := "rollNil", unfollowed := true, recurses := true, plainKeys := false, apart := false, narrowed := true }
def RollNilUptoSaid : Prop := rollNilUptoRow.holds Try.pinned (OpenSpec.upto rollNilSpec)

end Rows
end Go.Proofs.Ytjdmjiikpnlkjaa
