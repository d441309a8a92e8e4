/-
  No cell of these rows narrows 'for every input' (looked for: loops, veiled, ifaces, maps, wideKeys, modest, calm, conditions, laid).
  DERIVED. THE GIVEN ROWS OF THIS SEAT. 3 by the template 'for every input the law returns true; each argument reads behind the call as it read before'; 0 by the template 'total and deterministic' (their statements: YtldbmmganicliaaTotals.lean).
  GIVEN WITH THE SEED: the statements are not yours to turn. If you find one false, say at which input.
  Laid BY PROGRAM, IN A SANDBOX (cutbox-rows.mjs): the forced cells as the released guide's own fill.sh prints them over the translation b92cd2f77ce150d3… (all of the seat's roots in one cut). By AI agents, Wed Nov 11 2026. No macro, syntax, notation, axiom, sorry.
-/
import Derived.Test.YtldbmmganicliaaChecked
import GoSem.Claim
import GoSem.ClaimJoined
import GoSem.ClaimMapViews
import Derived.JoinedTies
import Derived.KernelRfl
namespace Go.Proofs.Ytldbmmganicliaa
/- THE CELL 'sum', in the pinned program and in every row, IS THE sha256 OF THE DUMP (.gsa) THAT YtldbmmganicliaaProg.lean LOADS. Nothing in Lean hashes anything: it is a label: what it is worth is what the hold of that sum in a sandbox is worth. -/
noncomputable def Try.pinned : Pinned := { name := "ytldbmmganicliaa", sum := "b92cd2f77ce150d3c2e0a3ee3898587f7b7971efa248b29a6cf0f766268b6850", checked := Try.checked }
namespace Rows
def none {H : Type} : Left H := { results := [], args := [] }

/-- 'gemotlaw14.AmoPlays': WHATEVER THE INPUT: true; the input reads as it did. -/
def amoPlaysSpec : ChangeSpec := { name := "amoPlays", fn := fun _ => fun
  | [d1, d2] => { results := [.lit (.bool true)], args := [d1, d2] }
  | _ => none }
def amoPlaysRow : OpenClaim := { program := "ytldbmmganicliaa", sum := "b92cd2f77ce150d3c2e0a3ee3898587f7b7971efa248b29a6cf0f766268b6850", func := "gemot/gemotlaw14.AmoPlays", spec := "amoPlays", inPlace := ["maps.clone"], unfollowed := true, recurses := true, plainKeys := false, apart := false }
def AmoPlaysSaid : Prop := amoPlaysRow.holds Try.pinned (OpenSpec.ofChange amoPlaysSpec)

/-- ITS FALSE NEIGHBOUR: 'it returns false'. Refute it at one input. -/
def amoPlaysWrong : ChangeSpec := { name := "amoPlays", fn := fun _ => fun
  | [d1, d2] => { results := [.lit (.bool false)], args := [d1, d2] }
  | _ => none }
def AmoPlaysWrongFalsely : Prop := amoPlaysRow.holds Try.pinned (OpenSpec.ofChange amoPlaysWrong)

/-- 'gemotlaw14.AmoOnce': WHATEVER THE INPUT: true; the input reads as it did. -/
def amoOnceSpec : ChangeSpec := { name := "amoOnce", fn := fun _ => fun
  | [d1, d2] => { results := [.lit (.bool true)], args := [d1, d2] }
  | _ => none }
def amoOnceRow : OpenClaim := { program := "ytldbmmganicliaa", sum := "b92cd2f77ce150d3c2e0a3ee3898587f7b7971efa248b29a6cf0f766268b6850", func := "gemot/gemotlaw14.AmoOnce", spec := "amoOnce", unfollowed := true, recurses := true, plainKeys := false, apart := false }
def AmoOnceSaid : Prop := amoOnceRow.holds Try.pinned (OpenSpec.ofChange amoOnceSpec)

/-- ITS FALSE NEIGHBOUR: 'it returns false'. Refute it at one input. -/
def amoOnceWrong : ChangeSpec := { name := "amoOnce", fn := fun _ => fun
  | [d1, d2] => { results := [.lit (.bool false)], args := [d1, d2] }
  | _ => none }
def AmoOnceWrongFalsely : Prop := amoOnceRow.holds Try.pinned (OpenSpec.ofChange amoOnceWrong)

/-- 'gemotlaw14.AmoApart': WHATEVER THE INPUT: true; the input reads as it did. -/
def amoApartSpec : ChangeSpec := { name := "amoApart", fn := fun _ => fun
  | [d1, d2, d3] => { results := [.lit (.bool true)], args := [d1, d2, d3] }
  | _ => none }
def amoApartRow : OpenClaim := { program := "ytldbmmganicliaa", sum := "b92cd2f77ce150d3c2e0a3ee3898587f7b7971efa248b29a6cf0f766268b6850", func := "gemot/gemotlaw14.AmoApart", spec := "amoApart", inPlace := ["maps.clone"], unfollowed := true, recurses := true, plainKeys := false, apart := false }
def AmoApartSaid : Prop := amoApartRow.holds Try.pinned (OpenSpec.ofChange amoApartSpec)

/-- ITS FALSE NEIGHBOUR: 'it returns false'. Refute it at one input. -/
def amoApartWrong : ChangeSpec := { name := "amoApart", fn := fun _ => fun
  | [d1, d2, d3] => { results := [.lit (.bool false)], args := [d1, d2, d3] }
  | _ => none }
def AmoApartWrongFalsely : Prop := amoApartRow.holds Try.pinned (OpenSpec.ofChange amoApartWrong)

/- THE SECOND FORM. 'bulk': how many values and letters a reading holds, each counted each time it is reached (what is shared counts as often as it is met; a slice's spare places count too). A statement '..UptoSaid' is the law's where the arguments, and the package variables that the reading takes, are together of bulk at most 1048576: NARROWER than '..Said'. Prove '..Said' where nothing that the law and all that it calls make is longer than what came in: it says more and counts as full. Else prove '..UptoSaid'. A law counts once. -/
mutual
def uptoBulk {H : Type} : DataW H → Nat
  | .lit (.string bytes) => bytes.length + 1
  | .lit _ => 1
  | .nil => 1
  | .ptr d => uptoBulk d + 1
  | .slice elems spare => uptoBulkAll elems + uptoBulkAll spare + 1
  | .agg parts => uptoBulkAll parts + 1
  | .iface _ d => uptoBulk d + 1
  | .map entries => uptoBulkEntries entries + 1
  | .held _ => 1
def uptoBulkAll {H : Type} : List (DataW H) → Nat
  | [] => 0
  | d :: r => uptoBulk d + uptoBulkAll r
def uptoBulkEntries {H : Type} : List (Lit × DataW H) → Nat
  | [] => 0
  | x :: r => uptoBulkEntry x + uptoBulkEntries r
def uptoBulkEntry {H : Type} : Lit × DataW H → Nat
  | (.string bytes, d) => bytes.length + uptoBulk d + 1
  | (_, d) => uptoBulk d + 1
 end
def uptoSmall : (H : Type) → List (DataW H) → Bool := fun _ ds => decide (uptoBulkAll ds ≤ 1048576)
def OpenSpec.upto (s : _root_.Go.ChangeSpec) : _root_.Go.OpenSpec := { _root_.Go.OpenSpec.ofChange s with cond := some uptoSmall }

/-- 'gemotlaw14.AmoPlays', WHERE WHAT IT READS IS OF BULK AT MOST 1048576: true; the input reads as it did. -/
def amoPlaysUptoRow : OpenClaim := { program := "ytldbmmganicliaa", sum := "b92cd2f77ce150d3c2e0a3ee3898587f7b7971efa248b29a6cf0f766268b6850", func := "gemot/gemotlaw14.AmoPlays", spec := "amoPlays", inPlace := ["maps.clone"], unfollowed := true, recurses := true, plainKeys := false, apart := false, narrowed := true }
def AmoPlaysUptoSaid : Prop := amoPlaysUptoRow.holds Try.pinned (OpenSpec.upto amoPlaysSpec)

/-- 'gemotlaw14.AmoOnce', WHERE WHAT IT READS IS OF BULK AT MOST 1048576: true; the input reads as it did. -/
def amoOnceUptoRow : OpenClaim := { program := "ytldbmmganicliaa", sum := "b92cd2f77ce150d3c2e0a3ee3898587f7b7971efa248b29a6cf0f766268b6850", func := "gemot/gemotlaw14.AmoOnce", spec := "amoOnce", unfollowed := true, recurses := true, plainKeys := false, apart := false, narrowed := true }
def AmoOnceUptoSaid : Prop := amoOnceUptoRow.holds Try.pinned (OpenSpec.upto amoOnceSpec)

/-- 'gemotlaw14.AmoApart', WHERE WHAT IT READS IS OF BULK AT MOST 1048576: true; the input reads as it did. -/
def amoApartUptoRow : OpenClaim := { program := "ytldbmmganicliaa", sum := "b92cd2f77ce150d3c2e0a3ee3898587f7b7971efa248b29a6cf0f766268b6850", func := "gemot/gemotlaw14.AmoApart", spec := "amoApart", inPlace := ["maps.clone"], unfollowed := true, recurses := true, plainKeys := false, apart := false, narrowed := true }
def AmoApartUptoSaid : Prop := amoApartUptoRow.holds Try.pinned (OpenSpec.upto amoApartSpec)

end Rows
end Go.Proofs.Ytldbmmganicliaa
