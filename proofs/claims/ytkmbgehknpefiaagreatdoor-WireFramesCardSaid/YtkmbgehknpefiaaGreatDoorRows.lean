/-
  NARROWER THAN 'FOR EVERY INPUT', by the rows' own cells (each row's printed sentence says how): WireBytes: laid · WireBack: laid · WireFrames: laid.
  DERIVED. THE GIVEN ROWS OF THIS SEAT. 3 by the template 'for every input the law returns true; each argument reads behind the call as it read before'; 0 by the template 'total and deterministic' (their statements: YtkmbgehknpefiaaGreatDoorTotals.lean).
  GIVEN WITH THE SEED: the statements are not yours to turn. If you find one false, say at which input.
  Laid BY PROGRAM, IN A SANDBOX (cutbox-rows.mjs): the forced cells as the released guide's own fill.sh prints them over the translation 58eedeef33f58db8… (all of the seat's roots in one cut). By AI agents, Wed Nov 11 2026. No macro, syntax, notation, axiom, sorry.
-/
import Derived.Test.YtkmbgehknpefiaaGreatDoorChecked
import GoSem.Claim
import GoSem.ClaimJoined
import GoSem.ClaimMapViews
import Derived.JoinedTies
import Derived.KernelRfl
namespace Go.Proofs.YtkmbgehknpefiaaGreatDoor
/- THE CELL 'sum', in the pinned program and in every row, IS THE sha256 OF THE DUMP (.gsa) THAT YtkmbgehknpefiaaGreatDoorProg.lean LOADS. Nothing in Lean hashes anything: it is a label: what it is worth is what the hold of that sum in a sandbox is worth. -/
noncomputable def Tryz.pinned : Pinned := { name := "ytkmbgehknpefiaagreatdoor", sum := "58eedeef33f58db841644696500619ddd17f7f0421f3c03c73d4429c3cf5f3b5", checked := Tryz.checked }
namespace Rows
def none {H : Type} : Left H := { results := [], args := [] }

/- WHAT THE LISTED PACKAGE-LEVEL VARIABLES READ AS WHEN THE CALL BEGINS. Each datum BY PROGRAM (the guide's laid-datum.mjs) off the statement by which the dump's own 'gosem.cut.vars' lays the variable. In a bare row this is a premise. The card (YtkmbgehknpefiaaGreatDoorCards.lean) ties it to the program's text. -/
def laid_gemot_wire_words {H : Type} : DataW H := .agg [.lit (.string [65, 115, 107]), .lit (.string [65, 110, 115, 119, 101, 114]), .lit (.string [82, 101, 102, 117, 115, 101]), .lit (.string [65, 112, 112, 101, 110, 100]), .lit (.string [65, 99, 107, 101, 100]), .lit (.string [80, 114, 101, 112, 97, 114, 101]), .lit (.string [65, 99, 99, 101, 112, 116]), .lit (.string [78, 97, 99, 107]), .lit (.string [80, 114, 111, 109, 105, 115, 101]), .lit (.string [80, 114, 111, 112, 111, 115, 101]), .lit (.string [73, 110, 115, 116, 97, 108, 108]), .lit (.string [74, 111, 105, 110]), .lit (.string [76, 101, 97, 118, 101]), .lit (.string [83, 108, 97, 121])]
def laid_gemot_octet_sums {H : Type} : DataW H := .agg [.lit (.int .u32 0), .lit (.int .u32 79764919), .lit (.int .u32 159529838), .lit (.int .u32 222504665), .lit (.int .u32 319059676), .lit (.int .u32 398814059), .lit (.int .u32 445009330), .lit (.int .u32 507990021), .lit (.int .u32 638119352), .lit (.int .u32 583659535), .lit (.int .u32 797628118), .lit (.int .u32 726387553), .lit (.int .u32 890018660), .lit (.int .u32 835552979), .lit (.int .u32 1015980042), .lit (.int .u32 944750013)]

/-- 'gemotlaw07.WireBytes': WHATEVER THE INPUT: true; the input reads as it did. -/
def wireBytesSpec : ChangeSpec := { name := "wireBytes", fn := fun _ => fun
  | [d1, d2] => { results := [.lit (.bool true)], args := [d1, d2] }
  | _ => none }
def wireBytesRow : OpenClaim := { program := "ytkmbgehknpefiaagreatdoor", sum := "58eedeef33f58db841644696500619ddd17f7f0421f3c03c73d4429c3cf5f3b5", func := "gemot/gemotlaw07.WireBytes", spec := "wireBytes", unfollowed := true, recurses := true, named := ["gemot/wire.words"], apart := false, laid := [("gemot/wire.words", laid_gemot_wire_words)] }
def WireBytesSaid : Prop := wireBytesRow.holds Tryz.pinned (OpenSpec.ofChange wireBytesSpec)

/-- ITS FALSE NEIGHBOUR: 'it returns false'. Refute it at one input. -/
def wireBytesWrong : ChangeSpec := { name := "wireBytes", fn := fun _ => fun
  | [d1, d2] => { results := [.lit (.bool false)], args := [d1, d2] }
  | _ => none }
def WireBytesWrongFalsely : Prop := wireBytesRow.holds Tryz.pinned (OpenSpec.ofChange wireBytesWrong)

/-- 'gemotlaw07.WireBack': WHATEVER THE INPUT: true; the input reads as it did. -/
def wireBackSpec : ChangeSpec := { name := "wireBack", fn := fun _ => fun
  | [d1, d2] => { results := [.lit (.bool true)], args := [d1, d2] }
  | _ => none }
def wireBackRow : OpenClaim := { program := "ytkmbgehknpefiaagreatdoor", sum := "58eedeef33f58db841644696500619ddd17f7f0421f3c03c73d4429c3cf5f3b5", func := "gemot/gemotlaw07.WireBack", spec := "wireBack", unfollowed := true, recurses := true, named := ["gemot/wire.words"], apart := false, laid := [("gemot/wire.words", laid_gemot_wire_words)] }
def WireBackSaid : Prop := wireBackRow.holds Tryz.pinned (OpenSpec.ofChange wireBackSpec)

/-- ITS FALSE NEIGHBOUR: 'it returns false'. Refute it at one input. -/
def wireBackWrong : ChangeSpec := { name := "wireBack", fn := fun _ => fun
  | [d1, d2] => { results := [.lit (.bool false)], args := [d1, d2] }
  | _ => none }
def WireBackWrongFalsely : Prop := wireBackRow.holds Tryz.pinned (OpenSpec.ofChange wireBackWrong)

/-- 'gemotlaw07.WireFrames': WHATEVER THE INPUT: true; the input reads as it did. -/
def wireFramesSpec : ChangeSpec := { name := "wireFrames", fn := fun _ => fun
  | [d1, d2] => { results := [.lit (.bool true)], args := [d1, d2] }
  | _ => none }
def wireFramesRow : OpenClaim := { program := "ytkmbgehknpefiaagreatdoor", sum := "58eedeef33f58db841644696500619ddd17f7f0421f3c03c73d4429c3cf5f3b5", func := "gemot/gemotlaw07.WireFrames", spec := "wireFrames", unfollowed := true, recurses := true, named := ["gemot/wire.words", "gemot/octet.sums"], apart := false, laid := [("gemot/octet.sums", laid_gemot_octet_sums), ("gemot/wire.words", laid_gemot_wire_words)] }
def WireFramesSaid : Prop := wireFramesRow.holds Tryz.pinned (OpenSpec.ofChange wireFramesSpec)

/-- ITS FALSE NEIGHBOUR: 'it returns false'. Refute it at one input. -/
def wireFramesWrong : ChangeSpec := { name := "wireFrames", fn := fun _ => fun
  | [d1, d2] => { results := [.lit (.bool false)], args := [d1, d2] }
  | _ => none }
def WireFramesWrongFalsely : Prop := wireFramesRow.holds Tryz.pinned (OpenSpec.ofChange wireFramesWrong)

/- THE SECOND FORM. 'bulk': how many values and letters a reading holds, each counted each time it is reached (what is shared counts as often as it is met; a slice's spare places count too). A statement '..UptoSaid' is the law's where the arguments, and the package variables that the reading takes, are together of bulk at most 1048576: NARROWER than '..Said'. Prove '..Said' where nothing that the law and all that it calls make is longer than what came in: it says more and counts as full. Else prove '..UptoSaid'. A law counts once. -/
mutual
def uptoBulk {H : Type} : DataW H → Nat
  | .lit (.string bytes) => bytes.length + 1
  | .lit _ => 1
  | .nil => 1
  | .ptr d => uptoBulk d + 1
  | .slice elems spare => uptoBulkAll elems + uptoBulkAll spare + 1
  | .agg parts => uptoBulkAll parts + 1
  | .iface _ d => uptoBulk d + 1
  | .map entries => uptoBulkEntries entries + 1
  | .held _ => 1
def uptoBulkAll {H : Type} : List (DataW H) → Nat
  | [] => 0
  | d :: r => uptoBulk d + uptoBulkAll r
def uptoBulkEntries {H : Type} : List (Lit × DataW H) → Nat
  | [] => 0
  | x :: r => uptoBulkEntry x + uptoBulkEntries r
def uptoBulkEntry {H : Type} : Lit × DataW H → Nat
  | (.string bytes, d) => bytes.length + uptoBulk d + 1
  | (_, d) => uptoBulk d + 1
 end
def uptoSmall : (H : Type) → List (DataW H) → Bool := fun _ ds => decide (uptoBulkAll ds ≤ 1048576)
def OpenSpec.upto (s : _root_.Go.ChangeSpec) : _root_.Go.OpenSpec := { _root_.Go.OpenSpec.ofChange s with cond := some uptoSmall }

/-- 'gemotlaw07.WireBytes', WHERE WHAT IT READS IS OF BULK AT MOST 1048576: true; the input reads as it did. -/
def wireBytesUptoRow : OpenClaim := { program := "ytkmbgehknpefiaagreatdoor", sum := "58eedeef33f58db841644696500619ddd17f7f0421f3c03c73d4429c3cf5f3b5", func := "gemot/gemotlaw07.WireBytes", spec := "wireBytes", unfollowed := true, recurses := true, named := ["gemot/wire.words"], apart := false, laid := [("gemot/wire.words", laid_gemot_wire_words)], narrowed := true }
def WireBytesUptoSaid : Prop := wireBytesUptoRow.holds Tryz.pinned (OpenSpec.upto wireBytesSpec)

/-- 'gemotlaw07.WireBack', WHERE WHAT IT READS IS OF BULK AT MOST 1048576: true; the input reads as it did. -/
def wireBackUptoRow : OpenClaim := { program := "ytkmbgehknpefiaagreatdoor", sum := "58eedeef33f58db841644696500619ddd17f7f0421f3c03c73d4429c3cf5f3b5", func := "gemot/gemotlaw07.WireBack", spec := "wireBack", unfollowed := true, recurses := true, named := ["gemot/wire.words"], apart := false, laid := [("gemot/wire.words", laid_gemot_wire_words)], narrowed := true }
def WireBackUptoSaid : Prop := wireBackUptoRow.holds Tryz.pinned (OpenSpec.upto wireBackSpec)

/-- 'gemotlaw07.WireFrames', WHERE WHAT IT READS IS OF BULK AT MOST 1048576: true; the input reads as it did. -/
def wireFramesUptoRow : OpenClaim := { program := "ytkmbgehknpefiaagreatdoor", sum := "58eedeef33f58db841644696500619ddd17f7f0421f3c03c73d4429c3cf5f3b5", func := "gemot/gemotlaw07.WireFrames", spec := "wireFrames", unfollowed := true, recurses := true, named := ["gemot/wire.words", "gemot/octet.sums"], apart := false, laid := [("gemot/octet.sums", laid_gemot_octet_sums), ("gemot/wire.words", laid_gemot_wire_words)], narrowed := true }
def WireFramesUptoSaid : Prop := wireFramesUptoRow.holds Tryz.pinned (OpenSpec.upto wireFramesSpec)

end Rows
end Go.Proofs.YtkmbgehknpefiaaGreatDoor
