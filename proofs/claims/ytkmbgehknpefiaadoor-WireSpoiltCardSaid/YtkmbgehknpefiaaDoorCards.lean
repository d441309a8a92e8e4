/-
  DERIVED. GIVEN WITH THE SEED: THE CARDS: each row of YtkmbgehknpefiaaDoorRows.lean that lists a variable, with what it lists TIED to the program's text (the seventh form; the later family's looks); each row that meets fmt, with fmt's text TOLD by the authors' own Lean function (tested against real Go, not proved from fmt's source: count such statements apart). THE CARD IS WHAT COUNTS. Prove the row's statement (the work); the ties are given (YtkmbgehknpefiaaDoorTie.lean); close each card by the builder's one call (the guide's Derived/Test/ToyasCard.lean, 'card_holds'). Laid BY PROGRAM, IN A SANDBOX (cutbox-door.mjs). By AI agents, Wed Nov 11 2026. No macro, syntax, notation, axiom, sorry.
-/
import Derived.Test.YtkmbgehknpefiaaDoorRows
import GoSem.ClaimSeven
namespace Go.Proofs.YtkmbgehknpefiaaDoor
namespace Rows

/-- THE TIED CARD OF 'gemotlaw07.WireRights'. -/
def wireRightsCard : Claim7 := { stood := { row := wireRightsRow, standIns := [], harness := (true, "425b0225cf4b386b8fa4f7f0026b06463e18866ad645081b2c148a55e2e6fc0b"), looks := false }, kinds := [], alts := [], laidByText := true, laidKinds := [.data], laidTests := true, laidLooks := .later }
def WireRightsCardSaid : Prop := Claim7.holds Tryd.pinned (.plain (OpenSpec.ofChange wireRightsSpec)) wireRightsCard

/-- THE TIED CARD OF 'gemotlaw07.WireSpoilt'. -/
def wireSpoiltCard : Claim7 := { stood := { row := wireSpoiltRow, standIns := [], harness := (true, "425b0225cf4b386b8fa4f7f0026b06463e18866ad645081b2c148a55e2e6fc0b"), looks := false }, kinds := [], alts := [], laidByText := true, laidKinds := [.data, .data], laidTests := true, laidLooks := .later }
def WireSpoiltCardSaid : Prop := Claim7.holds Tryd.pinned (.plain (OpenSpec.ofChange wireSpoiltSpec)) wireSpoiltCard

/-- THE TIED CARD OF 'gemotlaw07.WireBounds'. -/
def wireBoundsCard : Claim7 := { stood := { row := wireBoundsRow, standIns := [], harness := (true, "425b0225cf4b386b8fa4f7f0026b06463e18866ad645081b2c148a55e2e6fc0b"), looks := false }, kinds := [], alts := [], laidByText := true, laidKinds := [.data], laidTests := true, laidLooks := .later }
def WireBoundsCardSaid : Prop := Claim7.holds Tryd.pinned (.plain (OpenSpec.ofChange wireBoundsSpec)) wireBoundsCard

/-- THE SECOND FORM's CARD OF 'gemotlaw07.WireRights'. -/
def wireRightsUptoCard : Claim7 := { stood := { row := wireRightsUptoRow, standIns := [], harness := (true, "425b0225cf4b386b8fa4f7f0026b06463e18866ad645081b2c148a55e2e6fc0b"), looks := false }, kinds := [], alts := [], laidByText := true, laidKinds := [.data], laidTests := true, laidLooks := .later }
def WireRightsUptoCardSaid : Prop := Claim7.holds Tryd.pinned (.plain (OpenSpec.upto wireRightsSpec)) wireRightsUptoCard

/-- THE SECOND FORM's CARD OF 'gemotlaw07.WireSpoilt'. -/
def wireSpoiltUptoCard : Claim7 := { stood := { row := wireSpoiltUptoRow, standIns := [], harness := (true, "425b0225cf4b386b8fa4f7f0026b06463e18866ad645081b2c148a55e2e6fc0b"), looks := false }, kinds := [], alts := [], laidByText := true, laidKinds := [.data, .data], laidTests := true, laidLooks := .later }
def WireSpoiltUptoCardSaid : Prop := Claim7.holds Tryd.pinned (.plain (OpenSpec.upto wireSpoiltSpec)) wireSpoiltUptoCard

/-- THE SECOND FORM's CARD OF 'gemotlaw07.WireBounds'. -/
def wireBoundsUptoCard : Claim7 := { stood := { row := wireBoundsUptoRow, standIns := [], harness := (true, "425b0225cf4b386b8fa4f7f0026b06463e18866ad645081b2c148a55e2e6fc0b"), looks := false }, kinds := [], alts := [], laidByText := true, laidKinds := [.data], laidTests := true, laidLooks := .later }
def WireBoundsUptoCardSaid : Prop := Claim7.holds Tryd.pinned (.plain (OpenSpec.upto wireBoundsSpec)) wireBoundsUptoCard
end Rows
end Go.Proofs.YtkmbgehknpefiaaDoor
