/-
  DERIVED. GIVEN WITH THE SEED: THE CARDS: each row of YtfkgfcggcfkkiaaDoorRows.lean that lists a variable, with what it lists TIED to the program's text (the seventh form; the later family's looks); each row that meets fmt, with fmt's text TOLD by the authors' own Lean function (tested against real Go, not proved from fmt's source: count such statements apart). THE CARD IS WHAT COUNTS. Prove the row's statement (the work); the ties are given (YtfkgfcggcfkkiaaDoorTie.lean); close each card by the builder's one call (the guide's Derived/Test/ToyasCard.lean, 'card_holds'). Laid BY PROGRAM, IN A SANDBOX (cutbox-door.mjs). By AI agents, Wed Nov 11 2026. No macro, syntax, notation, axiom, sorry.
-/
import Derived.Test.YtfkgfcggcfkkiaaDoorRows
import GoSem.ClaimSeven
namespace Go.Proofs.YtfkgfcggcfkkiaaDoor
namespace Rows

/-- THE TIED CARD OF 'mintvaultlaw4.WireParses'. -/
def wireParsesCard : Claim7 := { stood := { row := wireParsesRow, standIns := [], harness := (true, "8d0c530668e29fb47c8ac024b3ce9e475b701e023b8ce76ee427210ebd9a8673"), looks := false }, kinds := [], alts := [], laidByText := true, laidKinds := [.data, .pinned], laidTests := true, laidLooks := .later }
def WireParsesCardSaid : Prop := Claim7.holds Tryd.pinned (.plain (OpenSpec.ofChange wireParsesSpec)) wireParsesCard

/-- THE TIED CARD OF 'mintvaultlaw4.WirePrints'. -/
def wirePrintsCard : Claim7 := { stood := { row := wirePrintsRow, standIns := [], harness := (true, "8d0c530668e29fb47c8ac024b3ce9e475b701e023b8ce76ee427210ebd9a8673"), looks := false }, kinds := [], alts := [], laidByText := true, laidKinds := [.data, .pinned], laidTests := true, laidLooks := .later }
def WirePrintsCardSaid : Prop := Claim7.holds Tryd.pinned (.plain (OpenSpec.ofChange wirePrintsSpec)) wirePrintsCard

/-- THE TIED CARD OF 'mintvaultlaw4.WireTurns'. -/
def wireTurnsCard : Claim7 := { stood := { row := wireTurnsRow, standIns := [], harness := (true, "8d0c530668e29fb47c8ac024b3ce9e475b701e023b8ce76ee427210ebd9a8673"), looks := false }, kinds := [], alts := [], laidByText := true, laidKinds := [.data, .pinned], laidTests := true, laidLooks := .later }
def WireTurnsCardSaid : Prop := Claim7.holds Tryd.pinned (.plain (OpenSpec.ofChange wireTurnsSpec)) wireTurnsCard

/-- THE TIED CARD OF 'mintvaultlaw4.WireTokens'. -/
def wireTokensCard : Claim7 := { stood := { row := wireTokensRow, standIns := [], harness := (true, "8d0c530668e29fb47c8ac024b3ce9e475b701e023b8ce76ee427210ebd9a8673"), looks := false }, kinds := [], alts := [], laidByText := true, laidKinds := [.data, .pinned], laidTests := true, laidLooks := .later }
def WireTokensCardSaid : Prop := Claim7.holds Tryd.pinned (.plain (OpenSpec.ofChange wireTokensSpec)) wireTokensCard

/-- THE SECOND FORM's CARD OF 'mintvaultlaw4.WireParses'. -/
def wireParsesUptoCard : Claim7 := { stood := { row := wireParsesUptoRow, standIns := [], harness := (true, "8d0c530668e29fb47c8ac024b3ce9e475b701e023b8ce76ee427210ebd9a8673"), looks := false }, kinds := [], alts := [], laidByText := true, laidKinds := [.data, .pinned], laidTests := true, laidLooks := .later }
def WireParsesUptoCardSaid : Prop := Claim7.holds Tryd.pinned (.plain (OpenSpec.upto wireParsesSpec)) wireParsesUptoCard

/-- THE SECOND FORM's CARD OF 'mintvaultlaw4.WirePrints'. -/
def wirePrintsUptoCard : Claim7 := { stood := { row := wirePrintsUptoRow, standIns := [], harness := (true, "8d0c530668e29fb47c8ac024b3ce9e475b701e023b8ce76ee427210ebd9a8673"), looks := false }, kinds := [], alts := [], laidByText := true, laidKinds := [.data, .pinned], laidTests := true, laidLooks := .later }
def WirePrintsUptoCardSaid : Prop := Claim7.holds Tryd.pinned (.plain (OpenSpec.upto wirePrintsSpec)) wirePrintsUptoCard

/-- THE SECOND FORM's CARD OF 'mintvaultlaw4.WireTurns'. -/
def wireTurnsUptoCard : Claim7 := { stood := { row := wireTurnsUptoRow, standIns := [], harness := (true, "8d0c530668e29fb47c8ac024b3ce9e475b701e023b8ce76ee427210ebd9a8673"), looks := false }, kinds := [], alts := [], laidByText := true, laidKinds := [.data, .pinned], laidTests := true, laidLooks := .later }
def WireTurnsUptoCardSaid : Prop := Claim7.holds Tryd.pinned (.plain (OpenSpec.upto wireTurnsSpec)) wireTurnsUptoCard

/-- THE SECOND FORM's CARD OF 'mintvaultlaw4.WireTokens'. -/
def wireTokensUptoCard : Claim7 := { stood := { row := wireTokensUptoRow, standIns := [], harness := (true, "8d0c530668e29fb47c8ac024b3ce9e475b701e023b8ce76ee427210ebd9a8673"), looks := false }, kinds := [], alts := [], laidByText := true, laidKinds := [.data, .pinned], laidTests := true, laidLooks := .later }
def WireTokensUptoCardSaid : Prop := Claim7.holds Tryd.pinned (.plain (OpenSpec.upto wireTokensSpec)) wireTokensUptoCard
end Rows
end Go.Proofs.YtfkgfcggcfkkiaaDoor
