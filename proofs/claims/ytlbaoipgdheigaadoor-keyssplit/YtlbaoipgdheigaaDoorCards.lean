/-
  DERIVED. GIVEN WITH THE SEED: THE CARDS: each row of YtlbaoipgdheigaaDoorRows.lean that lists a variable, with what it lists TIED to the program's text (the seventh form; the later family's looks); each row that meets fmt, with fmt's text TOLD by the authors' own Lean function (tested against real Go, not proved from fmt's source: count such statements apart). THE CARD IS WHAT COUNTS. Prove the row's statement (the work); the ties are given (YtlbaoipgdheigaaDoorTie.lean); close each card by the builder's one call (the guide's Derived/Test/ToyasCard.lean, 'card_holds'). Laid BY PROGRAM, IN A SANDBOX (cutbox-door.mjs). By AI agents, Wed Nov 11 2026. No macro, syntax, notation, axiom, sorry.
-/
import Derived.Test.YtlbaoipgdheigaaDoorRows
import GoSem.ClaimSeven
namespace Go.Proofs.YtlbaoipgdheigaaDoor
namespace Rows

/-- THE TIED CARD OF 'mintvaultlaw9.KeysSplit'. -/
def keysSplitCard : Claim7 := { stood := { row := keysSplitRow, standIns := [], harness := (true, "1d1df7c586b2ae80d2a2552f3b877293b3b83e72ed1522cebc0b732f414c7790"), looks := false }, kinds := [], alts := [], laidByText := true, laidKinds := [.data], laidTests := true, laidLooks := .later }
def KeysSplitCardSaid : Prop := Claim7.holds Tryd.pinned (.plain (OpenSpec.ofChange keysSplitSpec)) keysSplitCard

/-- THE SECOND FORM's CARD OF 'mintvaultlaw9.KeysSplit'. -/
def keysSplitUptoCard : Claim7 := { stood := { row := keysSplitUptoRow, standIns := [], harness := (true, "1d1df7c586b2ae80d2a2552f3b877293b3b83e72ed1522cebc0b732f414c7790"), looks := false }, kinds := [], alts := [], laidByText := true, laidKinds := [.data], laidTests := true, laidLooks := .later }
def KeysSplitUptoCardSaid : Prop := Claim7.holds Tryd.pinned (.plain (OpenSpec.upto keysSplitSpec)) keysSplitUptoCard
end Rows
end Go.Proofs.YtlbaoipgdheigaaDoor
