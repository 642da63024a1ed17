/-
  DERIVED. GIVEN WITH THE SEED: THE CARDS: each row of YteohpiamfpnofabDoorRows.lean that lists a variable, with what it lists TIED to the program's text (the seventh form; the later family's looks); each row that meets fmt, with fmt's text TOLD by the authors' own Lean function (tested against real Go, not proved from fmt's source: count such statements apart). THE CARD IS WHAT COUNTS. Prove the row's statement (the work); the ties are given (YteohpiamfpnofabDoorTie.lean); close each card by the builder's one call (the guide's Derived/Test/ToyasCard.lean, 'card_holds'). Laid BY PROGRAM, IN A SANDBOX (cutbox-door.mjs). By AI agents, Wed Nov 11 2026. No macro, syntax, notation, axiom, sorry.
-/
import Derived.Test.YteohpiamfpnofabDoorRows
import GoSem.ClaimSeven
namespace Go.Proofs.YteohpiamfpnofabDoor
namespace Rows

/-- THE TIED CARD OF 'conduitlaw06.ScanTwice'. -/
def scanTwiceCard : Claim7 := { stood := { row := scanTwiceRow, standIns := [], harness := (true, "f4b7ab1bbb2c2e3324df08717cbc6593f780352e57d12d3cf59b9ab723bb6b72"), looks := true }, kinds := [], alts := [], laidByText := true, laidKinds := [.data, .data, .data, .sentinel, .sentinel, .data], laidTests := true, laidLooks := .later }
def ScanTwiceCardSaid : Prop := Claim7.holds Tryd.pinned (.plain (OpenSpec.ofChange scanTwiceSpec)) scanTwiceCard

/-- THE SECOND FORM's CARD OF 'conduitlaw06.ScanTwice'. -/
def scanTwiceUptoCard : Claim7 := { stood := { row := scanTwiceUptoRow, standIns := [], harness := (true, "f4b7ab1bbb2c2e3324df08717cbc6593f780352e57d12d3cf59b9ab723bb6b72"), looks := true }, kinds := [], alts := [], laidByText := true, laidKinds := [.data, .data, .data, .sentinel, .sentinel, .data], laidTests := true, laidLooks := .later }
def ScanTwiceUptoCardSaid : Prop := Claim7.holds Tryd.pinned (.plain (OpenSpec.upto scanTwiceSpec)) scanTwiceUptoCard
end Rows
end Go.Proofs.YteohpiamfpnofabDoor
