/-
  DERIVED. GIVEN WITH THE SEED: THE CARDS: each row of YtnlplnlclnbdiaaDoorRows.lean that lists a variable, with what it lists TIED to the program's text (the seventh form; the later family's looks); each row that meets fmt, with fmt's text TOLD by the authors' own Lean function (tested against real Go, not proved from fmt's source: count such statements apart). THE CARD IS WHAT COUNTS. Prove the row's statement (the work); the ties are given (YtnlplnlclnbdiaaDoorTie.lean); close each card by the builder's one call (the guide's Derived/Test/ToyasCard.lean, 'card_holds'). Laid BY PROGRAM, IN A SANDBOX (cutbox-door.mjs). By AI agents, Wed Nov 11 2026. No macro, syntax, notation, axiom, sorry.
-/
import Derived.Test.YtnlplnlclnbdiaaDoorRows
import GoSem.ClaimSeven
namespace Go.Proofs.YtnlplnlclnbdiaaDoor
namespace Rows

/-- THE TIED CARD OF 'conduitlaw04.TrieCovered'. -/
def trieCoveredCard : Claim7 := { stood := { row := trieCoveredRow, standIns := [], harness := (true, "8ffcfd21bea0f3a3b799d1fe71a7e217d08ee82380cdefbd89f96c6e2e9104d0"), looks := false }, kinds := [], alts := [], laidByText := true, laidKinds := [.data, .pinned], laidTests := true, laidLooks := .later }
def TrieCoveredCardSaid : Prop := Claim7.holds Tryd.pinned (.plain (OpenSpec.ofChange trieCoveredSpec)) trieCoveredCard

/-- THE SECOND FORM's CARD OF 'conduitlaw04.TrieCovered'. -/
def trieCoveredUptoCard : Claim7 := { stood := { row := trieCoveredUptoRow, standIns := [], harness := (true, "8ffcfd21bea0f3a3b799d1fe71a7e217d08ee82380cdefbd89f96c6e2e9104d0"), looks := false }, kinds := [], alts := [], laidByText := true, laidKinds := [.data, .pinned], laidTests := true, laidLooks := .later }
def TrieCoveredUptoCardSaid : Prop := Claim7.holds Tryd.pinned (.plain (OpenSpec.upto trieCoveredSpec)) trieCoveredUptoCard
end Rows
end Go.Proofs.YtnlplnlclnbdiaaDoor
