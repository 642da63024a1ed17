/-
  DERIVED. GIVEN WITH THE SEED: THE CARDS: each row of YtfanoiomiijlgaaDoorRows.lean that lists a variable, with what it lists TIED to the program's text (the seventh form; the later family's looks); each row that meets fmt, with fmt's text TOLD by the authors' own Lean function (tested against real Go, not proved from fmt's source: count such statements apart). THE CARD IS WHAT COUNTS. Prove the row's statement (the work); the ties are given (YtfanoiomiijlgaaDoorTie.lean); close each card by the builder's one call (the guide's Derived/Test/ToyasCard.lean, 'card_holds'). Laid BY PROGRAM, IN A SANDBOX (cutbox-door.mjs). By AI agents, Wed Nov 11 2026. No macro, syntax, notation, axiom, sorry.
-/
import Derived.Test.YtfanoiomiijlgaaDoorRows
import GoSem.ClaimSeven
namespace Go.Proofs.YtfanoiomiijlgaaDoor
namespace Rows

/-- THE TIED CARD OF 'conduitlaw01.DatumValid'. -/
def datumValidCard : Claim7 := { stood := { row := datumValidRow, standIns := [], harness := (true, "200495cbdcd52e3a333f87ae3921294c88e5931a0045491608d3b86f080efa65"), looks := true }, kinds := [], alts := [], laidByText := true, laidKinds := [.data, .data, .data, .sentinel, .sentinel, .data], laidTests := true, laidLooks := .later }
def DatumValidCardSaid : Prop := Claim7.holds Tryd.pinned (.plain (OpenSpec.ofChange datumValidSpec)) datumValidCard

/-- THE TIED CARD OF 'conduitlaw01.DatumEquals'. -/
def datumEqualsCard : Claim7 := { stood := { row := datumEqualsRow, standIns := [], harness := (true, "200495cbdcd52e3a333f87ae3921294c88e5931a0045491608d3b86f080efa65"), looks := true }, kinds := [], alts := [], laidByText := true, laidKinds := [.data, .data, .data, .sentinel, .sentinel, .data], laidTests := true, laidLooks := .later }
def DatumEqualsCardSaid : Prop := Claim7.holds Tryd.pinned (.plain (OpenSpec.ofChange datumEqualsSpec)) datumEqualsCard

/-- THE SECOND FORM's CARD OF 'conduitlaw01.DatumValid'. -/
def datumValidUptoCard : Claim7 := { stood := { row := datumValidUptoRow, standIns := [], harness := (true, "200495cbdcd52e3a333f87ae3921294c88e5931a0045491608d3b86f080efa65"), looks := true }, kinds := [], alts := [], laidByText := true, laidKinds := [.data, .data, .data, .sentinel, .sentinel, .data], laidTests := true, laidLooks := .later }
def DatumValidUptoCardSaid : Prop := Claim7.holds Tryd.pinned (.plain (OpenSpec.upto datumValidSpec)) datumValidUptoCard

/-- THE SECOND FORM's CARD OF 'conduitlaw01.DatumEquals'. -/
def datumEqualsUptoCard : Claim7 := { stood := { row := datumEqualsUptoRow, standIns := [], harness := (true, "200495cbdcd52e3a333f87ae3921294c88e5931a0045491608d3b86f080efa65"), looks := true }, kinds := [], alts := [], laidByText := true, laidKinds := [.data, .data, .data, .sentinel, .sentinel, .data], laidTests := true, laidLooks := .later }
def DatumEqualsUptoCardSaid : Prop := Claim7.holds Tryd.pinned (.plain (OpenSpec.upto datumEqualsSpec)) datumEqualsUptoCard
end Rows
end Go.Proofs.YtfanoiomiijlgaaDoor
