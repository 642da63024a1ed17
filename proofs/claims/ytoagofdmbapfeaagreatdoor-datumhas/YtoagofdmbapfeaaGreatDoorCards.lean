/-
  DERIVED. GIVEN WITH THE SEED: THE CARDS: each row of YtoagofdmbapfeaaGreatDoorRows.lean that lists a variable, with what it lists TIED to the program's text (the seventh form; the later family's looks); each row that meets fmt, with fmt's text TOLD by the authors' own Lean function (tested against real Go, not proved from fmt's source: count such statements apart). THE CARD IS WHAT COUNTS. Prove the row's statement (the work); the ties are given (YtoagofdmbapfeaaGreatDoorTie.lean); close each card by the builder's one call (the guide's Derived/Test/ToyasCard.lean, 'card_holds'). Laid BY PROGRAM, IN A SANDBOX (cutbox-door.mjs). By AI agents, Wed Nov 11 2026. No macro, syntax, notation, axiom, sorry.
-/
import Derived.Test.YtoagofdmbapfeaaGreatDoorRows
import GoSem.ClaimSeven
namespace Go.Proofs.YtoagofdmbapfeaaGreatDoor
namespace Rows

/-- THE TIED CARD OF 'conduitlaw01.DatumHas'. -/
def datumHasCard : Claim7 := { stood := { row := datumHasRow, standIns := [], harness := (true, "d0fd8c5cd2bcb97c40a4cc6f9e7a38a34c7e6dbf5f8159ade894642fd5ee0fad"), looks := true }, kinds := [], alts := [], laidByText := true, laidKinds := [.data, .data, .data, .sentinel, .sentinel, .data], laidTests := true, laidLooks := .later }
def DatumHasCardSaid : Prop := Claim7.holds Tryz.pinned (.plain (OpenSpec.ofChange datumHasSpec)) datumHasCard

/-- THE TIED CARD OF 'conduitlaw01.DatumCalls'. -/
def datumCallsCard : Claim7 := { stood := { row := datumCallsRow, standIns := [], harness := (true, "d0fd8c5cd2bcb97c40a4cc6f9e7a38a34c7e6dbf5f8159ade894642fd5ee0fad"), looks := true }, kinds := [], alts := [], laidByText := true, laidKinds := [.data, .data, .data, .sentinel, .sentinel, .data], laidTests := true, laidLooks := .later }
def DatumCallsCardSaid : Prop := Claim7.holds Tryz.pinned (.plain (OpenSpec.ofChange datumCallsSpec)) datumCallsCard

/-- THE SECOND FORM's CARD OF 'conduitlaw01.DatumHas'. -/
def datumHasUptoCard : Claim7 := { stood := { row := datumHasUptoRow, standIns := [], harness := (true, "d0fd8c5cd2bcb97c40a4cc6f9e7a38a34c7e6dbf5f8159ade894642fd5ee0fad"), looks := true }, kinds := [], alts := [], laidByText := true, laidKinds := [.data, .data, .data, .sentinel, .sentinel, .data], laidTests := true, laidLooks := .later }
def DatumHasUptoCardSaid : Prop := Claim7.holds Tryz.pinned (.plain (OpenSpec.upto datumHasSpec)) datumHasUptoCard

/-- THE SECOND FORM's CARD OF 'conduitlaw01.DatumCalls'. -/
def datumCallsUptoCard : Claim7 := { stood := { row := datumCallsUptoRow, standIns := [], harness := (true, "d0fd8c5cd2bcb97c40a4cc6f9e7a38a34c7e6dbf5f8159ade894642fd5ee0fad"), looks := true }, kinds := [], alts := [], laidByText := true, laidKinds := [.data, .data, .data, .sentinel, .sentinel, .data], laidTests := true, laidLooks := .later }
def DatumCallsUptoCardSaid : Prop := Claim7.holds Tryz.pinned (.plain (OpenSpec.upto datumCallsSpec)) datumCallsUptoCard
end Rows
end Go.Proofs.YtoagofdmbapfeaaGreatDoor
