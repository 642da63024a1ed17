/-
  DERIVED. GIVEN WITH THE SEED: THE CARDS: each row of YtoagofdmbapfeabGreatDoorRows.lean that lists a variable, with what it lists TIED to the program's text (the seventh form; the later family's looks); each row that meets fmt, with fmt's text TOLD by the authors' own Lean function (tested against real Go, not proved from fmt's source: count such statements apart). THE CARD IS WHAT COUNTS. Prove the row's statement (the work); the ties are given (YtoagofdmbapfeabGreatDoorTie.lean); close each card by the builder's one call (the guide's Derived/Test/ToyasCard.lean, 'card_holds'). Laid BY PROGRAM, IN A SANDBOX (cutbox-door.mjs). By AI agents, Wed Nov 11 2026. No macro, syntax, notation, axiom, sorry.
-/
import Derived.Test.YtoagofdmbapfeabGreatDoorRows
import GoSem.ClaimSeven
namespace Go.Proofs.YtoagofdmbapfeabGreatDoor
namespace Rows

/-- THE TIED CARD OF 'conduitlaw01.DatumParses'. -/
def datumParsesCard : Claim7 := { stood := { row := datumParsesRow, standIns := [], harness := (true, "5b7db569502d2b5de20f12cf8ba592c3fabc5ac10491b10f15d4d6ac2b301075"), looks := true }, kinds := [], alts := [], laidByText := true, laidKinds := [.data, .data, .data, .sentinel, .sentinel, .data], laidTests := true, laidLooks := .later }
def DatumParsesCardSaid : Prop := Claim7.holds Tryz.pinned (.plain (OpenSpec.ofChange datumParsesSpec)) datumParsesCard

/-- THE TIED CARD OF 'conduitlaw01.DatumOrders'. -/
def datumOrdersCard : Claim7 := { stood := { row := datumOrdersRow, standIns := [], harness := (true, "5b7db569502d2b5de20f12cf8ba592c3fabc5ac10491b10f15d4d6ac2b301075"), looks := true }, kinds := [], alts := [], laidByText := true, laidKinds := [.data, .data, .data, .sentinel, .sentinel, .data], laidTests := true, laidLooks := .later }
def DatumOrdersCardSaid : Prop := Claim7.holds Tryz.pinned (.plain (OpenSpec.ofChange datumOrdersSpec)) datumOrdersCard

/-- THE TIED CARD OF 'conduitlaw01.DatumOwn'. -/
def datumOwnCard : Claim7 := { stood := { row := datumOwnRow, standIns := [], harness := (true, "5b7db569502d2b5de20f12cf8ba592c3fabc5ac10491b10f15d4d6ac2b301075"), looks := true }, kinds := [], alts := [], laidByText := true, laidKinds := [.data, .data, .data, .sentinel, .sentinel, .data], laidTests := true, laidLooks := .later }
def DatumOwnCardSaid : Prop := Claim7.holds Tryz.pinned (.plain (OpenSpec.ofChange datumOwnSpec)) datumOwnCard

/-- THE SECOND FORM's CARD OF 'conduitlaw01.DatumParses'. -/
def datumParsesUptoCard : Claim7 := { stood := { row := datumParsesUptoRow, standIns := [], harness := (true, "5b7db569502d2b5de20f12cf8ba592c3fabc5ac10491b10f15d4d6ac2b301075"), looks := true }, kinds := [], alts := [], laidByText := true, laidKinds := [.data, .data, .data, .sentinel, .sentinel, .data], laidTests := true, laidLooks := .later }
def DatumParsesUptoCardSaid : Prop := Claim7.holds Tryz.pinned (.plain (OpenSpec.upto datumParsesSpec)) datumParsesUptoCard

/-- THE SECOND FORM's CARD OF 'conduitlaw01.DatumOrders'. -/
def datumOrdersUptoCard : Claim7 := { stood := { row := datumOrdersUptoRow, standIns := [], harness := (true, "5b7db569502d2b5de20f12cf8ba592c3fabc5ac10491b10f15d4d6ac2b301075"), looks := true }, kinds := [], alts := [], laidByText := true, laidKinds := [.data, .data, .data, .sentinel, .sentinel, .data], laidTests := true, laidLooks := .later }
def DatumOrdersUptoCardSaid : Prop := Claim7.holds Tryz.pinned (.plain (OpenSpec.upto datumOrdersSpec)) datumOrdersUptoCard

/-- THE SECOND FORM's CARD OF 'conduitlaw01.DatumOwn'. -/
def datumOwnUptoCard : Claim7 := { stood := { row := datumOwnUptoRow, standIns := [], harness := (true, "5b7db569502d2b5de20f12cf8ba592c3fabc5ac10491b10f15d4d6ac2b301075"), looks := true }, kinds := [], alts := [], laidByText := true, laidKinds := [.data, .data, .data, .sentinel, .sentinel, .data], laidTests := true, laidLooks := .later }
def DatumOwnUptoCardSaid : Prop := Claim7.holds Tryz.pinned (.plain (OpenSpec.upto datumOwnSpec)) datumOwnUptoCard
end Rows
end Go.Proofs.YtoagofdmbapfeabGreatDoor
