/-
  DERIVED. GIVEN WITH THE SEED: THE CARDS: each row of YtoagofdmbapfeabDoorRows.lean that lists a variable, with what it lists TIED to the program's text (the seventh form; the later family's looks); each row that meets fmt, with fmt's text TOLD by the authors' own Lean function (tested against real Go, not proved from fmt's source: count such statements apart). THE CARD IS WHAT COUNTS. Prove the row's statement (the work); the ties are given (YtoagofdmbapfeabDoorTie.lean); close each card by the builder's one call (the guide's Derived/Test/ToyasCard.lean, 'card_holds'). Laid BY PROGRAM, IN A SANDBOX (cutbox-door.mjs). By AI agents, Wed Nov 11 2026. No macro, syntax, notation, axiom, sorry.
-/
import Derived.Test.YtoagofdmbapfeabDoorRows
import GoSem.ClaimSeven
namespace Go.Proofs.YtoagofdmbapfeabDoor
namespace Rows

/-- THE TIED CARD OF 'conduitlaw01.DatumMirrors'. -/
def datumMirrorsCard : Claim7 := { stood := { row := datumMirrorsRow, standIns := [], harness := (true, "f1404f455427f41876ad922b97db5d7af78ec627360d83eec6a73e0b663c7546"), looks := true }, kinds := [], alts := [], laidByText := true, laidKinds := [.data, .data, .data, .sentinel, .sentinel, .data], laidTests := true, laidLooks := .later }
def DatumMirrorsCardSaid : Prop := Claim7.holds Tryd.pinned (.plain (OpenSpec.ofChange datumMirrorsSpec)) datumMirrorsCard

/-- THE TIED CARD OF 'conduitlaw01.DatumTexts'. -/
def datumTextsCard : Claim7 := { stood := { row := datumTextsRow, standIns := [], harness := (true, "f1404f455427f41876ad922b97db5d7af78ec627360d83eec6a73e0b663c7546"), looks := true }, kinds := [], alts := [], laidByText := true, laidKinds := [.data, .data, .data, .sentinel, .sentinel, .data], laidTests := true, laidLooks := .later }
def DatumTextsCardSaid : Prop := Claim7.holds Tryd.pinned (.plain (OpenSpec.ofChange datumTextsSpec)) datumTextsCard

/-- THE TIED CARD OF 'conduitlaw01.DatumGrouped'. -/
def datumGroupedCard : Claim7 := { stood := { row := datumGroupedRow, standIns := [], harness := (true, "f1404f455427f41876ad922b97db5d7af78ec627360d83eec6a73e0b663c7546"), looks := true }, kinds := [], alts := [], laidByText := true, laidKinds := [.data, .data, .data, .sentinel, .sentinel, .data], laidTests := true, laidLooks := .later }
def DatumGroupedCardSaid : Prop := Claim7.holds Tryd.pinned (.plain (OpenSpec.ofChange datumGroupedSpec)) datumGroupedCard

/-- THE SECOND FORM's CARD OF 'conduitlaw01.DatumMirrors'. -/
def datumMirrorsUptoCard : Claim7 := { stood := { row := datumMirrorsUptoRow, standIns := [], harness := (true, "f1404f455427f41876ad922b97db5d7af78ec627360d83eec6a73e0b663c7546"), looks := true }, kinds := [], alts := [], laidByText := true, laidKinds := [.data, .data, .data, .sentinel, .sentinel, .data], laidTests := true, laidLooks := .later }
def DatumMirrorsUptoCardSaid : Prop := Claim7.holds Tryd.pinned (.plain (OpenSpec.upto datumMirrorsSpec)) datumMirrorsUptoCard

/-- THE SECOND FORM's CARD OF 'conduitlaw01.DatumTexts'. -/
def datumTextsUptoCard : Claim7 := { stood := { row := datumTextsUptoRow, standIns := [], harness := (true, "f1404f455427f41876ad922b97db5d7af78ec627360d83eec6a73e0b663c7546"), looks := true }, kinds := [], alts := [], laidByText := true, laidKinds := [.data, .data, .data, .sentinel, .sentinel, .data], laidTests := true, laidLooks := .later }
def DatumTextsUptoCardSaid : Prop := Claim7.holds Tryd.pinned (.plain (OpenSpec.upto datumTextsSpec)) datumTextsUptoCard

/-- THE SECOND FORM's CARD OF 'conduitlaw01.DatumGrouped'. -/
def datumGroupedUptoCard : Claim7 := { stood := { row := datumGroupedUptoRow, standIns := [], harness := (true, "f1404f455427f41876ad922b97db5d7af78ec627360d83eec6a73e0b663c7546"), looks := true }, kinds := [], alts := [], laidByText := true, laidKinds := [.data, .data, .data, .sentinel, .sentinel, .data], laidTests := true, laidLooks := .later }
def DatumGroupedUptoCardSaid : Prop := Claim7.holds Tryd.pinned (.plain (OpenSpec.upto datumGroupedSpec)) datumGroupedUptoCard
end Rows
end Go.Proofs.YtoagofdmbapfeabDoor
