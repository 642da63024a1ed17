/-
  DERIVED. GIVEN WITH THE SEED: THE CARDS: each row of YtajagjcfmaggiaaGreatDoorRows.lean that lists a variable, with what it lists TIED to the program's text (the seventh form; the later family's looks); each row that meets fmt, with fmt's text TOLD by the authors' own Lean function (tested against real Go, not proved from fmt's source: count such statements apart). THE CARD IS WHAT COUNTS. Prove the row's statement (the work); the ties are given (YtajagjcfmaggiaaGreatDoorTie.lean); close each card by the builder's one call (the guide's Derived/Test/ToyasCard.lean, 'card_holds'). Laid BY PROGRAM, IN A SANDBOX (cutbox-door.mjs). By AI agents, Wed Nov 11 2026. No macro, syntax, notation, axiom, sorry.
-/
import Derived.Test.YtajagjcfmaggiaaGreatDoorRows
import GoSem.ClaimSeven
namespace Go.Proofs.YtajagjcfmaggiaaGreatDoor
namespace Rows

/-- THE TIED CARD OF 'conduitlaw17.ShapeMaps'. -/
def shapeMapsCard : Claim7 := { stood := { row := shapeMapsRow, standIns := [], harness := (true, "0463e9235b7206369ca0295247fc539034c1a94e443e2235256cf0dc6a906df8"), looks := true }, kinds := [], alts := [], laidByText := true, laidKinds := [.data, .data, .data, .data], laidTests := true, laidLooks := .later }
def ShapeMapsCardSaid : Prop := Claim7.holds Tryz.pinned (.plain (OpenSpec.ofChange shapeMapsSpec)) shapeMapsCard

/-- THE TIED CARD OF 'conduitlaw17.ShapePasses'. -/
def shapePassesCard : Claim7 := { stood := { row := shapePassesRow, standIns := [], harness := (true, "0463e9235b7206369ca0295247fc539034c1a94e443e2235256cf0dc6a906df8"), looks := true }, kinds := [], alts := [], laidByText := true, laidKinds := [.data], laidTests := true, laidLooks := .later }
def ShapePassesCardSaid : Prop := Claim7.holds Tryz.pinned (.plain (OpenSpec.ofChange shapePassesSpec)) shapePassesCard

/-- THE TIED CARD OF 'conduitlaw17.ShapeRows'. -/
def shapeRowsCard : Claim7 := { stood := { row := shapeRowsRow, standIns := [], harness := (true, "0463e9235b7206369ca0295247fc539034c1a94e443e2235256cf0dc6a906df8"), looks := true }, kinds := [], alts := [], laidByText := true, laidKinds := [.data, .data, .data, .data], laidTests := true, laidLooks := .later }
def ShapeRowsCardSaid : Prop := Claim7.holds Tryz.pinned (.plain (OpenSpec.ofChange shapeRowsSpec)) shapeRowsCard

/-- THE TIED CARD OF 'conduitlaw17.ShapeKinds'. -/
def shapeKindsCard : Claim7 := { stood := { row := shapeKindsRow, standIns := [], harness := (true, "0463e9235b7206369ca0295247fc539034c1a94e443e2235256cf0dc6a906df8"), looks := true }, kinds := [], alts := [], laidByText := true, laidKinds := [.data], laidTests := true, laidLooks := .later }
def ShapeKindsCardSaid : Prop := Claim7.holds Tryz.pinned (.plain (OpenSpec.ofChange shapeKindsSpec)) shapeKindsCard

/-- THE SECOND FORM's CARD OF 'conduitlaw17.ShapeMaps'. -/
def shapeMapsUptoCard : Claim7 := { stood := { row := shapeMapsUptoRow, standIns := [], harness := (true, "0463e9235b7206369ca0295247fc539034c1a94e443e2235256cf0dc6a906df8"), looks := true }, kinds := [], alts := [], laidByText := true, laidKinds := [.data, .data, .data, .data], laidTests := true, laidLooks := .later }
def ShapeMapsUptoCardSaid : Prop := Claim7.holds Tryz.pinned (.plain (OpenSpec.upto shapeMapsSpec)) shapeMapsUptoCard

/-- THE SECOND FORM's CARD OF 'conduitlaw17.ShapePasses'. -/
def shapePassesUptoCard : Claim7 := { stood := { row := shapePassesUptoRow, standIns := [], harness := (true, "0463e9235b7206369ca0295247fc539034c1a94e443e2235256cf0dc6a906df8"), looks := true }, kinds := [], alts := [], laidByText := true, laidKinds := [.data], laidTests := true, laidLooks := .later }
def ShapePassesUptoCardSaid : Prop := Claim7.holds Tryz.pinned (.plain (OpenSpec.upto shapePassesSpec)) shapePassesUptoCard

/-- THE SECOND FORM's CARD OF 'conduitlaw17.ShapeRows'. -/
def shapeRowsUptoCard : Claim7 := { stood := { row := shapeRowsUptoRow, standIns := [], harness := (true, "0463e9235b7206369ca0295247fc539034c1a94e443e2235256cf0dc6a906df8"), looks := true }, kinds := [], alts := [], laidByText := true, laidKinds := [.data, .data, .data, .data], laidTests := true, laidLooks := .later }
def ShapeRowsUptoCardSaid : Prop := Claim7.holds Tryz.pinned (.plain (OpenSpec.upto shapeRowsSpec)) shapeRowsUptoCard

/-- THE SECOND FORM's CARD OF 'conduitlaw17.ShapeKinds'. -/
def shapeKindsUptoCard : Claim7 := { stood := { row := shapeKindsUptoRow, standIns := [], harness := (true, "0463e9235b7206369ca0295247fc539034c1a94e443e2235256cf0dc6a906df8"), looks := true }, kinds := [], alts := [], laidByText := true, laidKinds := [.data], laidTests := true, laidLooks := .later }
def ShapeKindsUptoCardSaid : Prop := Claim7.holds Tryz.pinned (.plain (OpenSpec.upto shapeKindsSpec)) shapeKindsUptoCard
end Rows
end Go.Proofs.YtajagjcfmaggiaaGreatDoor
