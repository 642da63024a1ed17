/-
  DERIVED. GIVEN WITH THE SEED: THE CARDS: each row of YtgpbnmlcfimnnaaGreatDoorRows.lean that lists a variable, with what it lists TIED to the program's text (the seventh form; the later family's looks); each row that meets fmt, with fmt's text TOLD by the authors' own Lean function (tested against real Go, not proved from fmt's source: count such statements apart). THE CARD IS WHAT COUNTS. Prove the row's statement (the work); the ties are given (YtgpbnmlcfimnnaaGreatDoorTie.lean); close each card by the builder's one call (the guide's Derived/Test/ToyasCard.lean, 'card_holds'). Laid BY PROGRAM, IN A SANDBOX (cutbox-door.mjs). By AI agents, Wed Nov 11 2026. No macro, syntax, notation, axiom, sorry.
-/
import Derived.Test.YtgpbnmlcfimnnaaGreatDoorRows
import GoSem.ClaimSeven
namespace Go.Proofs.YtgpbnmlcfimnnaaGreatDoor
namespace Rows

/-- THE TIED CARD OF 'conduitlaw01.DatumOrders'. -/
def datumOrdersCard : Claim7 := { stood := { row := datumOrdersRow, standIns := [], harness := (true, "3f2adb74d531eebe740fdc3f8bd93213f4f4ccc411fe4d649b33351576513ff0"), looks := true }, kinds := [], alts := [], laidByText := true, laidKinds := [.data, .data, .data, .sentinel, .sentinel, .data], laidTests := true, laidLooks := .later }
def DatumOrdersCardSaid : Prop := Claim7.holds Tryz.pinned (.plain (OpenSpec.ofChange datumOrdersSpec)) datumOrdersCard

/-- THE SECOND FORM's CARD OF 'conduitlaw01.DatumOrders'. -/
def datumOrdersUptoCard : Claim7 := { stood := { row := datumOrdersUptoRow, standIns := [], harness := (true, "3f2adb74d531eebe740fdc3f8bd93213f4f4ccc411fe4d649b33351576513ff0"), looks := true }, kinds := [], alts := [], laidByText := true, laidKinds := [.data, .data, .data, .sentinel, .sentinel, .data], laidTests := true, laidLooks := .later }
def DatumOrdersUptoCardSaid : Prop := Claim7.holds Tryz.pinned (.plain (OpenSpec.upto datumOrdersSpec)) datumOrdersUptoCard
end Rows
end Go.Proofs.YtgpbnmlcfimnnaaGreatDoor
