/-
  DERIVED. GIVEN WITH THE SEED: THE CARDS: each row of YtlmebokbbhjbmaaGreatDoorRows.lean that lists a variable, with what it lists TIED to the program's text (the seventh form; the later family's looks); each row that meets fmt, with fmt's text TOLD by the authors' own Lean function (tested against real Go, not proved from fmt's source: count such statements apart). THE CARD IS WHAT COUNTS. Prove the row's statement (the work); the ties are given (YtlmebokbbhjbmaaGreatDoorTie.lean); close each card by the builder's one call (the guide's Derived/Test/ToyasCard.lean, 'card_holds'). Laid BY PROGRAM, IN A SANDBOX (cutbox-door.mjs). By AI agents, Wed Nov 11 2026. No macro, syntax, notation, axiom, sorry.
-/
import Derived.Test.YtlmebokbbhjbmaaGreatDoorRows
import GoSem.ClaimSeven
namespace Go.Proofs.YtlmebokbbhjbmaaGreatDoor
namespace Rows

/-- THE TIED CARD OF 'conduitlaw01.DatumCalls'. -/
def datumCallsCard : Claim7 := { stood := { row := datumCallsRow, standIns := [], harness := (true, "3d1ad576b13c7067dcae73a47d127ade7771cb32fc9cbc5b2d2ea0e810e69f44"), looks := true }, kinds := [], alts := [], laidByText := true, laidKinds := [.data, .data, .data, .sentinel, .sentinel, .data], laidTests := true, laidLooks := .later }
def DatumCallsCardSaid : Prop := Claim7.holds Tryz.pinned (.plain (OpenSpec.ofChange datumCallsSpec)) datumCallsCard

/-- THE SECOND FORM's CARD OF 'conduitlaw01.DatumCalls'. -/
def datumCallsUptoCard : Claim7 := { stood := { row := datumCallsUptoRow, standIns := [], harness := (true, "3d1ad576b13c7067dcae73a47d127ade7771cb32fc9cbc5b2d2ea0e810e69f44"), looks := true }, kinds := [], alts := [], laidByText := true, laidKinds := [.data, .data, .data, .sentinel, .sentinel, .data], laidTests := true, laidLooks := .later }
def DatumCallsUptoCardSaid : Prop := Claim7.holds Tryz.pinned (.plain (OpenSpec.upto datumCallsSpec)) datumCallsUptoCard
end Rows
end Go.Proofs.YtlmebokbbhjbmaaGreatDoor
