/-
  DERIVED. GIVEN WITH THE SEED: THE CARDS: each row of YtgijdiplhcoojaaGreatDoorRows.lean that lists a variable, with what it lists TIED to the program's text (the seventh form; the later family's looks); each row that meets fmt, with fmt's text TOLD by the authors' own Lean function (tested against real Go, not proved from fmt's source: count such statements apart). THE CARD IS WHAT COUNTS. Prove the row's statement (the work); the ties are given (YtgijdiplhcoojaaGreatDoorTie.lean); close each card by the builder's one call (the guide's Derived/Test/ToyasCard.lean, 'card_holds'). Laid BY PROGRAM, IN A SANDBOX (cutbox-door.mjs). By AI agents, Wed Nov 11 2026. No macro, syntax, notation, axiom, sorry.
-/
import Derived.Test.YtgijdiplhcoojaaGreatDoorRows
import GoSem.ClaimSeven
namespace Go.Proofs.YtgijdiplhcoojaaGreatDoor
namespace Rows

/-- THE TIED CARD OF 'conduitlaw10.CoreFits'. -/
def coreFitsCard : Claim7 := { stood := { row := coreFitsRow, standIns := [], harness := (true, "2b3463d98b655a0b62ee7c035c260faab45d1112733fb63ea9fa1541d9f7fc97"), looks := true }, kinds := [], alts := [], laidByText := true, laidKinds := [.data, .data], laidTests := true, laidLooks := .later }
def CoreFitsCardSaid : Prop := Claim7.holds Tryz.pinned (.plain (OpenSpec.ofChange coreFitsSpec)) coreFitsCard

/-- THE TIED CARD OF 'conduitlaw10.CoreWords'. -/
def coreWordsCard : Claim7 := { stood := { row := coreWordsRow, standIns := [], harness := (true, "2b3463d98b655a0b62ee7c035c260faab45d1112733fb63ea9fa1541d9f7fc97"), looks := true }, kinds := [], alts := [], laidByText := true, laidKinds := [.data], laidTests := true, laidLooks := .later }
def CoreWordsCardSaid : Prop := Claim7.holds Tryz.pinned (.plain (OpenSpec.ofChange coreWordsSpec)) coreWordsCard

/-- THE SECOND FORM's CARD OF 'conduitlaw10.CoreFits'. -/
def coreFitsUptoCard : Claim7 := { stood := { row := coreFitsUptoRow, standIns := [], harness := (true, "2b3463d98b655a0b62ee7c035c260faab45d1112733fb63ea9fa1541d9f7fc97"), looks := true }, kinds := [], alts := [], laidByText := true, laidKinds := [.data, .data], laidTests := true, laidLooks := .later }
def CoreFitsUptoCardSaid : Prop := Claim7.holds Tryz.pinned (.plain (OpenSpec.upto coreFitsSpec)) coreFitsUptoCard

/-- THE SECOND FORM's CARD OF 'conduitlaw10.CoreWords'. -/
def coreWordsUptoCard : Claim7 := { stood := { row := coreWordsUptoRow, standIns := [], harness := (true, "2b3463d98b655a0b62ee7c035c260faab45d1112733fb63ea9fa1541d9f7fc97"), looks := true }, kinds := [], alts := [], laidByText := true, laidKinds := [.data], laidTests := true, laidLooks := .later }
def CoreWordsUptoCardSaid : Prop := Claim7.holds Tryz.pinned (.plain (OpenSpec.upto coreWordsSpec)) coreWordsUptoCard
end Rows
end Go.Proofs.YtgijdiplhcoojaaGreatDoor
