/-
  DERIVED. GIVEN WITH THE SEED: THE CARDS: each row of YthgfijhbeahkhaaGreatDoorRows.lean that lists a variable, with what it lists TIED to the program's text (the seventh form; the later family's looks); each row that meets fmt, with fmt's text TOLD by the authors' own Lean function (tested against real Go, not proved from fmt's source: count such statements apart). THE CARD IS WHAT COUNTS. Prove the row's statement (the work); the ties are given (YthgfijhbeahkhaaGreatDoorTie.lean); close each card by the builder's one call (the guide's Derived/Test/ToyasCard.lean, 'card_holds'). Laid BY PROGRAM, IN A SANDBOX (cutbox-door.mjs). By AI agents, Wed Nov 11 2026. No macro, syntax, notation, axiom, sorry.
-/
import Derived.Test.YthgfijhbeahkhaaGreatDoorRows
import GoSem.ClaimSeven
namespace Go.Proofs.YthgfijhbeahkhaaGreatDoor
namespace Rows

/-- THE TIED CARD OF 'conduitlaw10.CoreHandles'. -/
def coreHandlesCard : Claim7 := { stood := { row := coreHandlesRow, standIns := [], harness := (true, "cbe12040d0b23ecef92a24cb4d9c9ecbcb7cbb6d0aa7b279f11a194037813d68"), looks := true }, kinds := [], alts := [], laidByText := true, laidKinds := [.data], laidTests := true, laidLooks := .later }
def CoreHandlesCardSaid : Prop := Claim7.holds Tryz.pinned (.plain (OpenSpec.ofChange coreHandlesSpec)) coreHandlesCard

/-- THE TIED CARD OF 'conduitlaw10.CoreCalls'. -/
def coreCallsCard : Claim7 := { stood := { row := coreCallsRow, standIns := [], harness := (true, "cbe12040d0b23ecef92a24cb4d9c9ecbcb7cbb6d0aa7b279f11a194037813d68"), looks := true }, kinds := [], alts := [], laidByText := true, laidKinds := [.data, .data], laidTests := true, laidLooks := .later }
def CoreCallsCardSaid : Prop := Claim7.holds Tryz.pinned (.plain (OpenSpec.ofChange coreCallsSpec)) coreCallsCard

/-- THE TIED CARD OF 'conduitlaw10.CoreFits'. -/
def coreFitsCard : Claim7 := { stood := { row := coreFitsRow, standIns := [], harness := (true, "cbe12040d0b23ecef92a24cb4d9c9ecbcb7cbb6d0aa7b279f11a194037813d68"), looks := true }, kinds := [], alts := [], laidByText := true, laidKinds := [.data, .data], laidTests := true, laidLooks := .later }
def CoreFitsCardSaid : Prop := Claim7.holds Tryz.pinned (.plain (OpenSpec.ofChange coreFitsSpec)) coreFitsCard

/-- THE TIED CARD OF 'conduitlaw10.CoreWords'. -/
def coreWordsCard : Claim7 := { stood := { row := coreWordsRow, standIns := [], harness := (true, "cbe12040d0b23ecef92a24cb4d9c9ecbcb7cbb6d0aa7b279f11a194037813d68"), looks := true }, kinds := [], alts := [], laidByText := true, laidKinds := [.data], laidTests := true, laidLooks := .later }
def CoreWordsCardSaid : Prop := Claim7.holds Tryz.pinned (.plain (OpenSpec.ofChange coreWordsSpec)) coreWordsCard

/-- THE TIED CARD OF 'conduitlaw10.CoreKeeps'. -/
def coreKeepsCard : Claim7 := { stood := { row := coreKeepsRow, standIns := [], harness := (true, "cbe12040d0b23ecef92a24cb4d9c9ecbcb7cbb6d0aa7b279f11a194037813d68"), looks := true }, kinds := [], alts := [], laidByText := true, laidKinds := [.data, .data], laidTests := true, laidLooks := .later }
def CoreKeepsCardSaid : Prop := Claim7.holds Tryz.pinned (.plain (OpenSpec.ofChange coreKeepsSpec)) coreKeepsCard

/-- THE TIED CARD OF 'conduitlaw10.CoreStores'. -/
def coreStoresCard : Claim7 := { stood := { row := coreStoresRow, standIns := [], harness := (true, "cbe12040d0b23ecef92a24cb4d9c9ecbcb7cbb6d0aa7b279f11a194037813d68"), looks := true }, kinds := [], alts := [], laidByText := true, laidKinds := [.data], laidTests := true, laidLooks := .later }
def CoreStoresCardSaid : Prop := Claim7.holds Tryz.pinned (.plain (OpenSpec.ofChange coreStoresSpec)) coreStoresCard

/-- THE SECOND FORM's CARD OF 'conduitlaw10.CoreHandles'. -/
def coreHandlesUptoCard : Claim7 := { stood := { row := coreHandlesUptoRow, standIns := [], harness := (true, "cbe12040d0b23ecef92a24cb4d9c9ecbcb7cbb6d0aa7b279f11a194037813d68"), looks := true }, kinds := [], alts := [], laidByText := true, laidKinds := [.data], laidTests := true, laidLooks := .later }
def CoreHandlesUptoCardSaid : Prop := Claim7.holds Tryz.pinned (.plain (OpenSpec.upto coreHandlesSpec)) coreHandlesUptoCard

/-- THE SECOND FORM's CARD OF 'conduitlaw10.CoreCalls'. -/
def coreCallsUptoCard : Claim7 := { stood := { row := coreCallsUptoRow, standIns := [], harness := (true, "cbe12040d0b23ecef92a24cb4d9c9ecbcb7cbb6d0aa7b279f11a194037813d68"), looks := true }, kinds := [], alts := [], laidByText := true, laidKinds := [.data, .data], laidTests := true, laidLooks := .later }
def CoreCallsUptoCardSaid : Prop := Claim7.holds Tryz.pinned (.plain (OpenSpec.upto coreCallsSpec)) coreCallsUptoCard

/-- THE SECOND FORM's CARD OF 'conduitlaw10.CoreFits'. -/
def coreFitsUptoCard : Claim7 := { stood := { row := coreFitsUptoRow, standIns := [], harness := (true, "cbe12040d0b23ecef92a24cb4d9c9ecbcb7cbb6d0aa7b279f11a194037813d68"), looks := true }, kinds := [], alts := [], laidByText := true, laidKinds := [.data, .data], laidTests := true, laidLooks := .later }
def CoreFitsUptoCardSaid : Prop := Claim7.holds Tryz.pinned (.plain (OpenSpec.upto coreFitsSpec)) coreFitsUptoCard

/-- THE SECOND FORM's CARD OF 'conduitlaw10.CoreWords'. -/
def coreWordsUptoCard : Claim7 := { stood := { row := coreWordsUptoRow, standIns := [], harness := (true, "cbe12040d0b23ecef92a24cb4d9c9ecbcb7cbb6d0aa7b279f11a194037813d68"), looks := true }, kinds := [], alts := [], laidByText := true, laidKinds := [.data], laidTests := true, laidLooks := .later }
def CoreWordsUptoCardSaid : Prop := Claim7.holds Tryz.pinned (.plain (OpenSpec.upto coreWordsSpec)) coreWordsUptoCard

/-- THE SECOND FORM's CARD OF 'conduitlaw10.CoreKeeps'. -/
def coreKeepsUptoCard : Claim7 := { stood := { row := coreKeepsUptoRow, standIns := [], harness := (true, "cbe12040d0b23ecef92a24cb4d9c9ecbcb7cbb6d0aa7b279f11a194037813d68"), looks := true }, kinds := [], alts := [], laidByText := true, laidKinds := [.data, .data], laidTests := true, laidLooks := .later }
def CoreKeepsUptoCardSaid : Prop := Claim7.holds Tryz.pinned (.plain (OpenSpec.upto coreKeepsSpec)) coreKeepsUptoCard

/-- THE SECOND FORM's CARD OF 'conduitlaw10.CoreStores'. -/
def coreStoresUptoCard : Claim7 := { stood := { row := coreStoresUptoRow, standIns := [], harness := (true, "cbe12040d0b23ecef92a24cb4d9c9ecbcb7cbb6d0aa7b279f11a194037813d68"), looks := true }, kinds := [], alts := [], laidByText := true, laidKinds := [.data], laidTests := true, laidLooks := .later }
def CoreStoresUptoCardSaid : Prop := Claim7.holds Tryz.pinned (.plain (OpenSpec.upto coreStoresSpec)) coreStoresUptoCard
end Rows
end Go.Proofs.YthgfijhbeahkhaaGreatDoor
