/-
  DERIVED. GIVEN WITH THE SEED: THE CARDS: each row of YtcbplamomhimiaaDoorRows.lean that lists a variable, with what it lists TIED to the program's text (the seventh form; the later family's looks); each row that meets fmt, with fmt's text TOLD by the authors' own Lean function (tested against real Go, not proved from fmt's source: count such statements apart). THE CARD IS WHAT COUNTS. Prove the row's statement (the work); the ties are given (YtcbplamomhimiaaDoorTie.lean); close each card by the builder's one call (the guide's Derived/Test/ToyasCard.lean, 'card_holds'). Laid BY PROGRAM, IN A SANDBOX (cutbox-door.mjs). By AI agents, Wed Nov 11 2026. No macro, syntax, notation, axiom, sorry.
-/
import Derived.Test.YtcbplamomhimiaaDoorRows
import GoSem.ClaimSeven
namespace Go.Proofs.YtcbplamomhimiaaDoor
namespace Rows

/-- THE TIED CARD OF 'conduitlaw09.ShownLevels'. -/
def shownLevelsCard : Claim7 := { stood := { row := shownLevelsRow, standIns := [], harness := (true, "1514ad688de2b7d274bf2b7ba89f57b991c4bbe935446f5e20a3a1ae87037e7f"), looks := true }, kinds := [], alts := [], laidByText := true, laidKinds := [.data], laidTests := true, laidLooks := .later }
def ShownLevelsCardSaid : Prop := Claim7.holds Tryd.pinned (.plain (OpenSpec.ofChange shownLevelsSpec)) shownLevelsCard

/-- THE TIED CARD OF 'conduitlaw09.ShownWho'. -/
def shownWhoCard : Claim7 := { stood := { row := shownWhoRow, standIns := [], harness := (true, "1514ad688de2b7d274bf2b7ba89f57b991c4bbe935446f5e20a3a1ae87037e7f"), looks := true }, kinds := [], alts := [], laidByText := true, laidKinds := [.data], laidTests := true, laidLooks := .later }
def ShownWhoCardSaid : Prop := Claim7.holds Tryd.pinned (.plain (OpenSpec.ofChange shownWhoSpec)) shownWhoCard

/-- THE TIED CARD OF 'conduitlaw09.ShownExactly'. -/
def shownExactlyCard : Claim7 := { stood := { row := shownExactlyRow, standIns := [], harness := (true, "1514ad688de2b7d274bf2b7ba89f57b991c4bbe935446f5e20a3a1ae87037e7f"), looks := true }, kinds := [], alts := [], laidByText := true, laidKinds := [.data], laidTests := true, laidLooks := .later }
def ShownExactlyCardSaid : Prop := Claim7.holds Tryd.pinned (.plain (OpenSpec.ofChange shownExactlySpec)) shownExactlyCard

/-- THE TIED CARD OF 'conduitlaw09.ShownGrows'. -/
def shownGrowsCard : Claim7 := { stood := { row := shownGrowsRow, standIns := [], harness := (true, "1514ad688de2b7d274bf2b7ba89f57b991c4bbe935446f5e20a3a1ae87037e7f"), looks := true }, kinds := [], alts := [], laidByText := true, laidKinds := [.data], laidTests := true, laidLooks := .later }
def ShownGrowsCardSaid : Prop := Claim7.holds Tryd.pinned (.plain (OpenSpec.ofChange shownGrowsSpec)) shownGrowsCard

/-- THE TIED CARD OF 'conduitlaw09.ShownThrough'. -/
def shownThroughCard : Claim7 := { stood := { row := shownThroughRow, standIns := [], harness := (true, "1514ad688de2b7d274bf2b7ba89f57b991c4bbe935446f5e20a3a1ae87037e7f"), looks := true }, kinds := [], alts := [], laidByText := true, laidKinds := [.data], laidTests := true, laidLooks := .later }
def ShownThroughCardSaid : Prop := Claim7.holds Tryd.pinned (.plain (OpenSpec.ofChange shownThroughSpec)) shownThroughCard

/-- THE TIED CARD OF 'conduitlaw09.ShownMasks'. -/
def shownMasksCard : Claim7 := { stood := { row := shownMasksRow, standIns := [], harness := (true, "1514ad688de2b7d274bf2b7ba89f57b991c4bbe935446f5e20a3a1ae87037e7f"), looks := true }, kinds := [], alts := [], laidByText := true, laidKinds := [.data], laidTests := true, laidLooks := .later }
def ShownMasksCardSaid : Prop := Claim7.holds Tryd.pinned (.plain (OpenSpec.ofChange shownMasksSpec)) shownMasksCard

/-- THE SECOND FORM's CARD OF 'conduitlaw09.ShownLevels'. -/
def shownLevelsUptoCard : Claim7 := { stood := { row := shownLevelsUptoRow, standIns := [], harness := (true, "1514ad688de2b7d274bf2b7ba89f57b991c4bbe935446f5e20a3a1ae87037e7f"), looks := true }, kinds := [], alts := [], laidByText := true, laidKinds := [.data], laidTests := true, laidLooks := .later }
def ShownLevelsUptoCardSaid : Prop := Claim7.holds Tryd.pinned (.plain (OpenSpec.upto shownLevelsSpec)) shownLevelsUptoCard

/-- THE SECOND FORM's CARD OF 'conduitlaw09.ShownWho'. -/
def shownWhoUptoCard : Claim7 := { stood := { row := shownWhoUptoRow, standIns := [], harness := (true, "1514ad688de2b7d274bf2b7ba89f57b991c4bbe935446f5e20a3a1ae87037e7f"), looks := true }, kinds := [], alts := [], laidByText := true, laidKinds := [.data], laidTests := true, laidLooks := .later }
def ShownWhoUptoCardSaid : Prop := Claim7.holds Tryd.pinned (.plain (OpenSpec.upto shownWhoSpec)) shownWhoUptoCard

/-- THE SECOND FORM's CARD OF 'conduitlaw09.ShownExactly'. -/
def shownExactlyUptoCard : Claim7 := { stood := { row := shownExactlyUptoRow, standIns := [], harness := (true, "1514ad688de2b7d274bf2b7ba89f57b991c4bbe935446f5e20a3a1ae87037e7f"), looks := true }, kinds := [], alts := [], laidByText := true, laidKinds := [.data], laidTests := true, laidLooks := .later }
def ShownExactlyUptoCardSaid : Prop := Claim7.holds Tryd.pinned (.plain (OpenSpec.upto shownExactlySpec)) shownExactlyUptoCard

/-- THE SECOND FORM's CARD OF 'conduitlaw09.ShownGrows'. -/
def shownGrowsUptoCard : Claim7 := { stood := { row := shownGrowsUptoRow, standIns := [], harness := (true, "1514ad688de2b7d274bf2b7ba89f57b991c4bbe935446f5e20a3a1ae87037e7f"), looks := true }, kinds := [], alts := [], laidByText := true, laidKinds := [.data], laidTests := true, laidLooks := .later }
def ShownGrowsUptoCardSaid : Prop := Claim7.holds Tryd.pinned (.plain (OpenSpec.upto shownGrowsSpec)) shownGrowsUptoCard

/-- THE SECOND FORM's CARD OF 'conduitlaw09.ShownThrough'. -/
def shownThroughUptoCard : Claim7 := { stood := { row := shownThroughUptoRow, standIns := [], harness := (true, "1514ad688de2b7d274bf2b7ba89f57b991c4bbe935446f5e20a3a1ae87037e7f"), looks := true }, kinds := [], alts := [], laidByText := true, laidKinds := [.data], laidTests := true, laidLooks := .later }
def ShownThroughUptoCardSaid : Prop := Claim7.holds Tryd.pinned (.plain (OpenSpec.upto shownThroughSpec)) shownThroughUptoCard

/-- THE SECOND FORM's CARD OF 'conduitlaw09.ShownMasks'. -/
def shownMasksUptoCard : Claim7 := { stood := { row := shownMasksUptoRow, standIns := [], harness := (true, "1514ad688de2b7d274bf2b7ba89f57b991c4bbe935446f5e20a3a1ae87037e7f"), looks := true }, kinds := [], alts := [], laidByText := true, laidKinds := [.data], laidTests := true, laidLooks := .later }
def ShownMasksUptoCardSaid : Prop := Claim7.holds Tryd.pinned (.plain (OpenSpec.upto shownMasksSpec)) shownMasksUptoCard
end Rows
end Go.Proofs.YtcbplamomhimiaaDoor
