/-
  DERIVED. GIVEN WITH THE SEED: THE CARDS: each row of YtaphjfklfgnnlaaGreatDoorRows.lean that lists a variable, with what it lists TIED to the program's text (the seventh form; the later family's looks); each row that meets fmt, with fmt's text TOLD by the authors' own Lean function (tested against real Go, not proved from fmt's source: count such statements apart). THE CARD IS WHAT COUNTS. Prove the row's statement (the work); the ties are given (YtaphjfklfgnnlaaGreatDoorTie.lean); close each card by the builder's one call (the guide's Derived/Test/ToyasCard.lean, 'card_holds'). Laid BY PROGRAM, IN A SANDBOX (cutbox-door.mjs). By AI agents, Wed Nov 11 2026. No macro, syntax, notation, axiom, sorry.
-/
import Derived.Test.YtaphjfklfgnnlaaGreatDoorRows
import GoSem.ClaimSeven
namespace Go.Proofs.YtaphjfklfgnnlaaGreatDoor
namespace Rows

/-- THE TIED CARD OF 'conduitlaw01.DatumHas'. -/
def datumHasCard : Claim7 := { stood := { row := datumHasRow, standIns := [], harness := (true, "e0c7cbaab29fc31950ae7c5797ab1d1e722ffdfc9d5ea6d29cbf77b7a51b122b"), looks := true }, kinds := [], alts := [], laidByText := true, laidKinds := [.data, .data, .data, .sentinel, .sentinel, .data], laidTests := true, laidLooks := .later }
def DatumHasCardSaid : Prop := Claim7.holds Tryz.pinned (.plain (OpenSpec.ofChange datumHasSpec)) datumHasCard

/-- THE TIED CARD OF 'conduitlaw01.DatumOwn'. -/
def datumOwnCard : Claim7 := { stood := { row := datumOwnRow, standIns := [], harness := (true, "e0c7cbaab29fc31950ae7c5797ab1d1e722ffdfc9d5ea6d29cbf77b7a51b122b"), looks := true }, kinds := [], alts := [], laidByText := true, laidKinds := [.data, .data, .data, .sentinel, .sentinel, .data], laidTests := true, laidLooks := .later }
def DatumOwnCardSaid : Prop := Claim7.holds Tryz.pinned (.plain (OpenSpec.ofChange datumOwnSpec)) datumOwnCard

/-- THE SECOND FORM's CARD OF 'conduitlaw01.DatumHas'. -/
def datumHasUptoCard : Claim7 := { stood := { row := datumHasUptoRow, standIns := [], harness := (true, "e0c7cbaab29fc31950ae7c5797ab1d1e722ffdfc9d5ea6d29cbf77b7a51b122b"), looks := true }, kinds := [], alts := [], laidByText := true, laidKinds := [.data, .data, .data, .sentinel, .sentinel, .data], laidTests := true, laidLooks := .later }
def DatumHasUptoCardSaid : Prop := Claim7.holds Tryz.pinned (.plain (OpenSpec.upto datumHasSpec)) datumHasUptoCard

/-- THE SECOND FORM's CARD OF 'conduitlaw01.DatumOwn'. -/
def datumOwnUptoCard : Claim7 := { stood := { row := datumOwnUptoRow, standIns := [], harness := (true, "e0c7cbaab29fc31950ae7c5797ab1d1e722ffdfc9d5ea6d29cbf77b7a51b122b"), looks := true }, kinds := [], alts := [], laidByText := true, laidKinds := [.data, .data, .data, .sentinel, .sentinel, .data], laidTests := true, laidLooks := .later }
def DatumOwnUptoCardSaid : Prop := Claim7.holds Tryz.pinned (.plain (OpenSpec.upto datumOwnSpec)) datumOwnUptoCard
end Rows
end Go.Proofs.YtaphjfklfgnnlaaGreatDoor
