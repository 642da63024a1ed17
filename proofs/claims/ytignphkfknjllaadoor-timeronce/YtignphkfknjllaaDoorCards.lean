/-
  DERIVED. GIVEN WITH THE SEED: THE CARDS: each row of YtignphkfknjllaaDoorRows.lean that lists a variable, with what it lists TIED to the program's text (the seventh form; the later family's looks); each row that meets fmt, with fmt's text TOLD by the authors' own Lean function (tested against real Go, not proved from fmt's source: count such statements apart). THE CARD IS WHAT COUNTS. Prove the row's statement (the work); the ties are given (YtignphkfknjllaaDoorTie.lean); close each card by the builder's one call (the guide's Derived/Test/ToyasCard.lean, 'card_holds'). Laid BY PROGRAM, IN A SANDBOX (cutbox-door.mjs). By AI agents, Wed Nov 11 2026. No macro, syntax, notation, axiom, sorry.
-/
import Derived.Test.YtignphkfknjllaaDoorRows
import GoSem.ClaimSeven
namespace Go.Proofs.YtignphkfknjllaaDoor
namespace Rows

/-- THE TIED CARD OF 'conduitlaw18.TimerPlays'. -/
def timerPlaysCard : Claim7 := { stood := { row := timerPlaysRow, standIns := [], harness := (true, "d246a42e6d0e5ef9873afded870d89d5b2d609545487d29e96178d7c4e931c67"), looks := false }, kinds := [], alts := [], laidByText := true, laidKinds := [.data], laidTests := true, laidLooks := .later }
def TimerPlaysCardSaid : Prop := Claim7.holds Tryd.pinned (.plain (OpenSpec.ofChange timerPlaysSpec)) timerPlaysCard

/-- THE TIED CARD OF 'conduitlaw18.TimerPieces'. -/
def timerPiecesCard : Claim7 := { stood := { row := timerPiecesRow, standIns := [], harness := (true, "d246a42e6d0e5ef9873afded870d89d5b2d609545487d29e96178d7c4e931c67"), looks := false }, kinds := [], alts := [], laidByText := true, laidKinds := [.data], laidTests := true, laidLooks := .later }
def TimerPiecesCardSaid : Prop := Claim7.holds Tryd.pinned (.plain (OpenSpec.ofChange timerPiecesSpec)) timerPiecesCard

/-- THE TIED CARD OF 'conduitlaw18.TimerOnce'. -/
def timerOnceCard : Claim7 := { stood := { row := timerOnceRow, standIns := [], harness := (true, "d246a42e6d0e5ef9873afded870d89d5b2d609545487d29e96178d7c4e931c67"), looks := false }, kinds := [], alts := [], laidByText := true, laidKinds := [.data], laidTests := true, laidLooks := .later }
def TimerOnceCardSaid : Prop := Claim7.holds Tryd.pinned (.plain (OpenSpec.ofChange timerOnceSpec)) timerOnceCard

/-- THE TIED CARD OF 'conduitlaw18.TimerNobody'. -/
def timerNobodyCard : Claim7 := { stood := { row := timerNobodyRow, standIns := [], harness := (true, "d246a42e6d0e5ef9873afded870d89d5b2d609545487d29e96178d7c4e931c67"), looks := false }, kinds := [], alts := [], laidByText := true, laidKinds := [.data], laidTests := true, laidLooks := .later }
def TimerNobodyCardSaid : Prop := Claim7.holds Tryd.pinned (.plain (OpenSpec.ofChange timerNobodySpec)) timerNobodyCard

/-- THE SECOND FORM's CARD OF 'conduitlaw18.TimerPlays'. -/
def timerPlaysUptoCard : Claim7 := { stood := { row := timerPlaysUptoRow, standIns := [], harness := (true, "d246a42e6d0e5ef9873afded870d89d5b2d609545487d29e96178d7c4e931c67"), looks := false }, kinds := [], alts := [], laidByText := true, laidKinds := [.data], laidTests := true, laidLooks := .later }
def TimerPlaysUptoCardSaid : Prop := Claim7.holds Tryd.pinned (.plain (OpenSpec.upto timerPlaysSpec)) timerPlaysUptoCard

/-- THE SECOND FORM's CARD OF 'conduitlaw18.TimerPieces'. -/
def timerPiecesUptoCard : Claim7 := { stood := { row := timerPiecesUptoRow, standIns := [], harness := (true, "d246a42e6d0e5ef9873afded870d89d5b2d609545487d29e96178d7c4e931c67"), looks := false }, kinds := [], alts := [], laidByText := true, laidKinds := [.data], laidTests := true, laidLooks := .later }
def TimerPiecesUptoCardSaid : Prop := Claim7.holds Tryd.pinned (.plain (OpenSpec.upto timerPiecesSpec)) timerPiecesUptoCard

/-- THE SECOND FORM's CARD OF 'conduitlaw18.TimerOnce'. -/
def timerOnceUptoCard : Claim7 := { stood := { row := timerOnceUptoRow, standIns := [], harness := (true, "d246a42e6d0e5ef9873afded870d89d5b2d609545487d29e96178d7c4e931c67"), looks := false }, kinds := [], alts := [], laidByText := true, laidKinds := [.data], laidTests := true, laidLooks := .later }
def TimerOnceUptoCardSaid : Prop := Claim7.holds Tryd.pinned (.plain (OpenSpec.upto timerOnceSpec)) timerOnceUptoCard

/-- THE SECOND FORM's CARD OF 'conduitlaw18.TimerNobody'. -/
def timerNobodyUptoCard : Claim7 := { stood := { row := timerNobodyUptoRow, standIns := [], harness := (true, "d246a42e6d0e5ef9873afded870d89d5b2d609545487d29e96178d7c4e931c67"), looks := false }, kinds := [], alts := [], laidByText := true, laidKinds := [.data], laidTests := true, laidLooks := .later }
def TimerNobodyUptoCardSaid : Prop := Claim7.holds Tryd.pinned (.plain (OpenSpec.upto timerNobodySpec)) timerNobodyUptoCard
end Rows
end Go.Proofs.YtignphkfknjllaaDoor
