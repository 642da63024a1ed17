/-
  DERIVED. GIVEN WITH THE SEED: THE CARDS: each row of YtikkedemhcdboaaDoorRows.lean that lists a variable, with what it lists TIED to the program's text (the seventh form; the later family's looks); each row that meets fmt, with fmt's text TOLD by the authors' own Lean function (tested against real Go, not proved from fmt's source: count such statements apart). THE CARD IS WHAT COUNTS. Prove the row's statement (the work); the ties are given (YtikkedemhcdboaaDoorTie.lean); close each card by the builder's one call (the guide's Derived/Test/ToyasCard.lean, 'card_holds'). Laid BY PROGRAM, IN A SANDBOX (cutbox-door.mjs). By AI agents, Wed Nov 11 2026. No macro, syntax, notation, axiom, sorry.
-/
import Derived.Test.YtikkedemhcdboaaDoorRows
import GoSem.ClaimSeven
namespace Go.Proofs.YtikkedemhcdboaaDoor
namespace Rows

/-- THE TIED CARD OF 'conduitlaw16.BufferPuts'. -/
def bufferPutsCard : Claim7 := { stood := { row := bufferPutsRow, standIns := [], harness := (true, "85cf0d55545835a74537dbab9ec936df4da9a3d05c48f0162b2e31fb68116e53"), looks := false }, kinds := [], alts := [], laidByText := true, laidKinds := [.data, .pinned], laidTests := true, laidLooks := .later }
def BufferPutsCardSaid : Prop := Claim7.holds Tryd.pinned (.plain (OpenSpec.ofChange bufferPutsSpec)) bufferPutsCard

/-- THE TIED CARD OF 'conduitlaw16.BufferTicks'. -/
def bufferTicksCard : Claim7 := { stood := { row := bufferTicksRow, standIns := [], harness := (true, "85cf0d55545835a74537dbab9ec936df4da9a3d05c48f0162b2e31fb68116e53"), looks := false }, kinds := [], alts := [], laidByText := true, laidKinds := [.data, .pinned], laidTests := true, laidLooks := .later }
def BufferTicksCardSaid : Prop := Claim7.holds Tryd.pinned (.plain (OpenSpec.ofChange bufferTicksSpec)) bufferTicksCard

/-- THE TIED CARD OF 'conduitlaw16.BufferWhole'. -/
def bufferWholeCard : Claim7 := { stood := { row := bufferWholeRow, standIns := [], harness := (true, "85cf0d55545835a74537dbab9ec936df4da9a3d05c48f0162b2e31fb68116e53"), looks := false }, kinds := [], alts := [], laidByText := true, laidKinds := [.data, .pinned], laidTests := true, laidLooks := .later }
def BufferWholeCardSaid : Prop := Claim7.holds Tryd.pinned (.plain (OpenSpec.ofChange bufferWholeSpec)) bufferWholeCard

/-- THE SECOND FORM's CARD OF 'conduitlaw16.BufferPuts'. -/
def bufferPutsUptoCard : Claim7 := { stood := { row := bufferPutsUptoRow, standIns := [], harness := (true, "85cf0d55545835a74537dbab9ec936df4da9a3d05c48f0162b2e31fb68116e53"), looks := false }, kinds := [], alts := [], laidByText := true, laidKinds := [.data, .pinned], laidTests := true, laidLooks := .later }
def BufferPutsUptoCardSaid : Prop := Claim7.holds Tryd.pinned (.plain (OpenSpec.upto bufferPutsSpec)) bufferPutsUptoCard

/-- THE SECOND FORM's CARD OF 'conduitlaw16.BufferTicks'. -/
def bufferTicksUptoCard : Claim7 := { stood := { row := bufferTicksUptoRow, standIns := [], harness := (true, "85cf0d55545835a74537dbab9ec936df4da9a3d05c48f0162b2e31fb68116e53"), looks := false }, kinds := [], alts := [], laidByText := true, laidKinds := [.data, .pinned], laidTests := true, laidLooks := .later }
def BufferTicksUptoCardSaid : Prop := Claim7.holds Tryd.pinned (.plain (OpenSpec.upto bufferTicksSpec)) bufferTicksUptoCard

/-- THE SECOND FORM's CARD OF 'conduitlaw16.BufferWhole'. -/
def bufferWholeUptoCard : Claim7 := { stood := { row := bufferWholeUptoRow, standIns := [], harness := (true, "85cf0d55545835a74537dbab9ec936df4da9a3d05c48f0162b2e31fb68116e53"), looks := false }, kinds := [], alts := [], laidByText := true, laidKinds := [.data, .pinned], laidTests := true, laidLooks := .later }
def BufferWholeUptoCardSaid : Prop := Claim7.holds Tryd.pinned (.plain (OpenSpec.upto bufferWholeSpec)) bufferWholeUptoCard
end Rows
end Go.Proofs.YtikkedemhcdboaaDoor
