/- What stays of old blocks, and a block of one number; no condition but those that each theorem names. -/
import Derived.Test.YtkgbpildikjoiaaGreatDoorBase
namespace Go.Proofs.YtkgbpildikjoiaaGreatDoor
open Go.RowKit

theorem grown_below {w w' : World} {row : Option Nat} (h : Below w.heap.size w w') : w.grownBy w' row :=
  ⟨h.os, h.tape, h.output, h.size, fun k hk _ => h.block k hk⟩
end Go.Proofs.YtkgbpildikjoiaaGreatDoor
