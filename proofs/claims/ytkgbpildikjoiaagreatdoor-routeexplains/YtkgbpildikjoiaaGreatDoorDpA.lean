/- The package's Plain of values without parts: the plain data; no condition. -/
import Derived.Laws.MakeOwn
import Derived.Laws.IdiomStrings
import Derived.Test.YtkgbpildikjoiaaGreatDoorDCount
import Derived.Test.YtkgbpildikjoiaaGreatDoorDRv
namespace Go.Proofs.YtkgbpildikjoiaaGreatDoor.Dt
open Go.RowKit
/-- The bits of a tree are within 64. -/
def r64 : (n : Nat) → Tr n → Prop
  | 0, _ => False
  | n + 1, t => (0 ≤ t.ut ∧ t.ut < 18446744073709551616) ∧ ∀ s ∈ t.ks, r64 n s
end Go.Proofs.YtkgbpildikjoiaaGreatDoor.Dt
