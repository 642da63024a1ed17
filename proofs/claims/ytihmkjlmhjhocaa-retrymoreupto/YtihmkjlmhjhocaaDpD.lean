/- The package's Plain of a pair; the conditions: the pair in memory, and Plain's own contract for its parts. -/
import Derived.Test.YtihmkjlmhjhocaaDpC
namespace Go.Proofs.Ytihmkjlmhjhocaa.Dt
open Go.RowKit
def Fst1 : Prop := True
end Go.Proofs.Ytihmkjlmhjhocaa.Dt
