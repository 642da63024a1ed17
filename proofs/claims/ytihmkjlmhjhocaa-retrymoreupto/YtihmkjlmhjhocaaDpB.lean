/- The package's Plain of a row: a list of the plain data in new memory; the conditions: the row in memory, and Plain's own contract for the parts. -/
import Derived.Test.YtihmkjlmhjhocaaXRf
import Derived.Test.YtihmkjlmhjhocaaDpA
namespace Go.Proofs.Ytihmkjlmhjhocaa.Dt
open Go.RowKit
end Go.Proofs.Ytihmkjlmhjhocaa.Dt
