/- The package's place and pointer without boxes by number; the conditions: the trees in memory and valid, and value's own contract for the parts. -/
import Derived.Test.YtihmkjlmhjhocaaDvR
namespace Go.Proofs.Ytihmkjlmhjhocaa.Dt
open Go.RowKit
end Go.Proofs.Ytihmkjlmhjhocaa.Dt
