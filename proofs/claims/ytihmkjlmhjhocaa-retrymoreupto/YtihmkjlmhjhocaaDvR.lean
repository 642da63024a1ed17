/- A value that the package makes of a tree without boxes by number, with the memory behind it; and the package's row and place of such; the conditions: the trees in memory and valid, and value's own contract for the parts. -/
import Derived.Test.YtihmkjlmhjhocaaDvA
namespace Go.Proofs.Ytihmkjlmhjhocaa.Dt
open Go.RowKit
end Go.Proofs.Ytihmkjlmhjhocaa.Dt
