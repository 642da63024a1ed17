/- The package's value of a valid value's tree, without boxes by number: each place with memory of its own; the conditions: the tree in memory and valid, of 4096 parts at most. -/
import Derived.Test.YtihmkjlmhjhocaaDvP
namespace Go.Proofs.Ytihmkjlmhjhocaa.Dt
open Go.RowKit
end Go.Proofs.Ytihmkjlmhjhocaa.Dt
