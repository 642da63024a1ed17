/- The package's Plain of octets, rows and pointers, and of any value; the conditions: the value in memory, and its tree valid. -/
import Derived.Test.YtihmkjlmhjhocaaDpD
namespace Go.Proofs.Ytihmkjlmhjhocaa.Dt
open Go.RowKit
end Go.Proofs.Ytihmkjlmhjhocaa.Dt
