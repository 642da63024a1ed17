/- For any act, its values valid or not, the law GuardTries returns true, and the argument reads afterwards as it read before; nothing else is asked. -/
import Derived.Test.YthamafijjflfbaaGreatKcd
import Derived.Test.YthamafijjflfbaaGreatKce
import Derived.ProofKit
import Derived.OpenShut
import Derived.Stop.Joined
namespace Go.Proofs.YthamafijjflfbaaGreat
open Go.ChangeShapes Go.WideShapes Go.ChangeAt Go.WideMaps Go.WideElems Go.RowKit

theorem own : ownKnob Tryz.prog.godebug = none := by kernel_rfl
theorem laidOut : laidOutB Tryz.prog = true := by kernel_rfl

end Go.Proofs.YthamafijjflfbaaGreat
