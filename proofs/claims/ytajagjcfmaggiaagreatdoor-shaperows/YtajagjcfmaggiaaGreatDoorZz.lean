/- What the rows of ShapePasses and ShapeRows stand on, together; no condition. -/
import Derived.Test.YtajagjcfmaggiaaGreatDoorKBbj
import Derived.Test.YtajagjcfmaggiaaGreatDoorKBca
import Derived.Test.YtajagjcfmaggiaaGreatDoorKBcb
namespace Go.Proofs.YtajagjcfmaggiaaGreatDoor
theorem both_here : True := trivial
end Go.Proofs.YtajagjcfmaggiaaGreatDoor
