/- Counts added up: a list in order with no nought is told by its sums. -/
import Derived.RangeFuncNested
import Derived.RangeFuncBound
import Derived.Shelf.RegionOpen
import Derived.OwnWalkIn
import Derived.LoopNIn
import Derived.LoopIn
import Derived.Maps.AppendAt
import Derived.StillTailTactics
import Derived.Test.YtkkjdbfalpjhfaaGreatDoorU00
set_option maxHeartbeats 20000000
set_option maxRecDepth 100000
namespace Go.Proofs.YtkkjdbfalpjhfaaGreatDoor
open Go Go.RowKit Go.BigFrame Tryz
structure RSt where
 L:List Pt
 s:Int
 ov:Bool
end Go.Proofs.YtkkjdbfalpjhfaaGreatDoor
