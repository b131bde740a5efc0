/- Plain facts for PoolOk of the program: sets of addresses; volumes by their names. -/
import Derived.Lib.SmallJoins
import Derived.Lib.SliceRun
import Derived.Lib.Overlaps
import Derived.Laws.CopyOwn
import Derived.Shelf.SlSortCmp.NoneTotal
import Derived.Maps.RangeWalk
import Derived.WideKeyEntry
import Derived.Test.YtkkjdbfalpjhfaaGreatDoorU06
set_option maxHeartbeats 20000000
set_option maxRecDepth 100000
namespace Go.Proofs.YtkkjdbfalpjhfaaGreatDoor
open Go Go.RowKit
def RJ (r:RSt)(J:List Pt):Prop:=(r.ov=false->r.L=J∧r.s<=100∧J.length<=16)∧(r.ov=true->100<r.s∨16<J.length)
end Go.Proofs.YtkkjdbfalpjhfaaGreatDoor
