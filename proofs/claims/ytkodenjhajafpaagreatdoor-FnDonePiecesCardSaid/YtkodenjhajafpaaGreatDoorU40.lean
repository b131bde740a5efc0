/- What files are asked for: of the program. -/
import Derived.Test.YtkodenjhajafpaaGreatDoorU34
import Derived.Stop.Asserts
import Derived.Stop.LaidTwo
set_option maxHeartbeats 20000000
set_option maxRecDepth 100000
namespace Go.Proofs.YtkodenjhajafpaaGreatDoor
section
open Go.ChangeShapes Go.WideShapes Go.ChangeAt Go.RowKit Go.Deep Tryz
theorem c5:prog.cellsOf 5=1:=by kernel_rfl
end
end Go.Proofs.YtkodenjhajafpaaGreatDoor
