/- Texts of pools, read and written; what is drawn. -/
import Derived.Test.YteejlahappbalaaGreatDoorU32
set_option maxHeartbeats 20000000
set_option maxRecDepth 100000
namespace Go.Proofs.YteejlahappbalaaGreatDoor
open Go Go.RowKit Go.BigFrame Tryz
theorem Hz2 (B0:Nat)(v:Value)(p:Po)(o:Opr)(w:World):HzS B0 v p o w (o.k=2):=by
 intro hB0 h hd hp hso hf hk
 have nk9:¬ o.k=9:=sH;have mk9:(o.k==9)=false:=by simpa using nk9
 exact Hz9
theorem Hz3 (B0:Nat)(v:Value)(p:Po)(o:Opr)(w:World):HzS B0 v p o w (o.k=3):=by
 intro hB0 h hd hp hso hf hk
 have nk9:¬ o.k=9:=sH;have mk9:(o.k==9)=false:=by simpa using nk9
 exact Hz9
end Go.Proofs.YteejlahappbalaaGreatDoor
