/- Texts of pools, read and written; what is drawn. -/
import Derived.Stop.Asserts
import Derived.Lib.ItoaNum
import Derived.Lib.Atoi
import Derived.Lib.AtoiTie
import Derived.Lib.ParseIntBTie
import Derived.Lib.Strings
import Derived.Shelf.Strings.BuilderK
import Derived.Shelf.Strings.OnBuilder
import Derived.Lib.AppendIntMem
import Derived.Shelf.Strconv.Itoa4
import Derived.Shelf.Strconv.ErrVarParseInt
import Derived.Shelf.Strings.Prefix
import Derived.Lib.Split
import Derived.Shelf.Strings.SplitShaped
import Derived.Defers
import Derived.Recover
import Derived.Test.YtkkjdbfalpjhfaaGreatDoorU25
set_option maxHeartbeats 20000000
set_option maxRecDepth 100000
namespace Go.Proofs.YtkkjdbfalpjhfaaGreatDoor
open Go.RowKit Go.BigFrame Tryz
theorem Lt (a:Option Addr)(n cap:Nat)(w:World)(h:Ds w a n)(hn:n<=1048576) :
  Calls prog 13 #[.slice a n cap] w fun e w'=>e=.returned (.pointer (some ⟨w.heap.size,0,none⟩))∧Rd w' w.heap.size∧Below w.heap.size w w':=by
 go_enter func13,ntmps13
 go_wp2
 go_returns
 go_light
 refine ⟨rfl,⟨a,n,cap,0,_,Blk.new _ _ _,Zg _,hn,h.below (by go_grown),fun ad h0 hb=>?_⟩,by go_grown⟩
 obtain⟨b,o,v,ha,_,_,hc⟩:=h 0 h0
 rw[hb] at ha
 cases ha
 exact Yk w _ hc
end Go.Proofs.YtkkjdbfalpjhfaaGreatDoor
