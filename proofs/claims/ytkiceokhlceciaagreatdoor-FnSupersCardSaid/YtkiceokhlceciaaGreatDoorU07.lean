/- ownerOk of the program, l3Owner of the model. -/
import Derived.Test.YtkiceokhlceciaaGreatDoorU03
set_option maxHeartbeats 20000000
set_option maxRecDepth 100000
namespace Go.Proofs.YtkiceokhlceciaaGreatDoor
section
open Go Go.RowKit Go.BigFrame Tryz
variable{l:List Ct}
def Hf (n:Nat)(l:List Ct):Prop:=n<=1048576∧∀ e∈l,e.o.f.size<=1048576
theorem Hf.strs {n:Nat}(h:Hf n l):Co l:=fun e he=>by have:=h.2 e he;omega
end
section
open Go Go.RowKit Go.BigFrame Tryz
variable{l:List It}
def Mq (n:Nat)(l:List It):Prop:=n<=1048576∧∀ x∈l,x.nm.size<=1048576∧x.ps.length<=1048576
def Mr (n:Nat)(l:List Vo):Prop:=n<=1048576∧∀ v∈l,v.nm.size<=1048576∧Mq v.its.length v.its
end
section
open Go Go.RowKit Go.BigFrame Tryz
structure RSt where
 L:List Pt
 s:Int
 ov:Bool
end
end Go.Proofs.YtkiceokhlceciaaGreatDoor
