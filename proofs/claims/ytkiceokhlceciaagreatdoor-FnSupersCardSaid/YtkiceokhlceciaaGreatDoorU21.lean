/- Files that are not there, and copies that are refused, by the model. -/
import Derived.Lib.SliceRun
import Derived.Lib.Overlaps
import Derived.Laws.CopyOwn
import Derived.Shelf.SlSortCmp.NoneTotal
import Derived.Maps.RangeWalk
import Derived.WideKeyEntry
import Derived.Test.YtkiceokhlceciaaGreatDoorU10
set_option maxHeartbeats 20000000
set_option maxRecDepth 100000
namespace Go.Proofs.YtkiceokhlceciaaGreatDoor
section
open Go Go.RowKit Go.BigFrame Tryz
variable{p:Po}{w:World}
theorem Ix.dim (h:Ix p):AJ p:=by
 obtain⟨h1,h2,h3,h4⟩:=h;refine⟨by have:=h1.1;omega,h1.strs,by have:=h2.1;omega,fun v hv=>?_,by have:=h3.1;omega,h3.strs,by have:=h4.1;omega,h4.strs⟩;obtain⟨a1,a2,a3⟩:=h2.2 v hv;exact⟨by omega,by omega,fun x hx=>by have:=a3 x hx;omega⟩
theorem Blk.six {b:Nat}{c0 c1 c2 c3 c4 c5:Value}{t:TypeId}(h:Blk w b #[c0,c1,c2,c3,c4,c5] t):w.cell? ⟨b,0,none⟩=some c0∧w.cell? ⟨b,1,none⟩=some c1∧w.cell? ⟨b,2,none⟩=some c2∧w.cell? ⟨b,3,none⟩=some c3∧w.cell? ⟨b,4,none⟩=some c4∧w.cell? ⟨b,5,none⟩=some c5:=
 ⟨h.cell 0,h.cell 1,h.cell 2,h.cell 3,h.cell 4,h.cell 5⟩
end
section
open Go Go.RowKit
def RJ (r:RSt)(J:List Pt):Prop:=(r.ov=false->r.L=J∧r.s<=100∧J.length<=16)∧(r.ov=true->100<r.s∨16<J.length)
end
end Go.Proofs.YtkiceokhlceciaaGreatDoor
