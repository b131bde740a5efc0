/- A copy of items. -/
import Derived.Lib.SliceRun
import Derived.Lib.Overlaps
import Derived.Laws.CopyOwn
import Derived.Test.YtkiceokhlceciaaGreatDoorU08
set_option maxHeartbeats 20000000
set_option maxRecDepth 100000
namespace Go.Proofs.YtkiceokhlceciaaGreatDoor
open Go Go.RowKit Go.BigFrame Tryz
theorem Ec.low {B k:Nat}{w w':World}{r:IR}{y:It}(h:Ec B w r y)(hg:w.grownBy w' (some k))(hk:k<B):Ec B w' r y:=⟨h.nm,h.ps.grown hg (fun ad e=>by have:=(h.ps.block ad e).1;omega)⟩
theorem CE.low {B k:Nat}{w w':World}{r:VR}{y:Vo}(h:CE B w r y)(hg:w.grownBy w' (some k))(hk:k<B):CE B w' r y:=by
 obtain⟨e1,e2,e3,rs,R,T⟩:=h;exact⟨e1,e2,e3,rs,R.grown hg (fun ad e=>by have:=(R.block ad e).1;omega),T.len,fun i r y h1 h2=>(T.at' i r y h1 h2).low hg hk⟩
theorem Bc.low {B k:Nat}{w w':World}{rows:List VR}{l:List Vo}(h:Bc B w rows l)(hg:w.grownBy w' (some k))(hk:k<B):Bc B w' rows l:=⟨h.len,fun i r y h1 h2=>(h.at' i r y h1 h2).low hg hk⟩
theorem Blk.row {w:World}{b:Nat}{c c':Array Value}{t:TypeId}(h:Blk w b c t):Blk (w.setRow b c') b c' t:=setRow_heap w b c c' t _ h
theorem aC_ {P:Program}{ops:Array Oper}{Q:Exit->Act->World->Prop}{S:World->Prop}{id:Nat}{a:Act}{w:World}(n:Nat)(hm:P.follows .mixedOrders=true)(hn:ops.size=n)
  (h:wpAnyH P .any ops Q S n (Array.replicate n false) a w.drew):(Code.region id ops true).wp P Q a w:=by
 subst hn;exact wp_region_held hm h
theorem Hd.args {B:Nat}{a:Option Addr}{n cap:Nat}(h:Hd B a n cap)(hB:0<B):(∀ ad,a=some ad->ad.spot=none)∧(a=none->n=0∧cap=0):=by
 obtain⟨h1,h2,h3⟩:=h;obtain⟨h4,h5⟩:=h3 hB;exact⟨h5,fun e=>by have:=h4 e;omega⟩
end Go.Proofs.YtkiceokhlceciaaGreatDoor
