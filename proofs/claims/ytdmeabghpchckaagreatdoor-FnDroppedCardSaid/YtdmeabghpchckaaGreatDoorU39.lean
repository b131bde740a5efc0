/- An op carried out upon a right pool. -/
import Derived.Test.YtdmeabghpchckaaGreatDoorU38
set_option maxHeartbeats 20000000
set_option maxRecDepth 100000
namespace Go.Proofs.YtdmeabghpchckaaGreatDoor
section
open Go Go.RowKit Go.BigFrame Tryz
variable{B n:Nat}{a:Option Addr}{p:Po}{v:Value}{w:World}
theorem Dc.t (h:Dc B w v p):Al B w v p:=by
 obtain⟨rows,h⟩:=h;exact h.t
structure IQ where
 nm:ByteArray
 a:Option Addr
 n:Nat
 c:Nat
end
section
open Go Go.RowKit Go.BigFrame Tryz
variable{n:Nat}{a:Option Addr}
variable{irs:List IQ}
structure VQ where
 id:Int
 nm:ByteArray
 fx:Bool
 a:Option Addr
 n:Nat
 c:Nat
 irs:List IQ
end
section
open Go Go.RowKit Go.BigFrame Tryz
variable{α:Type}{ad:Addr}{L:List Nat}{B b i n:Nat}{a:Option Addr}{v:Value}{w w':World}{l:List α}
variable{x:IQ}
def IQ.cs (x:IQ):List Value:=[.string x.nm,.slice x.a x.n x.c]
def VQ.cs (x:VQ):List Value:=[.int .i64 x.id,.string x.nm,.bool x.fx,.slice x.a x.n x.c]
theorem Chg.blk {t:TypeId}(h:Chg L w w'){c:Array Value}(hc:Blk w b c t)(hb:b∉L):Blk w' b c t:=(h.block b hc.lt hb).trans hc
theorem Ad.chg {t:TypeId}{cs:α->List Value}{sz:Nat}{cap:Nat}(h:Ad cs sz t w B a n cap l)(hc:Chg L w w')(hn:∀ ad,a=some ad->ad.block∉L):Ad cs sz t w' B a n cap l:=by
 refine⟨⟨h.sl.len,fun i x hx=>?_⟩,?_⟩
 ·obtain⟨b,o,ha,hq⟩:=h.sl.cell i x hx;exact⟨b,o,ha,fun j v hv=>hc.cell (hq j v hv) (hn _ ha)⟩
 ·rcases h.own with h0 | ⟨b,ha,hB,h1,h2,c,hb,q⟩
  ·exact .inl h0
  ·exact .inr ⟨b,ha,hB,h1,h2,c,hc.blk hb (hn _ ha),q⟩
end
end Go.Proofs.YtdmeabghpchckaaGreatDoor
