/- Volumes and items as plain data, and how they lie in memory. -/
import Derived.Test.YtigldeccfpkdmaaGreatDoorK07
import Derived.Test.YtigldeccfpkdmaaGreatDoorK06
import Derived.Test.YtigldeccfpkdmaaGreatDoorK04
namespace Go.Proofs.YtigldeccfpkdmaaGreatDoor
open Go.RowKit
set_option maxHeartbeats 20000000
set_option maxRecDepth 100000
/-- A file: its name, its parts. -/
structure It where
 nm:ByteArray
 ps:List Pt
/-- A volume. -/
structure Vo where
 id:Int
 nm:ByteArray
 fx:Bool
 its:List It
/-- A pool. -/
structure Po where
 size:Int
 next:Int
 ex:List Ex
 vs:List Vo
 rf:List Ct
 lt:List Ct
/-- A slice's head; where B is not nought, one as the program itself makes them. -/
def Hd (B:Nat) (a:Option Addr) (n cap:Nat):Prop:=n<=cap∧cap<=9223372036854775807∧(0<B->(a=none->cap=0)∧∀ ad,a=some ad->ad.spot=none)
theorem Hd.mono {B B':Nat} {a:Option Addr} {n cap:Nat} (h:Hd B a n cap) (hb:B'<=B):Hd B' a n cap:=⟨h.1,h.2.1,fun h0=>h.2.2 (by omega)⟩
/-- Where B is not nought: a slice lies at B or behind it, in a block that may be written. -/
def Sf (B:Nat) (w:World) (a:Option Addr):Prop:=0<B->∀ ad,a=some ad->B<=ad.block∧∃ c t,Blk w ad.block c t
theorem Sf.below {B:Nat} {w w':World} {a:Option Addr} (h:Sf B w a) (hb:Below w.heap.size w w'):Sf B w' a:=fun h0 ad e=>by
 obtain ⟨h1,c,t,h2⟩:=h h0 ad e
 exact ⟨h1,c,t,h2.below hb⟩
theorem Sf.mono {B B':Nat} {w:World} {a:Option Addr} (h:Sf B w a) (hb:B'<=B):Sf B' w a:=fun h0 ad e=>by
 obtain ⟨h1,r⟩:=h (by omega) ad e
 exact ⟨by omega,r⟩
theorem Sf.grown {B r:Nat} {w w':World} {a:Option Addr} (h:Sf B w a) (hg:w.grownBy w' (some r)) (hr:r<B):Sf B w' a:=fun h0 ad e=>by
 obtain ⟨h1,c,t,h2⟩:=h h0 ad e
 exact ⟨h1,c,t,h2.grown hg (by simp only [ne_eq];omega)⟩
theorem dM_ {B b:Nat} {w:World} {c:Array Value} {t:TypeId} (h:Blk w b c t) (hb:B<=b):Sf B w (some ⟨b,0,none⟩):=fun _ ad e=>by cases e;exact ⟨hb,c,t,h⟩
/-- A slice holds these items; all that it reaches lies at B or behind it. -/
structure ItsAt (B:Nat) (w:World) (a:Option Addr) (n:Nat) (l:List It):Prop where
 len:l.length=n
 cell:∀ i x,l[i]?=some x->∃ b o pa pn pc,a=some ⟨b,o,none⟩∧w.cell? ⟨b,o+i*2,none⟩=some (.string x.nm)∧w.cell? ⟨b,o+i*2+1,none⟩=some (.slice pa pn pc)∧PtsAt w pa pn x.ps∧Hd B pa pn pc∧B<=b∧(∀ ad,pa=some ad->B<=ad.block)∧Sf B w pa∧Sf B w a
/-- A slice holds these volumes. -/
structure VsAt (B:Nat) (w:World) (a:Option Addr) (n:Nat) (l:List Vo):Prop where
 len:l.length=n
 cell:∀ i x,l[i]?=some x->∃ b o pa pn pc,a=some ⟨b,o,none⟩∧w.cell? ⟨b,o+i*4,none⟩=some (.int .i64 x.id)∧w.cell? ⟨b,o+i*4+1,none⟩=some (.string x.nm)∧w.cell? ⟨b,o+i*4+2,none⟩=some (.bool x.fx)∧w.cell? ⟨b,o+i*4+3,none⟩=some (.slice pa pn pc)∧ItsAt B w pa pn x.its∧Hd B pa pn pc∧B<=b∧Sf B w a
theorem ItsAt.below {B:Nat} {w w':World} {a:Option Addr} {n:Nat} {l:List It} (h:ItsAt B w a n l) (hb:Below w.heap.size w w'):ItsAt B w' a n l:=
 ⟨h.len,fun i x hx=>by
  obtain ⟨b,o,pa,pn,pc,ha,c0,c1,hp,hh,hB,hA,s1,s2⟩:=h.cell i x hx
  exact ⟨b,o,pa,pn,pc,ha,bcell hb c0,bcell hb c1,hp.below hb,hh,hB,hA,s1.below hb,s2.below hb⟩⟩
theorem VsAt.below {B:Nat} {w w':World} {a:Option Addr} {n:Nat} {l:List Vo} (h:VsAt B w a n l) (hb:Below w.heap.size w w'):VsAt B w' a n l:=
 ⟨h.len,fun i x hx=>by
  obtain ⟨b,o,pa,pn,pc,ha,c0,c1,c2,c3,hp,hh,hB,s2⟩:=h.cell i x hx
  exact ⟨b,o,pa,pn,pc,ha,bcell hb c0,bcell hb c1,bcell hb c2,bcell hb c3,hp.below hb,hh,hB,s2.below hb⟩⟩
theorem ItsAt.mono {B B':Nat} {w:World} {a:Option Addr} {n:Nat} {l:List It} (h:ItsAt B w a n l) (hb:B'<=B):ItsAt B' w a n l:=
 ⟨h.len,fun i x hx=>by
  obtain ⟨b,o,pa,pn,pc,ha,c0,c1,hp,hh,hB,hA,s1,s2⟩:=h.cell i x hx
  exact ⟨b,o,pa,pn,pc,ha,c0,c1,hp,hh.mono hb,by omega,fun ad had=>by have:=hA ad had;omega,s1.mono hb,s2.mono hb⟩⟩
theorem VsAt.mono {B B':Nat} {w:World} {a:Option Addr} {n:Nat} {l:List Vo} (h:VsAt B w a n l) (hb:B'<=B):VsAt B' w a n l:=
 ⟨h.len,fun i x hx=>by
  obtain ⟨b,o,pa,pn,pc,ha,c0,c1,c2,c3,hp,hh,hB,s2⟩:=h.cell i x hx
  exact ⟨b,o,pa,pn,pc,ha,c0,c1,c2,c3,hp.mono hb,hh.mono hb,by omega,s2.mono hb⟩⟩
theorem ItsAt.grown {B r:Nat} {w w':World} {a:Option Addr} {n:Nat} {l:List It} (h:ItsAt B w a n l) (hg:w.grownBy w' (some r)) (hr:r<B):ItsAt B w' a n l:=
 ⟨h.len,fun i x hx=>by
  obtain ⟨b,o,pa,pn,pc,ha,c0,c1,hp,hh,hB,hA,s1,s2⟩:=h.cell i x hx
  exact ⟨b,o,pa,pn,pc,ha,hg.cell c0 (by simp;omega),hg.cell c1 (by simp;omega),hp.grown hg (fun ad had=>by have:=hA ad had;omega),hh,hB,hA,s1.grown hg hr,s2.grown hg hr⟩⟩
theorem bt_ {B:Nat} {w:World} {a:Option Addr} {n:Nat} {l:List It} (h:ItsAt B w a n l) {k:Nat} (hk:k<n) :
  ∃ b o x pa pn pc,a=some ⟨b,o,none⟩∧l[k]?=some x∧w.cell? ⟨b,o+k*2,none⟩=some (.string x.nm)∧w.cell? ⟨b,o+k*2+1,none⟩=some (.slice pa pn pc)∧PtsAt w pa pn x.ps∧Hd B pa pn pc∧B<=b∧∀ ad,pa=some ad->B<=ad.block:=by
 have hx:l[k]?=some (l[k]'(by rw [h.len];exact hk)):=by simp [h.len,hk]
 obtain ⟨b,o,pa,pn,pc,ha,c0,c1,hp,hh,hB,hA,_⟩:=h.cell k _ hx
 exact ⟨b,o,_,pa,pn,pc,ha,hx,c0,c1,hp,hh,hB,hA⟩
theorem cg_ {B:Nat} {w:World} {a:Option Addr} {n:Nat} {l:List Vo} (h:VsAt B w a n l) {k:Nat} (hk:k<n) :
  ∃ b o x pa pn pc,a=some ⟨b,o,none⟩∧l[k]?=some x∧w.cell? ⟨b,o+k*4,none⟩=some (.int .i64 x.id)∧w.cell? ⟨b,o+k*4+1,none⟩=some (.string x.nm)∧w.cell? ⟨b,o+k*4+2,none⟩=some (.bool x.fx)∧w.cell? ⟨b,o+k*4+3,none⟩=some (.slice pa pn pc)∧ItsAt B w pa pn x.its∧Hd B pa pn pc∧B<=b:=by
 have hx:l[k]?=some (l[k]'(by rw [h.len];exact hk)):=by simp [h.len,hk]
 obtain ⟨b,o,pa,pn,pc,ha,c0,c1,c2,c3,hp,hh,hB,_⟩:=h.cell k _ hx
 exact ⟨b,o,_,pa,pn,pc,ha,hx,c0,c1,c2,c3,hp,hh,hB⟩
/-- Strings and lists as short as memory has them. -/
def StrI (l:List It):Prop:=∀ x∈l,x.nm.size<=9223372036854775807∧x.ps.length<=4194304
def StrV (l:List Vo):Prop:=∀ v∈l,v.nm.size<=9223372036854775807∧v.its.length<=4194304∧StrI v.its
/-- Items are right, behind the one ahead. -/
def igo (e:List Ex):Option It->List It->Bool
 |_,[]=>true
 |q,x::r=>nameB x.nm&&(match q with | none=>true | some p=>bl p.nm.toList x.nm.toList)&&(contentO x.ps e).isSome&&igo e (some x) r
def itemsB (l:List It) (e:List Ex):Bool:=decide (l.length<=5)&&igo e none l
/-- Volumes have rising ids and are right. -/
def vgo (next:Int) (e:List Ex):Int->List Vo->Bool
 |_,[]=>true
 |last,v::r=>decide (last<v.id)&&decide (v.id<next)&&nameB v.nm&&itemsB v.its e&&vgo next e v.id r
def volsB (next:Int) (l:List Vo) (e:List Ex):Bool:=decide (l.length<=6)&&vgo next e 0 l
/-- What a file's parts, an item, a volume and all of them add to what is counted. -/
def partCs (vol:Int) (f:ByteArray) (ps:List Pt):List Ct:=(ps.filter (fun p=>!(p.a==0))).map (fun p=>⟨⟨p.a,vol,f⟩,1⟩)
def volCs (v:Vo):List Ct:=v.its.flatMap (fun x=>partCs v.id x.nm x.ps)
def allCs (l:List Vo):List Ct:=l.flatMap volCs
def walkL (l:List Vo):List Ct:=sumC [] (allCs l)
def namesB (l:List Vo):Bool:=decide ((l.map (·.nm.toList)).Nodup)
/-- Just the extents that somebody names. -/
def addrB (e:List Ex) (l:List Ct):Bool:=e.all (fun x=>l.any (fun c=>c.o.a==x.a))&&l.all (fun c=>e.any (fun x=>x.a==c.o.a))
/-- A right pool. -/
def poolB (p:Po):Bool:=spaceOkB p.size p.ex&&decide (1<=p.next)&&decide (p.next<=1000000000)&&volsB p.next p.vs p.ex&&namesB p.vs&&(match flushedO p.rf p.lt with | none=>false | some s=>eqCts s (walkL p.vs))&&addrB p.ex (p.rf++p.lt)
end Go.Proofs.YtigldeccfpkdmaaGreatDoor
