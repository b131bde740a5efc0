/- Counts added up: a list in order with no nought is told by its sums. -/
import Derived.RangeFuncNested
import Derived.RangeFuncBound
import Derived.Shelf.RegionOpen
import Derived.OwnWalkIn
import Derived.LoopNIn
import Derived.LoopIn
import Derived.Maps.AppendAt
import Derived.StillTailTactics
import Derived.Test.YteejlahappbalaaGreatDoorU00
set_option maxHeartbeats 20000000
set_option maxRecDepth 100000
namespace Go.Proofs.YteejlahappbalaaGreatDoor
section
open Go Go.RowKit
variable{c:Ct}
def tot (o:Ow):List Ct->Int
 |[]=>0
 |c::r=>(if Cn c.o o=true then c.n else 0)+tot o r
def BS (l:List Ct):Prop:=∀ c∈l,c.n≠0
theorem a3_ (o:Ow):Cn o o=true:=aM_.2 rfl
theorem bn_ (o:Ow):∀ (l m:List Ct),tot o (l++m)=tot o l+tot o m
 |[],m=>by simp[tot]
 |c::r,m=>by simp only[YF,tot,bn_ o r m];omega
end
section
open Go.RowKit Go.Shelf Tryz
attribute [local go_sem] YJ
attribute [local go_sem] YJ
attribute [local go_sem] YJ
abbrev ics:Int->List Value:=fun x=>[Value.int .i64 x]
end
section
open Go Go.RowKit Go.BigFrame Tryz
variable{p:Pt}
theorem sI{p:Prop}(h:p:=by kernel_rfl):p:=h
end
section
open Go Go.RowKit Go.BigFrame Tryz
variable{c:Array Value}{l:List Ct}
def Cx (l:List Ct):Prop:=∀ c∈l,c.o.f.size<=9223372036854775807
end
section
open Go Go.RowKit
structure It where
 nm:ByteArray
 ps:List Pt
end
section
open Go Go.RowKit
variable{B n:Nat}{a:Option Addr}{w:World}
variable{l:List It}
structure Vo where
 id:Int
 nm:ByteArray
 fx:Bool
 its:List It
structure Po where
 size:Int
 next:Int
 ex:List Ex
 vs:List Vo
 rf:List Ct
 lt:List Ct
def Hd (B:Nat)(a:Option Addr)(n cap:Nat):Prop:=n<=cap∧cap<=9223372036854775807∧(0<B->(a=none->cap=0)∧∀ ad,a=some ad->ad.spot=none)
def Sf (B:Nat)(w:World)(a:Option Addr):Prop:=0<B->∀ ad,a=some ad->B<=ad.block∧∃ c t,Blk w ad.block c t
structure BT (B:Nat)(w:World)(a:Option Addr)(n:Nat)(l:List It):Prop where
 len:l.length=n
 cell:∀ i x,l[i]?=some x->∃ b o pa pn pc,a=some ⟨b,o,none⟩∧w.cell? ⟨b,o+i*2,none⟩=some (.string x.nm)∧w.cell? ⟨b,o+i*2+1,none⟩=some (.slice pa pn pc)∧BH w pa pn x.ps∧Hd B pa pn pc∧B<=b∧(∀ ad,pa=some ad->B<=ad.block)∧Sf B w pa∧Sf B w a
structure Ek (B:Nat)(w:World)(a:Option Addr)(n:Nat)(l:List Vo):Prop where
 len:l.length=n
 cell:∀ i x,l[i]?=some x->∃ b o pa pn pc,a=some ⟨b,o,none⟩∧w.cell? ⟨b,o+i*4,none⟩=some (.int .i64 x.id)∧w.cell? ⟨b,o+i*4+1,none⟩=some (.string x.nm)∧w.cell? ⟨b,o+i*4+2,none⟩=some (.bool x.fx)∧w.cell? ⟨b,o+i*4+3,none⟩=some (.slice pa pn pc)∧BT B w pa pn x.its∧Hd B pa pn pc∧B<=b∧Sf B w a
def Ua (l:List It):Prop:=∀ x∈l,x.nm.size<=9223372036854775807∧x.ps.length<=4194304
def KV (l:List Vo):Prop:=∀ v∈l,v.nm.size<=9223372036854775807∧v.its.length<=4194304∧Ua v.its
end
section
open Go Go.RowKit Go.BigFrame Tryz
variable{p:Pt}
theorem sN{p:Prop}(h:p:=by simp;omega):p:=h
end
section
open Go Go.RowKit
variable{c:Ct}
def BF:List Ct->Ct->List Ct
 |[],c=>[c]
 |x::r,c=>if Bl x.o c.o=true then x::BF r c else if Cn x.o c.o=true then (if x.n+c.n≠0 then ⟨c.o,x.n+c.n⟩::r else r) else c::x::r
def A4 (l more:List Ct):List Ct:=more.foldl BF l
end
section
open Go Go.RowKit Go.BigFrame Tryz
variable{c:Ct}{size:Int}
def LL (c:UInt8):Bool:=decide (97<=(c.toNat:Int))&&decide ((c.toNat:Int)<=122)
def nameB (d:ByteArray):Bool:=decide (1<=d.size)&&decide (d.size<=8)&&d.data.toList.all LL
end
section
open Go Go.RowKit Go.BigFrame Tryz
variable{c:Array Value}{l:List Ct}{x:Value}
def AO (o:Ow):Bool:=decide (1<=o.a)&&decide (o.a<=400)&&decide (1<=o.v)&&decide (o.v<=1000000000)&&nameB o.f
def CG (c:Ct):Bool:=AO c.o&&decide (-1000<=c.n)&&decide (c.n<=1000)&&!(c.n==0)
def AQ (l:List Ct):Bool:=decide (l.length<=200)&&l.all CG
def EY (c:Ct):Bool:=AO c.o&&decide (1<=c.n)&&decide (c.n<=1000)
def rgo:Option Ct->List Ct->Bool
 |_,[]=>true
 |none,c::r=>EY c&&rgo (some c) r
 |some q,c::r=>EY c&&Bl q.o c.o&&rgo (some c) r
def AB (l:List Ct):Bool:=decide (l.length<=200)&&rgo none l
def As (refs late:List Ct):Option (List Ct):=if AB refs=true∧AQ late=true then (if AB (A4 refs late)=true then some (A4 refs late) else none) else none
theorem g1_:∀ {l:List Ct} {q:Option Ct},rgo q l=true->∀ x∈l,EY x=true
 |[],_,_=>by simp
 |c::r,q,h=>by
  have h2:EY c=true∧rgo (some c) r=true:=by
   cases q
   ·simpa only[rgo,Zf] using h
   ·simp only[rgo,Zf] at h;exact⟨h.1.1,h.2⟩
  intro x hx;rcases Zn.1 hx with rfl | hx
  ·exact h2.1
  ·exact g1_ h2.2 x hx
def Or (p q:Ct):Bool:=Cn p.o q.o&&p.n==q.n
def BU:List Ct->List Ct->Bool
 |[],[]=>true
 |p::r,q::s=>Or p q&&BU r s
 |_,_=>false
end
section
open Go Go.RowKit
variable{B B' n r:Nat}{a:Option Addr}{w w':World}
variable{l:List It}
def igo (e:List Ex):Option It->List It->Bool
 |_,[]=>true
 |q,x::r=>nameB x.nm&&(match q with | none=>true | some p=>bl p.nm.toList x.nm.toList)&&(Ax x.ps e).isSome&&igo e (some x) r
def itemsB (l:List It)(e:List Ex):Bool:=decide (l.length<=5)&&igo e none l
def vgo (next:Int)(e:List Ex):Int->List Vo->Bool
 |_,[]=>true
 |last,v::r=>decide (last<v.id)&&decide (v.id<next)&&nameB v.nm&&itemsB v.its e&&vgo next e v.id r
def Fj (next:Int)(l:List Vo)(e:List Ex):Bool:=decide (l.length<=6)&&vgo next e 0 l
def AX (vol:Int)(f:ByteArray)(ps:List Pt):List Ct:=(ps.filter (fun p=>!(p.a==0))).map (fun p=>⟨⟨p.a,vol,f⟩,1⟩)
def J6 (v:Vo):List Ct:=v.its.flatMap (fun x=>AX v.id x.nm x.ps)
def BI (l:List Vo):List Ct:=l.flatMap J6
def A9 (l:List Vo):List Ct:=A4 [] (BI l)
def ET (l:List Vo):Bool:=decide ((l.map (·.nm.toList)).Nodup)
def DW (e:List Ex)(l:List Ct):Bool:=e.all (fun x=>l.any (fun c=>c.o.a==x.a))&&l.all (fun c=>e.any (fun x=>x.a==c.o.a))
def Ai (p:Po):Bool:=Af p.size p.ex&&decide (1<=p.next)&&decide (p.next<=1000000000)&&Fj p.next p.vs p.ex&&ET p.vs&&(match As p.rf p.lt with | none=>false | some s=>BU s (A9 p.vs))&&DW p.ex (p.rf++p.lt)
theorem Hd.mono {cap:Nat}(h:Hd B a n cap)(hb:B'<=B):Hd B' a n cap:=⟨h.1,h.2.1,fun h0=>h.2.2 sH⟩
theorem Sf.below (h:Sf B w a)(hb:Below w.heap.size w w'):Sf B w' a:=fun h0 ad e=>by
 obtain⟨h1,c,t,h2⟩:=h h0 ad e;exact⟨h1,c,t,h2.below hb⟩
theorem Sf.mono (h:Sf B w a)(hb:B'<=B):Sf B' w a:=fun h0 ad e=>by
 obtain⟨h1,r⟩:=h sH ad e;exact⟨sH,r⟩
theorem rK{p:Prop}(h:p:=by simp only[ne_eq];omega):p:=h
theorem Sf.grown (h:Sf B w a)(hg:w.grownBy w' (some r))(hr:r<B):Sf B w' a:=fun h0 ad e=>by
 obtain⟨h1,c,t,h2⟩:=h h0 ad e;exact⟨h1,c,t,h2.grown hg rK⟩
theorem BT.below (h:BT B w a n l)(hb:Below w.heap.size w w'):BT B w' a n l:=
 ⟨h.len,fun i x hx=>by
  obtain⟨b,o,pa,pn,pc,ha,c0,c1,hp,hh,hB,hA,s1,s2⟩:=h.cell i x hx;exact⟨b,o,pa,pn,pc,ha,Ab hb c0,Ab hb c1,hp.below hb,hh,hB,hA,s1.below hb,s2.below hb⟩⟩
theorem Ek.below {l:List Vo}(h:Ek B w a n l)(hb:Below w.heap.size w w'):Ek B w' a n l:=
 ⟨h.len,fun i x hx=>by
  obtain⟨b,o,pa,pn,pc,ha,c0,c1,c2,c3,hp,hh,hB,s2⟩:=h.cell i x hx;exact⟨b,o,pa,pn,pc,ha,Ab hb c0,Ab hb c1,Ab hb c2,Ab hb c3,hp.below hb,hh,hB,s2.below hb⟩⟩
theorem BT.mono (h:BT B w a n l)(hb:B'<=B):BT B' w a n l:=
 ⟨h.len,fun i x hx=>by
  obtain⟨b,o,pa,pn,pc,ha,c0,c1,hp,hh,hB,hA,s1,s2⟩:=h.cell i x hx;exact⟨b,o,pa,pn,pc,ha,c0,c1,hp,hh.mono hb,sH,fun ad hc=>by have:=hA ad hc;omega,s1.mono hb,s2.mono hb⟩⟩
theorem Ek.mono {l:List Vo}(h:Ek B w a n l)(hb:B'<=B):Ek B' w a n l:=
 ⟨h.len,fun i x hx=>by
  obtain⟨b,o,pa,pn,pc,ha,c0,c1,c2,c3,hp,hh,hB,s2⟩:=h.cell i x hx;exact⟨b,o,pa,pn,pc,ha,c0,c1,c2,c3,hp.mono hb,hh.mono hb,sH,s2.mono hb⟩⟩
theorem BT.grown (h:BT B w a n l)(hg:w.grownBy w' (some r))(hr:r<B):BT B w' a n l:=
 ⟨h.len,fun i x hx=>by
  obtain⟨b,o,pa,pn,pc,ha,c0,c1,hp,hh,hB,hA,s1,s2⟩:=h.cell i x hx;exact⟨b,o,pa,pn,pc,ha,hg.cell c0 sN,hg.cell c1 sN,hp.grown hg (fun ad hb=>by have:=hA ad hb;omega),hh,hB,hA,s1.grown hg hr,s2.grown hg hr⟩⟩
end
section
open Go Go.RowKit Go.BigFrame Tryz
variable{p:Pt}
theorem sO{p:Prop}(h:p:=by unfold maxLen;omega):p:=h
end
section
open Go.RowKit Go.Shelf Tryz
variable{l:List Ex}
attribute [local go_sem] YJ
attribute [local go_sem] YJ
theorem cu_ {size:Int}(h:Af size l=true):1<=size∧size<=400∧l.length<=60∧xgo size 1 l=true:=by
 simp only[Af,Zf,ZU] at h;exact⟨h.1.1.1,h.1.1.2,h.1.2,h.2⟩
end
section
open Go Go.RowKit
theorem sj{p:Prop}(h:p:=by rcases hp with rfl | rfl | rfl | rfl<;>rfl):p:=h
end
section
open Go Go.RowKit Go.BigFrame Tryz
variable{p:Pt}
theorem sV{p:Prop}(h:p:=by cases h;rfl):p:=h
theorem sY{p:Prop}(h:p:=by cases h):p:=h
end
section
open Go Go.RowKit Go.BigFrame Tryz
variable{l:List Ct}
theorem Cx.at (h:Cx l){k:Nat}{e:Ct}(he:l[k]?=some e):e.o.f.size<=9223372036854775807:=h e (Zc he)
end
section
open Go Go.RowKit
variable{B k n:Nat}{a:Option Addr}{w:World}
variable{l:List It}
theorem bO_ (h:BT B w a n l)(hk:k<n):
  ∃ b o x pa pn pc,a=some ⟨b,o,none⟩∧l[k]?=some x∧w.cell? ⟨b,o+k*2,none⟩=some (.string x.nm)∧w.cell? ⟨b,o+k*2+1,none⟩=some (.slice pa pn pc)∧BH w pa pn x.ps∧Hd B pa pn pc∧B<=b∧∀ ad,pa=some ad->B<=ad.block:=by
 have hx:l[k]?=some (l[k]'rB):=by simp[h.len,hk]
 obtain⟨b,o,pa,pn,pc,ha,c0,c1,hp,hh,hB,hA,_⟩:=h.cell k _ hx;exact⟨b,o,_,pa,pn,pc,ha,hx,c0,c1,hp,hh,hB,hA⟩
theorem b5_ {l:List Vo}(h:Ek B w a n l)(hk:k<n):
  ∃ b o x pa pn pc,a=some ⟨b,o,none⟩∧l[k]?=some x∧w.cell? ⟨b,o+k*4,none⟩=some (.int .i64 x.id)∧w.cell? ⟨b,o+k*4+1,none⟩=some (.string x.nm)∧w.cell? ⟨b,o+k*4+2,none⟩=some (.bool x.fx)∧w.cell? ⟨b,o+k*4+3,none⟩=some (.slice pa pn pc)∧BT B w pa pn x.its∧Hd B pa pn pc∧B<=b:=by
 have hx:l[k]?=some (l[k]'rB):=by simp[h.len,hk]
 obtain⟨b,o,pa,pn,pc,ha,c0,c1,c2,c3,hp,hh,hB,_⟩:=h.cell k _ hx;exact⟨b,o,_,pa,pn,pc,ha,hx,c0,c1,c2,c3,hp,hh,hB⟩
end
section
open Go Go.RowKit Go.BigFrame Tryz
variable{x:Int}{B cap n:Nat}{a:Option Addr}{p:Pt}
theorem rl{p:Prop}(h:p:=by have:=(Zb.1 hy).1;simp at this;exact this):p:=h
theorem at_ {x:Nat}(h:∀ ad,a=some ad->B<=ad.block)(hx:x<B):some x≠Value.ownBlock (.slice a n cap):=by
 exact mN
end
section
open Go Go.RowKit
variable{a b:Ow}
theorem aS_ (p:Ct):p.cs.length=4:=rfl
theorem a9_ (l:List Ct):∀ u∈l.flatMap Ct.cs,u.oneCell'=true:=by
 intro u hu;obtain⟨p,_,hp⟩:=ZL.1 hu;simp[Ct.cs] at hp;exact sj
theorem eM_ {w:World}{b:Nat}{p:Ct}(h0:w.cell? ⟨b,0,none⟩=some (.int .i64 p.o.a))(h1:w.cell? ⟨b,1,none⟩=some (.int .i64 p.o.v))(h2:w.cell? ⟨b,2,none⟩=some (.string p.o.f))(h3:w.cell? ⟨b,3,none⟩=some (.int .i64 p.n)):A8 w (some ⟨b,0,none⟩) 1 [p]:=by
 refine⟨rfl,fun i x hx=>⟨b,0,rfl,fun j v hv=>?_⟩⟩;have hi:i=0:=rP;subst hi;simp at hx;subst hx
 match j,hv with
 |0,hv=>obtain rfl:=Zi hv;exact h0
 |1,hv=>obtain rfl:=Zi hv;exact h1
 |2,hv=>obtain rfl:=Zi hv;exact h2
 |3,hv=>obtain rfl:=Zi hv;exact h3
 |j+4,hv=>simp[Ct.cs] at hv
theorem cl_ (w:World)(p:Ct)(t:TypeId)(b:Nat)(hb:b=w.heap.size):A8 (w.alloc (.cells #[.int .i64 p.o.a,.int .i64 p.o.v,.string p.o.f,.int .i64 p.n] t)) (some ⟨b,0,none⟩) 1 [p]:=by
 subst hb;exact eM_ sK sK sK sK
theorem JM:(Tryz.prog.info? 70).map (fun i=>(i.zero,i.size,i.bytes))=some (some (.agg #[.int .i64 0,.int .i64 0,.string .empty,.int .i64 0]),4,40):=by kernel_rfl
end
section
open Go Go.RowKit Go.BigFrame Tryz
variable{a:Option Addr}{p:Pt}
theorem pC{p:Prop}(h:p:=by go_simp;unfold Cn;by_cases h1:p.a=q.a<;>by_cases h2:p.v=q.v<;>by_cases h3:p.f.toList=q.f.toList<;>simp[h1,h2,h3]):p:=h
end
section
open Go Go.RowKit Go.BigFrame Tryz
variable{l:List Ct}{x:Value}
theorem br_ (h:AQ l=true):l.length<=200∧∀ x∈l,-1000<=x.n∧x.n<=1000:=by
 simp only[AQ,Zf,ZU,List.all_eq_true] at h;refine⟨h.1,fun x hx=>?_⟩;have:=h.2 x hx;simp only[CG,Zf,ZU] at this;exact⟨this.1.1.2,this.1.2⟩
theorem a0_ (h:AB l=true):l.length<=200∧∀ x∈l,1<=x.n∧x.n<=1000:=by
 simp only[AB,Zf,ZU] at h;refine⟨h.1,fun x hx=>?_⟩;have:=g1_ h.2 x hx;simp only[EY,Zf,ZU] at this;exact⟨this.1.2,this.2⟩
end
section
open Go Go.RowKit Go.BigFrame Tryz
variable{p:Pt}
theorem rm{p:Prop}(h:p:=by first | omega | (simp;omega)):p:=h
theorem rU{p:Prop}(h:p:=by rw[qh.out,he.out]):p:=h
end
section
open Go Go.RowKit
theorem ou{p:Prop}(h:p:=by simp[hc]):p:=h
end
section
open Go Go.RowKit Go.BigFrame Tryz
variable{l:List Pt}{w:World}
theorem aE_ {P:Program}{id:Nat}{Q:Exit->Act->World->Prop}{a:Act}{l:List Oper}(n:Nat)(hm:P.follows .mixedOrders=true)(hB:Region.lexTailB .any l.toArray n=true)
  (h:wpStill P l.toArray w.drew (fun a'=>wpList P l.toArray Q (l.drop n) a' w.drew) (l.take n) a):(Code.region id l.toArray true).wp P Q a w:=
 wp_region_still_tail n hm hB h
end
section
open Go Go.RowKit Go.BigFrame Tryz
variable{size:Int}{k:Nat}{p:Pt}
theorem lV{p:Prop}(h:p:=by
 obtain⟨k,hk,rfl,hI⟩:=hrel;by_cases hlt:k<d.size
 ·have hs:Hid (d.data.toList.drop k=d[k]::d.data.toList.drop (k+1)):=fH_ d k hlt
  cases hc:LL d[k]
  ·have zS:(d[k].toNat:Int)<97∨122<(d[k].toNat:Int):=by simp[LL] at hc;omega
   go_wp2;(all_goals go_returns);(all_goals go_light);all_goals (refine⟨ac_ ?_,rfl⟩;rw[hI.out,hs.out];simp[hc])
  ·have zS:97<=(d[k].toNat:Int)∧(d[k].toNat:Int)<=122:=by simp[LL] at hc;omega
   obtain⟨jR,jQ⟩:=zS;go_wp2;go_round
   case rel=>exact⟨k+1,sH,sQ,by show _=_;rw[hI.out,hs.out];simp[hc]⟩
   case measure=>simp[intOf];omega
 ·obtain rfl:k=d.size:=sH
  go_wp2;go_returns;go_light;refine⟨ac_ ?_,rfl⟩;rw[hI.out,Ze sK];rfl):p:=h
end
section
open Go Go.RowKit Go.BigFrame Tryz
variable{c:Array Value}{l:List Ct}{x y:Value}{w1:World}
theorem mL{p:Prop}(h:p:=by go_wp2;go_returns;go_light;exact⟨ac_ qd.out.symm,Yg _ _⟩):p:=h
def aheadC (l:List Ct)(k:Nat):Option Ct:=if k=0 then none else l[k-1]?
theorem gH_ (l:List Ct):aheadC l 0=none:=rfl
theorem bU_ (l:List Ct)(k:Nat):aheadC l (k+1)=l[k]?:=by simp[aheadC]
theorem pu{p:Prop}(h:p:=by
 obtain rfl:k=n:=sH
 go_wp2;go_returns;go_light;refine⟨ac_ ?_,hB⟩;rw[hI.out,Ze (Zm qg.out)];cases aheadC l k<;>rfl):p:=h
theorem oX{p:Prop}(h:p:=by show _=_;rw[hI.out,hd.out,jp.out,bU_,hq.out];simp[rgo,qY,jz.out]):p:=h
theorem dw{p:Prop}(h:p:=by show _=_;rw[hI.out,hd.out,gH_,bU_,hq.out];simp[rgo,jz.out]):p:=h
theorem j5_ {c:Ct}(hc:c.o.f.size<=9223372036854775807):∀ {l:List Ct},Cx l->Cx (BF l c)
 |[],_=>by intro x hx;simp[BF] at hx;subst hx;exact hc
 |y::r,h=>by
  have hy:=h y sK;have hr:Cx r:=fun x hx=>h x rv;unfold BF;split
  ·intro x hx;rcases Zn.1 hx with rfl | hx
   ·exact hy
   ·exact j5_ hc hr x hx
  ·split
   ·split
    ·intro x hx;rcases Zn.1 hx with rfl | hx
     ·exact hc
     ·exact hr x hx
    ·exact hr
   ·intro x hx;rcases Zn.1 hx with rfl | hx
    ·exact hc
    ·exact h x hx
theorem ht_:∀ {more l:List Ct},Cx l->Cx more->Cx (A4 l more)
 |[],l,h,_=>h
 |c::r,l,h,hm=>ht_ (more:=r) (l:=BF l c) (j5_ (hm c sK) h) (fun x hx=>hm x rv)
theorem pM{p:Prop}(h:p:=by rintro e w2 ⟨rfl,qj⟩;rw[qQ];have qk:=Aa qe qj;go_wp2;go_returns;go_light;exact⟨rfl,qk⟩):p:=h
theorem su{p:Prop}(h:p:=by rintro e w1 ⟨rfl,qe⟩;rw[hok];go_wp2;go_returns;go_light;exact⟨rfl,qe⟩):p:=h
theorem gg_:∀ {m:List Ct},l.length≠m.length->BU l m=false:=by
 induction l with
 |nil=>intro m h;cases m<;>simp[BU] at *
 |cons p r ih=>intro m h;cases m<;>simp[BU] at *;exact fun _=>ih h
end
section
open Go Go.RowKit
variable{c:Ct}
def AT (c:Ct)(s:List Ct×Bool)(x:Ct):List Ct×Bool:=
 if s.2=true then (s.1++[x],true) else if Bl x.o c.o=true then (s.1++[x],false) else
 if Cn x.o c.o=true then (if x.n+c.n≠0 then (s.1++[⟨c.o,x.n+c.n⟩],true) else (s.1,true)) else (s.1++[c]++[x],true)
def DU (c:Ct)(s:List Ct×Bool):List Ct:=if s.2=true then s.1 else s.1++[c]
theorem fI_ (c:Ct):∀ (l out:List Ct),l.foldl (AT c) (out,true)=(out++l,true)
 |[],out=>by simp
 |x::r,out=>by
  rw[YE,show AT c (out,true) x=(out++[x],true) by simp[AT],fI_ c r];simp
theorem jZ_ (c:Ct):∀ (l out:List Ct),DU c (l.foldl (AT c) (out,false))=out++BF l c
 |[],out=>by simp[DU,BF]
 |x::r,out=>by
  rw[YE];unfold BF;by_cases h1:Bl x.o c.o=true
  ·rw[show AT c (out,false) x=(out++[x],false) by simp[AT,h1],jZ_ c r,if_pos h1];simp
  ·by_cases h2:Cn x.o c.o=true
   ·by_cases h3:x.n+c.n≠0
    ·rw[show AT c (out,false) x=(out++[⟨c.o,x.n+c.n⟩],true) by simp[AT,h1,h2,h3],fI_,if_neg h1,if_pos h2,if_pos h3];simp[DU]
    ·rw[show AT c (out,false) x=(out,true) by simp[AT,h1,h2,h3],fI_,if_neg h1,if_pos h2,if_neg h3];simp[DU]
   ·rw[show AT c (out,false) x=(out++[c]++[x],true) by simp[AT,h1,h2],fI_,if_neg h1,if_neg h2];simp[DU]
end
section
open Go Go.RowKit Go.BigFrame Tryz
theorem aF_ (p q:Ow)(w:World):
  Calls prog 180 #[.agg #[.int .i64 p.a,.int .i64 p.v,.string p.f],.agg #[.int .i64 q.a,.int .i64 q.v,.string q.f]] w fun e w'=>e=.returned (.bool (Bl p q))∧Below w.heap.size w w':=by
 obtain⟨a,v,f⟩:=p;obtain⟨b,u,g⟩:=q;go_enter func180,ntmps180;go_wp2;(all_goals go_returns);(all_goals go_light);(all_goals refine⟨?_,sM⟩);all_goals simp_all [Bl]
end
section
open Go Go.RowKit Go.BigFrame Tryz
variable{c:Ct}{size x y:Int}{l more:List Ct}{r:List Pt}{B cap k n:Nat}{a:Option Addr}{p:Pt}{w:World}
theorem sE{p:Prop}(h:p:=by
 obtain⟨rfl,rfl⟩:b=b'∧o=o':=rE
 exact Yk w _ d0):p:=h
theorem Vk (p q:Ow)(w:World):(binOp .eql 68 (.agg #[.int .i64 p.a,.int .i64 p.v,.string p.f]) (.agg #[.int .i64 q.a,.int .i64 q.v,.string q.f])).run prog w=.ok (.bool (Cn p q)) w:=by
 have u2:=underlying2;have u9:=underlying9;have a2:=Tryz.isAgg2;have a9:=Tryz.isAgg9;have z2:=Tryz.sizeOf2;have z9:=Tryz.sizeOf9;have hS:prog.underlying 68=some (.struct (prog.fieldsOf 68)):=sI;have hp:prog.stoodInHeld 68=false:=sI;rw[run_eql_struct,show (10000:Nat)=9999+1 from rfl,run_equalIn_agg w 9999 68 _ _ hS hp];simp only[Program.fieldsOf,underlying68];exact pC
def Hj (c:Ct)(l:List Ct)(k:Nat):List Ct×Bool:=(l.take k).foldl (AT c) ([],false)
theorem nd_ {p:Ct}(h:l[k]?=some p):Hj c l (k+1)=AT c (Hj c l k) p:=by
 have hk:=(Zb.1 h).1;unfold Hj;rw[ZK,h];simp
theorem n4_ (h:l.length=n):DU c (Hj c l n)=BF l c:=by
 unfold Hj;rw[Zk (Zm h),jZ_];rfl
theorem di{p:Prop}(h:p:=by have:=(R2.block ad qy).1;omega):p:=h
theorem dy{p:Prop}(h:p:=by rw[qh.out,he.out];simp;omega):p:=h
theorem lC{p:Prop}(h:p:=by
 go_wp2_with (at_builtin;refine ag_ rfl (fun K hK=>ay_ _ _ 31 rfl (w.heap.size+1) 70 i0 (.agg #[.int .i64 0,.int .i64 0,.string .empty,.int .i64 0]) 40 underlying31 hi zM zC kT rfl sJ aS_ a9_ a2 n2 cap2 gk rfl (R2.alloc _) _ 1 1 [p] rfl (cl_ _ p _ _ sK) (fun ad h=>sV) (fun h=>sY) (n2+1) rfl sO sH sN (fun a3 cap3 w3 R3 qz=>hK _ _ ?_)));have qk:Below w.heap.size w w3:=Yi (hB.alloc hsz _) qz sN (aG_ fun ad qy=>di);have y0:=qz.cell (Aj _ z0) (at_ (fun ad qy=>(R2.block ad qy).1) (ZB _));have y1:=qz.cell (Aj _ z1) (at_ (fun ad qy=>(R2.block ad qy).1) (ZB _));have y2:=qz.cell (Aj _ z2) (at_ (fun ad qy=>(R2.block ad qy).1) (ZB _));have y3:=qz.cell (Aj _ z3) (at_ (fun ad qy=>(R2.block ad qy).1) (ZB _));have ji:w.heap.size+1<=w3.heap.size:=Yk w3 _ y0;go_wp2;go_roundw
 case rel=>exact⟨k+1,a3,n2+1,cap3,sH,sQ,rU,rfl,dy,by rw[qh.out,he.out];exact R3,eM_ y0 y1 y2 y3,ji,qk⟩
 case measure=>simp[intOf];omega):p:=h
theorem dF{p:Prop}(h:p:=by first | rfl | simp):p:=h
theorem dZ{p:Prop}(h:p:=by simpa using qC):p:=h
theorem hr_ (a:Option Addr)(n cap:Nat)(l:List Ct)(c:Ct)(w:World)(h:A8 w a n l)(hn:n<=4194304)(hb:∀ x∈l,-1000000000000000<=x.n∧x.n<=1000000000000000)(hc:-1000000000000000<=c.n∧c.n<=1000000000000000):
  Calls prog 140 #[.slice a n cap,.agg #[.int .i64 c.o.a,.int .i64 c.o.v,.string c.o.f,.int .i64 c.n]] w fun e w'=>(∃ a' n' cap',e=.returned (.slice a' n' cap')∧n'<=n+1∧Ac Ct.cs 4 70 w' w.heap.size a' n' cap' (BF l c))∧Below w.heap.size w w':=by
 have hr:Hid (l.length=n):=h.len;obtain⟨i0,hi,zM,zC,kT⟩:=info_parts JM;go_enter func140,ntmps140;go_wp2_with fail;go_loopw [5,6,7] (fun out dn ix wr=>∃ (k:Nat) (a2:Option Addr) (n2 cap2:Nat),k<=n∧ix=.int .i64 k∧dn=.bool (Hj c l k).2∧out=.slice a2 n2 cap2∧n2<=k+(if (Hj c l k).2=true then 1 else 0)∧Ac Ct.cs 4 70 wr (w.heap.size+1) a2 n2 cap2 (Hj c l k).1∧A8 wr (some ⟨w.heap.size,0,none⟩) 1 [c]∧w.heap.size+1<=wr.heap.size∧Below w.heap.size w wr) (fun _ _ ix _=>n-(intOf ix).toNat)
 case atStart=>exact⟨0,_,0,0,Zg _,rfl,rfl,rfl,Zg _,aw_ (Blk.new' _ _ _ _ sK) sK,(cl_ _ c _ _ rfl).alloc _,sK,sM⟩
 case round=>
  obtain⟨k,a2,n2,cap2,hk,rfl,rfl,rfl,qC,R2,C2,hf,hB⟩:=hrel;have hsz:=hB.size;obtain⟨_,_,c',hy,hu,z0,z1,z2,z3⟩:=aN_ C2 (k:=0) sH
  cases hy;simp at hu;subst hu;simp only[Nat.zero_mul,Nat.add_zero,Zq] at z0 z1 z2 z3;by_cases hlt:k<n
  ·obtain⟨b,o,p,rfl,hp,c0,c1,c2,c3⟩:=aN_ (h.below hB) hlt;have qh:Hid (Hj c l (k+1)=AT c (Hj c l k) p):=nd_ hp;obtain⟨hC,hD⟩:=hb p (Zc hp);have hg:b<wr.heap.size:=Yk wr _ c0;have hj:b<w.heap.size:=by
    obtain⟨b',o',p',qW,_,d0,_⟩:=aN_ h hlt;exact sE
   clear hp hb;generalize Hj c l k=G at *;obtain⟨gk,d⟩:=G;simp only at *;have hE:(k:Int)<n:=sH;have hF:(0:Int)<=k:=sH
   cases d
   ·have hs:n2<=k:=dZ;clear qC
    cases hl:Bl p.o c.o
    ·have hv:=Vk p.o c.o
     cases hm:Cn p.o c.o
     ·have he:Hid (AT c (gk,false) p=(gk++[c]++[p],true)):=by show _=_;simp[AT,hl,hm]
      rw[hm] at hv;go_wp2_with fail;have g0:=Ad c0;have g1:=Ad c1;have g2:=Ad c2;have g3:=Ad c3;have k0:=Ad z0;have k1:=Ad z1;have k2:=Ad z2;have k3:=Ad z3;have hh:=aA_ wr;refine ab_ sI sI ?_;repeat (go_big_quiet_step (first | (go_at_call 180;have qq:=fun w=>aF_ p.o c.o w;rw[hl] at qq;exact an_ (qq _))))
      refine wpQuiet_nil ?_;intro wq hx;have hq:=ah_ hx;clear hx g0 g1 g2 g3 k0 k1 k2 k3 hh;have ha:=hq.size;replace R2:=R2.below hq;replace hB:=Aa hB hq;replace z0:=Ab hq z0;replace z1:=Ab hq z1;replace z2:=Ab hq z2;replace z3:=Ab hq z3;replace c0:=Ab hq c0;replace c1:=Ab hq c1;replace c2:=Ab hq c2;replace c3:=Ab hq c3;replace hf:=Zl hf ha;replace hg:=Zy hg ha;replace hsz:=Zl hsz ha;clear hq ha;clear C2;go_wp2_with fail;have g0:=Ad c0;have g1:=Ad c1;have g2:=Ad c2;have g3:=Ad c3;have k0:=Ad z0;have k1:=Ad z1;have k2:=Ad z2;have k3:=Ad z3;have hh:=aA_ wq;refine ab_ sI sI ?_;repeat (go_big_quiet_step (first | (go_at_call 180;have qq:=fun w=>aF_ p.o c.o w;rw[hl] at qq;exact an_ (qq _))))
      refine wpQuiet_nil ?_;intro wq hx;have hq:=ah_ hx;clear hx g0 g1 g2 g3 k0 k1 k2 k3 hh;have ha:=hq.size;replace R2:=R2.below hq;replace hB:=Aa hB hq;replace z0:=Ab hq z0;replace z1:=Ab hq z1;replace z2:=Ab hq z2;replace z3:=Ab hq z3;replace c0:=Ab hq c0;replace c1:=Ab hq c1;replace c2:=Ab hq c2;replace c3:=Ab hq c3;replace hf:=Zl hf ha;replace hg:=Zy hg ha;replace hsz:=Zl hsz ha;clear hq ha;go_wp2_with (first | (at_builtin;refine ag_ rfl (fun K hK=>ay_ _ _ 31 rfl (w.heap.size+1) 70 i0 (.agg #[.int .i64 0,.int .i64 0,.string .empty,.int .i64 0]) 40 underlying31 hi zM zC kT rfl sJ aS_ a9_ a2 n2 cap2 gk rfl (R2.alloc _) _ 1 1 [c] rfl (cl_ _ c _ _ sK) (fun ad h=>sV) (fun h=>sY) (n2+1) rfl sO sH sN (fun a3 cap3 w3 R3 qz=>hK _ _ ?_));have qk:Below w.heap.size w w3:=Yi (hB.alloc hsz _) qz sN (aG_ fun ad qy=>di);have y0:=qz.cell (Aj _ z0) (at_ (fun ad qy=>(R2.block ad qy).1) (ZB _));have y1:=qz.cell (Aj _ z1) (at_ (fun ad qy=>(R2.block ad qy).1) (ZB _));have y2:=qz.cell (Aj _ z2) (at_ (fun ad qy=>(R2.block ad qy).1) (ZB _));have y3:=qz.cell (Aj _ z3) (at_ (fun ad qy=>(R2.block ad qy).1) (ZB _));have ji:w.heap.size+1<=w3.heap.size:=Yk w3 _ y0;have d0:=qz.cell (Aj _ c0) (at_ (fun ad qy=>(R2.block ad qy).1) (Nat.lt_succ_of_lt hj));have d1:=qz.cell (Aj _ c1) (at_ (fun ad qy=>(R2.block ad qy).1) (Nat.lt_succ_of_lt hj));have d2:=qz.cell (Aj _ c2) (at_ (fun ad qy=>(R2.block ad qy).1) (Nat.lt_succ_of_lt hj));have d3:=qz.cell (Aj _ c3) (at_ (fun ad qy=>(R2.block ad qy).1) (Nat.lt_succ_of_lt hj));have ht:=qk.size) | (at_builtin;refine ag_ rfl (fun K hK=>ay_ _ _ 31 rfl (w.heap.size+1) 70 i0 (.agg #[.int .i64 0,.int .i64 0,.string .empty,.int .i64 0]) 40 underlying31 hi zM zC kT rfl sJ aS_ a9_ a3 (n2+1) cap3 (gk++[c]) rfl (R3.alloc _) _ 1 1 [p] rfl (cl_ _ p _ _ sK) (fun ad h=>sV) (fun h=>sY) (n2+2) rfl sO sH sN (fun a4 cap4 w4 R4 ho=>hK _ _ ?_))));have hw:Below w.heap.size w w4:=Yi (qk.alloc ht _) ho sN (aG_ fun ad qy=>(by have:=(R3.block ad qy).1;omega));have x0:=ho.cell (Aj _ y0) (at_ (fun ad qy=>(R3.block ad qy).1) (ZB _));have x1:=ho.cell (Aj _ y1) (at_ (fun ad qy=>(R3.block ad qy).1) (ZB _));have x2:=ho.cell (Aj _ y2) (at_ (fun ad qy=>(R3.block ad qy).1) (ZB _));have x3:=ho.cell (Aj _ y3) (at_ (fun ad qy=>(R3.block ad qy).1) (ZB _));have hz:w.heap.size+1<=w4.heap.size:=Yk w4 _ x0;go_wp2;go_roundw
      case rel=>exact⟨k+1,a4,n2+2,cap4,sH,sQ,rU,rfl,dy,by rw[qh.out,he.out];exact R4,eM_ x0 x1 x2 x3,hz,hw⟩
      case measure=>simp[intOf];omega
     ·rw[hm] at hv;by_cases hs0:p.n+c.n=0
      ·have he:Hid (AT c (gk,false) p=(gk,true)):=by show _=_;simp[AT,hl,hm,hs0]
       go_wp2_with fail;have g0:=Ad c0;have g1:=Ad c1;have g2:=Ad c2;have g3:=Ad c3;have k0:=Ad z0;have k1:=Ad z1;have k2:=Ad z2;have k3:=Ad z3;have hh:=aA_ wr;refine ab_ sI sI ?_;repeat (go_big_quiet_step (first | (go_at_call 180;have qq:=fun w=>aF_ p.o c.o w;rw[hl] at qq;exact an_ (qq _))))
       refine wpQuiet_nil ?_;intro wq hx;have hq:=ah_ hx;clear hx g0 g1 g2 g3 k0 k1 k2 k3 hh;have ha:=hq.size;replace R2:=R2.below hq;replace hB:=Aa hB hq;replace z0:=Ab hq z0;replace z1:=Ab hq z1;replace z2:=Ab hq z2;replace z3:=Ab hq z3;replace c0:=Ab hq c0;replace c1:=Ab hq c1;replace c2:=Ab hq c2;replace c3:=Ab hq c3;replace hf:=Zl hf ha;replace hg:=Zy hg ha;replace hsz:=Zl hsz ha;clear hq ha;clear C2;go_wp2_with fail;have g0:=Ad c0;have g1:=Ad c1;have g2:=Ad c2;have g3:=Ad c3;have k0:=Ad z0;have k1:=Ad z1;have k2:=Ad z2;have k3:=Ad z3;have hh:=aA_ wq;refine ab_ sI sI ?_;repeat (go_big_quiet_step (first | (go_at_call 180;have qq:=fun w=>aF_ p.o c.o w;rw[hl] at qq;exact an_ (qq _))))
       refine wpQuiet_nil ?_;intro wq hx;have hq:=ah_ hx;clear hx g0 g1 g2 g3 k0 k1 k2 k3 hh;have ha:=hq.size;replace R2:=R2.below hq;replace hB:=Aa hB hq;replace z0:=Ab hq z0;replace z1:=Ab hq z1;replace z2:=Ab hq z2;replace z3:=Ab hq z3;replace c0:=Ab hq c0;replace c1:=Ab hq c1;replace c2:=Ab hq c2;replace c3:=Ab hq c3;replace hf:=Zl hf ha;replace hg:=Zy hg ha;replace hsz:=Zl hsz ha;clear hq ha;go_wp2_with fail;have g0:=Ad c0;have g1:=Ad c1;have g2:=Ad c2;have g3:=Ad c3;have k0:=Ad z0;have k1:=Ad z1;have k2:=Ad z2;have k3:=Ad z3;have hh:=aA_ wq;refine ab_ sI sI ?_;repeat (go_big_quiet_step (first | (go_at_call 180;have qq:=fun w=>aF_ p.o c.o w;rw[hl] at qq;exact an_ (qq _))))
       refine wpQuiet_nil ?_;intro wq hx;have hq:=ah_ hx;clear hx g0 g1 g2 g3 k0 k1 k2 k3 hh;have ha:=hq.size;replace R2:=R2.below hq;replace hB:=Aa hB hq;replace z0:=Ab hq z0;replace z1:=Ab hq z1;replace z2:=Ab hq z2;replace z3:=Ab hq z3;replace c0:=Ab hq c0;replace c1:=Ab hq c1;replace c2:=Ab hq c2;replace c3:=Ab hq c3;replace hf:=Zl hf ha;replace hg:=Zy hg ha;replace hsz:=Zl hsz ha;clear hq ha;go_wp2;go_roundw
       case rel=>exact⟨k+1,a2,n2,cap2,sH,sQ,rU,rfl,dy,by rw[qh.out,he.out];exact R2,eM_ z0 z1 z2 z3,hf,hB⟩
       case measure=>simp[intOf];omega
      ·have he:Hid (AT c (gk,false) p=(gk++[⟨c.o,p.n+c.n⟩],true)):=by show _=_;simp[AT,hl,hm,hs0]
       go_wp2_with fail;have g0:=Ad c0;have g1:=Ad c1;have g2:=Ad c2;have g3:=Ad c3;have k0:=Ad z0;have k1:=Ad z1;have k2:=Ad z2;have k3:=Ad z3;have hh:=aA_ wr;refine ab_ sI sI ?_;repeat (go_big_quiet_step (first | (go_at_call 180;have qq:=fun w=>aF_ p.o c.o w;rw[hl] at qq;exact an_ (qq _))))
       refine wpQuiet_nil ?_;intro wq hx;have hq:=ah_ hx;clear hx g0 g1 g2 g3 k0 k1 k2 k3 hh;have ha:=hq.size;replace R2:=R2.below hq;replace hB:=Aa hB hq;replace z0:=Ab hq z0;replace z1:=Ab hq z1;replace z2:=Ab hq z2;replace z3:=Ab hq z3;replace c0:=Ab hq c0;replace c1:=Ab hq c1;replace c2:=Ab hq c2;replace c3:=Ab hq c3;replace hf:=Zl hf ha;replace hg:=Zy hg ha;replace hsz:=Zl hsz ha;clear hq ha;clear C2;go_wp2_with fail;have g0:=Ad c0;have g1:=Ad c1;have g2:=Ad c2;have g3:=Ad c3;have k0:=Ad z0;have k1:=Ad z1;have k2:=Ad z2;have k3:=Ad z3;have hh:=aA_ wq;refine ab_ sI sI ?_;repeat (go_big_quiet_step (first | (go_at_call 180;have qq:=fun w=>aF_ p.o c.o w;rw[hl] at qq;exact an_ (qq _))))
       refine wpQuiet_nil ?_;intro wq hx;have hq:=ah_ hx;clear hx g0 g1 g2 g3 k0 k1 k2 k3 hh;have ha:=hq.size;replace R2:=R2.below hq;replace hB:=Aa hB hq;replace z0:=Ab hq z0;replace z1:=Ab hq z1;replace z2:=Ab hq z2;replace z3:=Ab hq z3;replace c0:=Ab hq c0;replace c1:=Ab hq c1;replace c2:=Ab hq c2;replace c3:=Ab hq c3;replace hf:=Zl hf ha;replace hg:=Zy hg ha;replace hsz:=Zl hsz ha;clear hq ha;go_wp2_with fail;have g0:=Ad c0;have g1:=Ad c1;have g2:=Ad c2;have g3:=Ad c3;have k0:=Ad z0;have k1:=Ad z1;have k2:=Ad z2;have k3:=Ad z3;have hh:=aA_ wq;refine ab_ sI sI ?_;repeat (go_big_quiet_step (first | (go_at_call 180;have qq:=fun w=>aF_ p.o c.o w;rw[hl] at qq;exact an_ (qq _))))
       refine wpQuiet_nil ?_;intro wq hx;have hq:=ah_ hx;clear hx g0 g1 g2 g3 k0 k1 k2 k3 hh;have ha:=hq.size;replace R2:=R2.below hq;replace hB:=Aa hB hq;replace z0:=Ab hq z0;replace z1:=Ab hq z1;replace z2:=Ab hq z2;replace z3:=Ab hq z3;replace c0:=Ab hq c0;replace c1:=Ab hq c1;replace c2:=Ab hq c2;replace c3:=Ab hq c3;replace hf:=Zl hf ha;replace hg:=Zy hg ha;replace hsz:=Zl hsz ha;clear hq ha;have hA:Hid (IntKind.i64.wrap (p.n+c.n)=p.n+c.n):=by show _=_;rw[Ys];omega
       go_wp2_with fail;go_region_held3 (fun u=>u.cell? ⟨w.heap.size,0,none⟩=some (.int .i64 c.o.a)∧u.cell? ⟨w.heap.size,1,none⟩=some (.int .i64 c.o.v)∧u.cell? ⟨w.heap.size,2,none⟩=some (.string c.o.f)∧u.cell? ⟨w.heap.size,3,none⟩=some (.int .i64 c.n)∧u.cell? ⟨b,o+k*4+3,none⟩=some (.int .i64 p.n)) (go_keep) (first | (refine aJ_ rfl (ay_ _ _ 31 rfl (w.heap.size+1) 70 i0 (.agg #[.int .i64 0,.int .i64 0,.string .empty,.int .i64 0]) 40 underlying31 hi zM zC kT rfl sJ aS_ a9_ a2 n2 cap2 gk rfl (R2.below sM) _ 1 1 [(⟨c.o,IntKind.i64.wrap (p.n+c.n)⟩:Ct)] rfl (by first | exact cl_ _ (⟨c.o,IntKind.i64.wrap (p.n+c.n)⟩:Ct) _ _ dF | exact (cl_ _ (⟨c.o,IntKind.i64.wrap (p.n+c.n)⟩:Ct) _ _ dF).drew) (fun ad h=>sV) (fun h=>sY) (n2+1) rfl sO sH (by first | omega | (simp;omega) | (show w.heap.size+1<=(World.alloc _ _).heap.size;simp;omega)) ?_);intro a3 cap3 w3 R3 qz;have y0:=qz.cell (a:=⟨w.heap.size,0,none⟩) (by first | exact Aj _ z0 | exact Aj _ (Aj _ z0)) (at_ (fun ad qy=>(R2.block ad qy).1) (ZB _));have y1:=qz.cell (a:=⟨w.heap.size,1,none⟩) (by first | exact Aj _ z1 | exact Aj _ (Aj _ z1)) (at_ (fun ad qy=>(R2.block ad qy).1) (ZB _));have y2:=qz.cell (a:=⟨w.heap.size,2,none⟩) (by first | exact Aj _ z2 | exact Aj _ (Aj _ z2)) (at_ (fun ad qy=>(R2.block ad qy).1) (ZB _));have y3:=qz.cell (a:=⟨w.heap.size,3,none⟩) (by first | exact Aj _ z3 | exact Aj _ (Aj _ z3)) (at_ (fun ad qy=>(R2.block ad qy).1) (ZB _));have yb:=qz.cell (a:=⟨b,o+k*4+3,none⟩) (by first | exact Aj _ c3 | exact Aj _ (Aj _ c3)) (at_ (fun ad qy=>(R2.block ad qy).1) (Nat.lt_succ_of_lt hj))));have qk:Below w.heap.size w w3:=Yi (Aa hB sM) qz rm (aG_ fun ad qy=>di);have ji:w.heap.size+1<=w3.heap.size:=Yk w3 _ y0;rw[hA.out] at R3;go_wp2;go_roundw
       case rel=>exact⟨k+1,a3,n2+1,cap3,sH,sQ,rU,rfl,dy,by rw[qh.out,he.out];exact R3,eM_ y0 y1 y2 y3,ji,qk⟩
       case measure=>simp[intOf];omega
    ·have he:Hid (AT c (gk,false) p=(gk++[p],false)):=by show _=_;simp[AT,hl]
     go_wp2_with fail;have g0:=Ad c0;have g1:=Ad c1;have g2:=Ad c2;have g3:=Ad c3;have k0:=Ad z0;have k1:=Ad z1;have k2:=Ad z2;have k3:=Ad z3;have hh:=aA_ wr;refine ab_ sI sI ?_;repeat (go_big_quiet_step (first | (go_at_call 180;have qq:=fun w=>aF_ p.o c.o w;rw[hl] at qq;exact an_ (qq _))))
     refine wpQuiet_nil ?_;intro wq hx;have hq:=ah_ hx;clear hx g0 g1 g2 g3 k0 k1 k2 k3 hh;have ha:=hq.size;replace R2:=R2.below hq;replace hB:=Aa hB hq;replace z0:=Ab hq z0;replace z1:=Ab hq z1;replace z2:=Ab hq z2;replace z3:=Ab hq z3;replace c0:=Ab hq c0;replace c1:=Ab hq c1;replace c2:=Ab hq c2;replace c3:=Ab hq c3;replace hf:=Zl hf ha;replace hg:=Zy hg ha;replace hsz:=Zl hsz ha;clear hq ha;clear C2;exact lC
   ·have he:Hid (AT c (gk,true) p=(gk++[p],true)):=by show _=_;simp[AT]
    have hs:n2<=k+1:=dZ;clear qC;go_wp2_with fail;go_quiet (fail);have hq:=Bj wr nq;have ha:=hq.size;replace R2:=R2.below hq;replace hB:=Aa hB hq;replace z0:=Ab hq z0;replace z1:=Ab hq z1;replace z2:=Ab hq z2;replace z3:=Ab hq z3;replace c0:=Ab hq c0;replace c1:=Ab hq c1;replace c2:=Ab hq c2;replace c3:=Ab hq c3;replace hf:=Zl hf ha;replace hg:=Zy hg ha;replace hsz:=Zl hsz ha;clear hq ha C2;generalize wr.drewN nq=wq at *;exact lC
  ·obtain rfl:k=n:=sH;have qh:Hid (DU c (Hj c l k)=BF l c):=n4_ hr.out;generalize Hj c l k=G at *;obtain⟨gk,d⟩:=G;simp only at *
   cases d
   ·have he:Hid (DU c (gk,false)=gk++[c]):=by show _=_;simp[DU]
    have hs:n2<=k:=dZ;clear qC C2;go_wp2_with (at_builtin;refine ag_ rfl (fun K hK=>ay_ _ _ 31 rfl (w.heap.size+1) 70 i0 (.agg #[.int .i64 0,.int .i64 0,.string .empty,.int .i64 0]) 40 underlying31 hi zM zC kT rfl sJ aS_ a9_ a2 n2 cap2 gk rfl (R2.alloc _) _ 1 1 [c] rfl (cl_ _ c _ _ sK) (fun ad h=>sV) (fun h=>sY) (n2+1) rfl sO sH sN (fun a3 cap3 w3 R3 qz=>hK _ _ ?_)));have qk:Below w.heap.size w w3:=Yi (hB.alloc hsz _) qz sN (aG_ fun ad qy=>di);go_wp2;go_returns;exact⟨⟨a3,n2+1,cap3,rfl,sH,by rw[<-qh.out,he.out];exact R3.mono sH⟩,qk⟩
   ·have he:Hid (DU c (gk,true)=gk):=by show _=_;simp[DU]
    have hs:n2<=k+1:=dZ;clear qC;go_wp2;go_returns;exact⟨⟨a2,n2,cap2,rfl,sH,by rw[<-qh.out,he.out];exact R2.mono sH⟩,hB⟩
theorem fp_ {B D:Int}(hB:0<=B)(hD:0<=D)(h1:-D<=c.n)(h2:c.n<=D):∀ {l:List Ct},(∀ x∈l,-B<=x.n∧x.n<=B)->∀ x∈BF l c,-(B+D)<=x.n∧x.n<=B+D
 |[],_=>by intro x hx;simp[BF] at hx;subst hx;omega
 |y::r,h=>by
  have hy:=h y sK;have hr:∀ x∈r,-B<=x.n∧x.n<=B:=fun x hx=>h x rv;have ha:∀ x∈r,-(B+D)<=x.n∧x.n<=B+D:=fun x hx=>by have:=hr x hx;omega
  unfold BF;split
  ·intro x hx;rcases Zn.1 hx with rfl | hx
   ·omega
   ·exact fp_ hB hD h1 h2 hr x hx
  ·split
   ·split
    ·intro x hx;rcases Zn.1 hx with rfl | hx
     ·simp only;omega
     ·exact ha x hx
    ·exact ha
   ·intro x hx;rcases Zn.1 hx with rfl | hx
    ·omega
    ·rcases Zn.1 hx with rfl | hx
     ·omega
     ·exact ha x hx
def HG (l more:List Ct)(k:Nat):List Ct:=(more.take k).foldl BF l
theorem ne_ {p:Ct}(h:more[k]?=some p):HG l more (k+1)=BF (HG l more k) p:=by
 unfold HG;rw[ZK,h];simp
theorem n5_ (h:more.length=n):HG l more n=A4 l more:=by
 unfold HG A4;rw[Zk (Zm h)]
theorem cJ_ (a:Option Addr)(n cap:Nat)(l:List Ct)(a':Option Addr)(n' cap':Nat)(more:List Ct)(w:World)(h:A8 w a n l)(ha1:∀ ad,a=some ad->ad.spot=none)(ha2:a=none->cap=0)(h':A8 w a' n' more)(hn:n<=100000)(hn':n'<=100000)(hb:∀ x∈l,-100000000<=x.n∧x.n<=100000000)(hb':∀ x∈more,-100000000<=x.n∧x.n<=100000000):
  Calls prog 139 #[.slice a n cap,.slice a' n' cap'] w fun e w'=>(∃ a2 n2 cap2,e=.returned (.slice a2 n2 cap2)∧n2<=n+n'∧Ac Ct.cs 4 70 w' w.heap.size a2 n2 cap2 (A4 l more))∧Below w.heap.size w w':=by
 have hs:Hid (l.length=n):=h.len;have ha:Hid (more.length=n'):=h'.len;obtain⟨i0,hi,hv,hw,hy⟩:=info_parts JM;go_enter func139,ntmps139;go_wp2_with (at_builtin;refine ag_ rfl (fun K hK=>ay_ _ _ 31 rfl w.heap.size 70 i0 (.agg #[.int .i64 0,.int .i64 0,.string .empty,.int .i64 0]) 40 underlying31 hi hv hw hy rfl sJ aS_ a9_ _ 0 0 [] rfl (aw_ (Blk.new' _ _ _ _ sK) sK) a n cap l rfl (h.alloc _) ha1 ha2 n (Zq _) sO sH sK (fun a1 cap1 w1 hg hr=>hK _ _ ?_)));have hh:Below w.heap.size w w1:=Yi sM hr sK (fun k e=>by simp[Value.ownBlock] at e;omega);rw[ZM] at hg;go_loopw [5,6] (fun out ix wr=>∃ (k:Nat) (a2:Option Addr) (n2 cap2:Nat),k<=n'∧ix=.int .i64 k∧out=.slice a2 n2 cap2∧n2<=n+k∧Ac Ct.cs 4 70 wr w.heap.size a2 n2 cap2 (HG l more k)∧(∀ x∈HG l more k,-(100000000+100000000*(k:Int))<=x.n∧x.n<=100000000+100000000*(k:Int))∧Below w.heap.size w wr) (fun _ ix _=>n'-(intOf ix).toNat)
 case atStart=>exact⟨0,_,n,cap1,Zg _,rfl,rfl,sH,hg,by simpa[HG] using hb,hh⟩
 case round=>
  obtain⟨k,a2,n2,cap2,hk,rfl,rfl,ht,R2,hf,hB⟩:=hrel;have hu:=hB.size;by_cases hlt:k<n'
  ·obtain⟨b,o,p,rfl,hp,c0,c1,c2,c3⟩:=aN_ (h'.below hB) hlt;have hc:Hid (HG l more (k+1)=BF (HG l more k) p):=ne_ hp;obtain⟨hm,ho⟩:=hb' p (Zc hp);have hq:=fp_ (B:=100000000+100000000*(k:Int)) (D:=100000000) sH sH hm ho hf;have he:∀ x∈HG l more k,-1000000000000000<=x.n∧x.n<=1000000000000000:=fun x hx=>by have:=hf x hx;omega
   clear hp;generalize HG l more k=G at *;have hz:(k:Int)<n':=sH;have hA:(0:Int)<=k:=sH;go_wp2_with fail;refine (hr_ a2 n2 cap2 G p wr R2.sl sH he ⟨sH,sH⟩).mono ?_;rintro e w3 ⟨⟨a3,n3,cap3,rfl,hC,R3⟩,hj⟩;have hl:=Aa hB hj;go_wp2;go_roundw
   case rel=>exact⟨k+1,a3,n3,cap3,sH,sQ,rfl,sH,by rw[hc.out];exact R3.mono hu,by rw[hc.out];intro x hx;have:=hq x hx;omega,hl⟩
   case measure=>simp[intOf];omega
  ·obtain rfl:k=n':=sH;have hc:Hid (HG l more k=A4 l more):=n5_ ha.out;go_wp2;go_returns;exact⟨⟨a2,n2,cap2,rfl,ht,by rw[<-hc.out];exact R2⟩,hB⟩
end
section
open Go Go.RowKit
variable{c:Ct}
def Cm (l:List Ct):Prop:=l.Pairwise (fun x y=>Bl x.o y.o=true)
theorem jX_ (o:Ow)(c:Ct):∀ l:List Ct,tot o (BF l c)=tot o l+(if Cn c.o o=true then c.n else 0)
 |[]=>by simp[BF,tot]
 |x::r=>by
  unfold BF;split
  ·simp only[tot,jX_ o c r];omega
  ·split
   ·rename_i h1 h2;have e:=aM_.1 h2;split
    ·simp only[tot,e];split<;>omega
    ·simp only[tot,e];split<;>omega
   ·simp only[tot];omega
theorem jY_ {z:Ow}(hc:Bl z c.o=true):∀ {l:List Ct},(∀ x∈l,Bl z x.o=true)->∀ x∈BF l c,Bl z x.o=true
 |[],_=>by intro x hx;simp[BF] at hx;subst hx;exact hc
 |y::r,h=>by
  have hy:=h y sK;have hr:∀ x∈r,Bl z x.o=true:=fun x hx=>h x rv;unfold BF;split
  ·intro x hx;rcases Zn.1 hx with rfl | hx
   ·exact hy
   ·exact jY_ hc hr x hx
  ·split
   ·split
    ·intro x hx;rcases Zn.1 hx with rfl | hx
     ·exact hc
     ·exact hr x hx
    ·exact hr
   ·intro x hx;rcases Zn.1 hx with rfl | hx
    ·exact hc
    ·exact h x hx
theorem gE_ (c:Ct):∀ {l:List Ct},Cm l->Cm (BF l c)
 |[],_=>by simp[BF,Cm]
 |y::r,h=>by
  obtain⟨h1,h2⟩:=Ye.1 h;unfold BF;split
  ·rename_i k;exact Ye.2 ⟨jY_ k h1,gE_ c h2⟩
  ·rename_i k;split
   ·rename_i e;have e:=aM_.1 e;split
    ·exact Ye.2 ⟨fun x hx=>by simp only[<-e];exact h1 x hx,h2⟩
    ·exact h2
   ·rename_i e;have ha:Bl c.o y.o=true:=ct_ (by simpa using k) (fun e'=>e (aM_.2 e'));refine Ye.2 ⟨fun x hx=>?_,h⟩;rcases Zn.1 hx with rfl | hx
    ·exact ha
    ·exact b7_ ha (h1 x hx)
theorem gF_ (hc:c.n≠0):∀ {l:List Ct},BS l->BS (BF l c)
 |[],_=>by intro x hx;simp[BF] at hx;subst hx;exact hc
 |y::r,h=>by
  have hy:=h y sK;have hr:BS r:=fun x hx=>h x rv;unfold BF;split
  ·intro x hx;rcases Zn.1 hx with rfl | hx
   ·exact hy
   ·exact gF_ hc hr x hx
  ·split
   ·split
    ·rename_i k;intro x hx;rcases Zn.1 hx with rfl | hx
     ·exact k
     ·exact hr x hx
    ·exact hr
   ·intro x hx;rcases Zn.1 hx with rfl | hx
    ·exact hc
    ·exact h x hx
theorem eL_:∀ {more l:List Ct},Cm l->BS l->BS more->Cm (A4 l more)∧BS (A4 l more)∧∀ o,tot o (A4 l more)=tot o l+tot o more
 |[],l,hl,zl,_=>⟨hl,zl,fun o=>by simp[A4,tot]⟩
 |c::r,l,hl,zl,zm=>by
  obtain⟨h1,h2,h3⟩:=eL_ (more:=r) (gE_ c hl) (gF_ (zm c sK) zl) (fun x hx=>zm x rv);refine⟨h1,h2,fun o=>?_⟩
  have:=h3 o
  rw[jX_] at this;simp only[A4,YE,tot] at this ⊢;omega
end
section
open Go Go.RowKit
variable{P:Program}{w:World}
theorem iD_ {w':World}{v v':Value}(base:Nat)(t ty e:TypeId)(i:TypeInfo)(z:Value)(size bytes:Nat)(ht:P.underlying t=some (.slice e))(hi:P.info? e=some i)(hz:i.zero=some z)
  (hsize:i.size=size)(hby:i.bytes=bytes)(n:Nat)(xs:List Value)(hc:w.ownsRow base e size v n xs)
  (a:Addr)(m c:Nat)(news:List Value)(hm:0<m)(hl:news.length=m*size)(hnews:∀ j u,news[j]?=some u->w.cell? (a.add j)=some u)(h1:∀ u∈news,u.oneCell'=true)
  (h63:n+m<=maxLen)(hbytes:(n+m)*bytes<=140737488355328)(hr:(Builtin.append_ #[t,t] ty #[v,.slice (some a) m c]).run P w=.ok v' w'):
  ∀ g,v'.ownBlock=some g->v.ownBlock=some g∨w.heap.size<=g:=by
 subst hsize;subst hby;have hj:n+m<=9223372036854775807:=by simp only[maxLen] at h63;omega
 intro g' hh;rcases hc.2 with⟨rfl,rfl⟩ | ⟨g,cap,cur,rfl,ho,hg,hq,hp,hn,hk⟩
 ·have ha:=run_append_nil (P:=P) w t ty e i z ht hi hz a m c news hl hnews sH sH (by have hb:=hbytes;simp only[Zq] at hb;omega);rw[hr] at ha
  cases ha;right;simp[Value.ownBlock] at hh;omega
 ·by_cases hroom:n+m<=cap
  ·have hf:n*i.size+news.length<=cur.size:=by rw[hl,hn,<-Yd];exact ZS _ hroom
   have ha:=run_append_room (P:=P) w t ty e i ht hi g n cap cur hg a m c news hl hnews h1 hroom hf;rw[hr] at ha
   cases ha;left;simpa[Value.ownBlock] using hh
  ·have he:∀ j u,xs[j]?=some u->w.cell? ((⟨g,0,none⟩:Addr).add j)=some u:=hc.cells (g:=g) rfl;have ha:=run_append_grow (P:=P) w t ty e i z ht hi hz ⟨g,0,none⟩ n cap xs hc.1 he a m c news hl hnews sH sH (growslice_fits sH hbytes);rw[hr] at ha
   cases ha;right;simp[Value.ownBlock] at hh;omega
theorem mf{p:Prop}(h:p:=by
 rw[<-ZQ] at zT;obtain⟨a',cap',rfl,jv⟩:=bz_ hsz qg zT;unfold Oper.wp;simp[execOp,ho,resolve,invoke,builtin,hs,hx,hr,Result.andThen];refine h a' cap' w' jv hg (fun ad' ky=>?_);subst ky;rcases jE ad'.block (by simp[Value.ownBlock]) with h1 | h1
 ·cases da with
  |none=>simp[Value.ownBlock] at h1
  |some ad=>exact .inl ⟨ad,rfl,by simpa[Value.ownBlock] using h1⟩
 ·exact .inr h1):p:=h
end
section
open Go Go.RowKit Go.BigFrame Tryz
variable{l r:List Pt}{b:Nat}{p q:Pt}{w:World}
theorem i7_ (a:Option Addr)(n cap:Nat)(l:List Pt)(w:World)(h:BH w a n l)(hn:n<=4194304):
  Calls prog 135 #[.slice a n cap] w fun e w'=>e=.returned (.bool (Ae l))∧Below w.heap.size w w':=by
 have qg:=h.len;by_cases h16:n<=16
 ·have qd:Hid (Ae l=sgo none 0 l):=by show _=_;rw[pe_ l none 0 sH sH];simp[Ae,qg,h16]
  have qM:Hid (l.length=n):=qg;clear qg;go_enter func135,ntmps135;go_wp2_with fail;go_loopw [2,3,4] (fun r s ix wr=>∃ (k:Nat) (lf:Int),k<=n∧ix=.int .i64 k∧s=.int .i64 lf∧0<=lf∧lf<=100*k∧Hid (sgo none 0 l=sgo (ahead l k) lf (l.drop k))∧Below w.heap.size w wr) (fun _ _ ix _=>n-(intOf ix).toNat)
  case atStart=>exact⟨0,0,Zg _,rfl,rfl,sH,sH,rfl,Yg _ _⟩
  case round=>
   obtain⟨k,lf,hk,rfl,rfl,hh,hj,hI,hB⟩:=hrel;by_cases hlt:k<n
   ·obtain⟨b,o,p,rfl,hp,c0,c1,c2⟩:=bi_ (h.below hB) hlt;have hd:Hid (l.drop k=p::l.drop (k+1)):=al_ hp;have hq:Hid (l[k]?=some p):=hp;clear hp;have hl:(k:Int)<n:=sH;have hm:(0:Int)<=k:=sH
    cases hb:(Al p&&decide (p.n<=100))
    ·go_wp2_with fail;have g0:=Ad c0;have g1:=Ad c1;have g2:=Ad c2;have hf:=aA_ wr;refine ab_ sI sI ?_;repeat (go_big_quiet_step (first | (go_at_call 177;have qq:=cR_ p;rw[hb] at qq;exact an_ (qq _))))
     refine wpQuiet_nil ?_;intro w2 hx;have hc:=ah_ hx;clear hx;go_wp2;go_returns;go_light;refine⟨ac_ ?_,Aa hB hc⟩;rw[qd.out,hI.out,hd.out];cases ahead l k<;>simp only[sgo,hb,Zr]
    ·have ho:1<=p.n∧p.n<=100:=by simp at hb;exact⟨av_ hb.1,hb.2⟩
     rcases k with _ | j
     ·simp only[Nat.zero_mul,Nat.add_zero] at c0 c1 c2;go_wp2_with fail;have g0:=Ad c0;have g1:=Ad c1;have g2:=Ad c2;have hf:=aA_ wr;refine ab_ sI sI ?_;repeat (go_big_quiet_step (first | (go_at_call 177;have qq:=cR_ p;rw[hb] at qq;exact an_ (qq _))))
      refine wpQuiet_nil ?_;intro w2 hx;have hc:=ah_ hx;have d2:=Ab hc c2;clear hx;go_wp2;go_roundw
      case rel=>exact⟨1,lf+p.n,sH,sQ,sQ,sH,sH,by show _=_;rw[hI.out,hd.out,hh_,b6_,hq.out];simp only[sgo,hb,Zp],Aa hB hc⟩
      case measure=>simp[intOf];omega
     ·obtain⟨b',o',q,qW,hg,d0,d1,d2⟩:=bi_ (h.below hB) (k:=j) sH;obtain⟨rfl,rfl⟩:b=b'∧o=o':=rE;have ha:Hid (ahead l (j+1)=some q):=by show _=_;rw[b6_];exact hg
      clear hg qW
      cases he:Bd q p;all_goals
       go_wp2_with fail;have g0:=Ad c0;have g1:=Ad c1;have g2:=Ad c2;have g3:=Ad d0;have g4:=Ad d1;have g5:=Ad d2;have hf:=aA_ wr;refine ab_ sI sI ?_;repeat (go_big_quiet_step (first | (go_at_call 177;have qq:=cR_ p;rw[hb] at qq;exact an_ (qq _)) | (go_at_call 178;have qq:=gC_ q p;rw[he] at qq;exact an_ (qq _))))
       refine wpQuiet_nil ?_;intro w2 hx;have hc:=ah_ hx;have e2:=Ab hc c2;clear hx;go_wp2
      ·go_roundw
       case rel=>exact⟨j+2,lf+p.n,sH,sQ,sQ,sH,sH,by show _=_;rw[hI.out,hd.out,ha.out,b6_,hq.out];simp only[sgo,hb,he,Zp,Bool.not_false],Aa hB hc⟩
       case measure=>simp[intOf];omega
      ·go_returns;go_light;refine⟨ac_ ?_,Aa hB hc⟩;rw[qd.out,hI.out,hd.out,ha.out];simp only[sgo,hb,he,Zp,Bool.not_true,Zr]
   ·exact pm
 ·go_enter func135,ntmps135;exact sw
end
section
open Go Go.RowKit Go.BigFrame Tryz
variable{c:Ct}{size x:Int}{l more:List Ct}{B cap k n:Nat}{a:Option Addr}{w:World}
theorem lD_ {B:Int}(hB:0<=B)(h1:-1000<=c.n)(h2:c.n<=1000)(h:∀ x∈l,-B<=x.n∧x.n<=B):∀ x∈BF l c,-(B+1000)<=x.n∧x.n<=B+1000:=fp_ hB sH h1 h2 h
theorem hs_ (a:Option Addr)(n cap:Nat)(l:List Ct)(a':Option Addr)(n' cap':Nat)(more:List Ct)(w:World)(h:A8 w a n l)(ha1:∀ ad,a=some ad->ad.spot=none)(ha2:a=none->cap=0)(h':A8 w a' n' more)(hn:n<=200)(hn':n'<=200)(hb:∀ x∈l,-1000<=x.n∧x.n<=1000)(hb':∀ x∈more,-1000<=x.n∧x.n<=1000):
  Calls prog 139 #[.slice a n cap,.slice a' n' cap'] w fun e w'=>(∃ a2 n2 cap2,e=.returned (.slice a2 n2 cap2)∧n2<=n+n'∧Ac Ct.cs 4 70 w' w.heap.size a2 n2 cap2 (A4 l more))∧Below w.heap.size w w':=
 cJ_ a n cap l a' n' cap' more w h ha1 ha2 h' sH sH (fun x hx=>by have:=hb x hx;omega) (fun x hx=>by have:=hb' x hx;omega)
theorem aq_ (d:ByteArray)(w:World)(hd:d.size<=9223372036854775807):
  Calls prog 134 #[.string d] w fun e w'=>e=.returned (.bool (nameB d))∧w'=w:=by
 by_cases h1:1<=d.size∧d.size<=8
 ·have qd:Hid (nameB d=(d.data.toList.drop 0).all LL):=by show _=_;simp[nameB,h1]
  obtain⟨h1,ha⟩:=h1;go_enter func134,ntmps134;go_wp2_with fail;go_loop [3] (fun ix=>∃ (k:Nat),k<=d.size∧ix=.int .i64 k∧Hid (nameB d=(d.data.toList.drop k).all LL)) (fun ix=>d.size-(intOf ix).toNat)
  case atStart=>exact⟨0,Zg _,rfl,qd⟩
  case round=>
   exact lV
 ·have qd:Hid (nameB d=false):=by show _=_;simp[nameB];omega
  go_enter func134,ntmps134;exact mp
end
section
open Go Go.RowKit Go.BigFrame Tryz
variable{l:List Ct}{x:Value}{w w1:World}
theorem sp{p:Prop}(h:p:=by go_wp2;go_returns;go_light;exact⟨ac_ (by rw[qd.out,h1,h2];rfl),sM⟩):p:=h
theorem bq_ (p:Ow)(w:World)(hd:p.f.size<=9223372036854775807):
  Calls prog 179 #[.agg #[.int .i64 p.a,.int .i64 p.v,.string p.f]] w fun e w'=>e=.returned (.bool (AO p))∧Below w.heap.size w w':=by
 have qd:Hid (AO p=((decide (1<=p.a)&&decide (p.a<=400))&&(decide (1<=p.v)&&decide (p.v<=1000000000))&&nameB p.f)):=by show _=_;simp[AO,ZO]
 generalize AO p=R at *;obtain⟨a,v,f⟩:=p;simp only at *
 cases h1:(decide (1<=a)&&decide (a<=400))
 ·go_enter func179,ntmps179;go_wp2_with fail;refine (ai_ _ _ _ _).mono ?_;rintro e w1 ⟨rfl,rfl⟩;rw[h1];go_wp2;go_returns;go_light;exact⟨ac_ (by rw[qd.out,h1];rfl),sM⟩
 ·cases h2:(decide (1<=v)&&decide (v<=1000000000))
  ·go_enter func179,ntmps179;go_wp2_with fail;refine (ai_ _ _ _ _).mono ?_;rintro e w1 ⟨rfl,rfl⟩;rw[h1];go_wp2_with fail;refine (ai_ _ _ _ _).mono ?_;rintro e w1 ⟨rfl,rfl⟩;rw[h2];exact sp
  ·go_enter func179,ntmps179;go_wp2_with fail;refine (ai_ _ _ _ _).mono ?_;rintro e w1 ⟨rfl,rfl⟩;rw[h1];go_wp2_with fail;refine (ai_ _ _ _ _).mono ?_;rintro e w1 ⟨rfl,rfl⟩;rw[h2];go_wp2_with fail;refine (aq_ f _ hd).mono ?_;rintro e w1 ⟨rfl,rfl⟩;exact sp
theorem em_ (a:Option Addr)(n cap:Nat)(l:List Ct)(w:World)(h:A8 w a n l)(hstr:Cx l)(hn:n<=4194304):
  Calls prog 138 #[.slice a n cap] w fun e w'=>e=.returned (.bool (AQ l))∧Below w.heap.size w w':=by
 have qg:Hid (l.length=n):=h.len;by_cases h2:n<=200
 ·have qd:Hid (AQ l=(l.drop 0).all CG):=by show _=_;simp[AQ,qg.out,h2]
  go_enter func138,ntmps138;go_wp2_with fail;go_loopw [3] (fun ix wr=>∃ (k:Nat),k<=n∧ix=.int .i64 k∧Hid (AQ l=(l.drop k).all CG)∧Below w.heap.size w wr) (fun ix _=>n-(intOf ix).toNat)
  case atStart=>exact⟨0,Zg _,rfl,qd,Yg _ _⟩
  case round=>
   obtain⟨k,hk,rfl,hI,hB⟩:=hrel;by_cases hlt:k<n
   ·obtain⟨b,o,p,rfl,hp,c0,c1,c2,c3⟩:=aN_ (h.below hB) hlt;have hd:Hid (l.drop k=p::l.drop (k+1)):=al_ hp;have he:=hstr.at hp;clear hp;have hf:=hB.size
    cases hb:AO p.o
    ·go_wp2_with fail;refine (bq_ p.o _ he).mono ?_;rintro e w1 ⟨rfl,ha⟩;rw[hb];go_wp2;go_returns;go_light;refine⟨ac_ ?_,Aa hB ha⟩;rw[hI.out,hd.out];simp[CG,hb]
    ·cases hc:(decide (-1000<=p.n)&&decide (p.n<=1000))
     ·go_wp2_with fail;refine (bq_ p.o _ he).mono ?_;rintro e w1 ⟨rfl,ha⟩;rw[hb];have e3:=Ab ha c3;go_wp2_with fail;refine (ai_ _ _ _ _).mono ?_;rintro e w2 ⟨rfl,rfl⟩;rw[hc];go_wp2;go_returns;go_light;refine⟨ac_ ?_,Aa hB ha⟩;rw[hI.out,hd.out];simp only[List.all_cons,CG,hb,Zp,hc,Zr]
     ·cases hz:(p.n==0);all_goals
       go_wp2_with fail;refine (bq_ p.o _ he).mono ?_;rintro e w1 ⟨rfl,ha⟩;rw[hb];have e3:=Ab ha c3;go_wp2_with fail;refine (ai_ _ _ _ _).mono ?_;rintro e w2 ⟨rfl,rfl⟩;rw[hc];go_wp2
      ·go_roundw
       case rel=>exact⟨k+1,sH,sQ,by show _=_;rw[hI.out,hd.out];simp only[List.all_cons,CG,hb,Zp,hc,hz,Bool.not_false],Aa hB ha⟩
       case measure=>simp[intOf];omega
      ·go_returns;go_light;refine⟨ac_ ?_,Aa hB ha⟩;rw[hI.out,hd.out];simp only[List.all_cons,CG,hb,Zp,hc,hz,Bool.not_true,Zr]
   ·obtain rfl:k=n:=sH;go_wp2;go_returns;go_light;refine⟨ac_ ?_,hB⟩;exact ms
 ·have qd:Hid (AQ l=false):=by show _=_;have:=qg.out;simp[AQ];omega
  go_enter func138,ntmps138;exact mL
theorem bV_ (a:Option Addr)(n cap:Nat)(l:List Ct)(w:World)(h:A8 w a n l)(hstr:Cx l)(hn:n<=4194304):
  Calls prog 137 #[.slice a n cap] w fun e w'=>e=.returned (.bool (AB l))∧Below w.heap.size w w':=by
 have qg:Hid (l.length=n):=h.len;by_cases h2:n<=200
 ·have qd:Hid (AB l=rgo (aheadC l 0) (l.drop 0)):=by show _=_;simp[AB,qg.out,h2,aheadC]
  go_enter func137,ntmps137;go_wp2_with fail;go_loopw [3] (fun ix wr=>∃ (k:Nat),k<=n∧ix=.int .i64 k∧Hid (AB l=rgo (aheadC l k) (l.drop k))∧Below w.heap.size w wr) (fun ix _=>n-(intOf ix).toNat)
  case atStart=>exact⟨0,Zg _,rfl,qd,Yg _ _⟩
  case round=>
   obtain⟨k,hk,rfl,hI,hB⟩:=hrel;by_cases hlt:k<n
   ·obtain⟨b,o,p,rfl,hp,c0,c1,c2,c3⟩:=aN_ (h.below hB) hlt;have hd:Hid (l.drop k=p::l.drop (k+1)):=al_ hp;have hq:Hid (l[k]?=some p):=hp;have he:=hstr.at hp;clear hp;have hl:=hB.size;have hh:(k:Int)<n:=sH;have hj:(0:Int)<=k:=sH
    cases hb:AO p.o
    ·go_wp2_with fail;have g0:=Ad c0;have g1:=Ad c1;have g2:=Ad c2;have g3:=Ad c3;have hf:=aA_ wr;refine ab_ sI sI ?_;repeat (go_big_quiet_step (first | (go_at_call 179;have qq:=fun w=>bq_ p.o w he;rw[hb] at qq;exact an_ (qq _))))
     refine wpQuiet_nil ?_;intro w2 hx;have ha:=ah_ hx;clear hx;go_wp2;go_returns;go_light;refine⟨ac_ ?_,Aa hB ha⟩;rw[hI.out,hd.out];cases aheadC l k<;>simp[rgo,EY,hb]
    ·cases hc:(decide (1<=p.n)&&decide (p.n<=1000))
     ·have hz:Hid (EY p=false):=by show _=_;simp only[EY,hb,Zp,hc]
      go_wp2_with fail;have g0:=Ad c0;have g1:=Ad c1;have g2:=Ad c2;have g3:=Ad c3;have hf:=aA_ wr;refine ab_ sI sI ?_;repeat (go_big_quiet_step (first | (go_at_call 179;have qq:=fun w=>bq_ p.o w he;rw[hb] at qq;exact an_ (qq _)) | (go_at_call 85;have qq:=ai_ p.n 1 1000;rw[hc] at qq;exact am_ (qq _))))
      refine wpQuiet_nil ?_;intro w2 hx;have ha:=ah_ hx;clear hx;go_wp2;go_returns;go_light;refine⟨ac_ ?_,Aa hB ha⟩;rw[hI.out,hd.out];cases aheadC l k<;>simp[rgo,hz.out]
     ·have jz:Hid (EY p=true):=by show _=_;simp only[EY,hb,Zp,hc]
      rcases k with _ | j
      ·simp only[Nat.zero_mul,Nat.add_zero] at c0 c1 c2 c3;go_wp2_with fail;have g0:=Ad c0;have g1:=Ad c1;have g2:=Ad c2;have g3:=Ad c3;have hf:=aA_ wr;refine ab_ sI sI ?_;repeat (go_big_quiet_step (first | (go_at_call 179;have qq:=fun w=>bq_ p.o w he;rw[hb] at qq;exact an_ (qq _)) | (go_at_call 85;have qq:=ai_ p.n 1 1000;rw[hc] at qq;exact am_ (qq _))))
       refine wpQuiet_nil ?_;intro w2 hx;have ha:=ah_ hx;clear hx;go_wp2;go_roundw
       case rel=>exact⟨1,sH,sQ,dw,Aa hB ha⟩
       case measure=>simp[intOf];omega
      ·obtain⟨b',o',q,qW,hg,d0,d1,d2,d3⟩:=aN_ (h.below hB) (k:=j) sH;obtain⟨rfl,rfl⟩:b=b'∧o=o':=rE;have jp:Hid (aheadC l (j+1)=some q):=by show _=_;rw[bU_];exact hg
       clear hg qW d3
       cases qY:Bl q.o p.o;all_goals
        go_wp2_with fail;have g0:=Ad c0;have g1:=Ad c1;have g2:=Ad c2;have g3:=Ad c3;have g4:=Ad d0;have g5:=Ad d1;have g6:=Ad d2;have hf:=aA_ wr;refine ab_ sI sI ?_;repeat (go_big_quiet_step (first | (go_at_call 179;have qq:=fun w=>bq_ p.o w he;rw[hb] at qq;exact an_ (qq _)) | (go_at_call 85;have qq:=ai_ p.n 1 1000;rw[hc] at qq;exact am_ (qq _)) | (go_at_call 180;have qq:=aF_ q.o p.o;rw[qY] at qq;exact an_ (qq _))))
        refine wpQuiet_nil ?_;intro w2 hx;have ha:=ah_ hx;clear hx;go_wp2
       ·go_returns;go_light;refine⟨ac_ ?_,Aa hB ha⟩;rw[hI.out,hd.out,jp.out];simp[rgo,qY]
       ·go_roundw
        case rel=>exact⟨j+2,sH,sQ,oX,Aa hB ha⟩
        case measure=>simp[intOf];omega
   ·exact pu
 ·have qd:Hid (AB l=false):=by show _=_;have:=qg.out;simp[AB];omega
  go_enter func137,ntmps137;exact mL
def TW (B:Nat)(e:Ending)(w':World):Option (List Ct)->Prop
 |none=>e=.returned (.tuple #[.slice none 0 0,.bool false])
 |some L=>∃ a n cap,e=.returned (.tuple #[.slice a n cap,.bool true])∧Ac Ct.cs 4 70 w' B a n cap L
theorem je_ (a:Option Addr)(n cap:Nat)(l:List Ct)(a':Option Addr)(n' cap':Nat)(more:List Ct)(w:World)(h:A8 w a n l)(ha1:∀ ad,a=some ad->ad.spot=none)(ha2:a=none->cap=0)(h':A8 w a' n' more)(hstr:Cx l)(hstr':Cx more)(hn:n<=4194304)(hn':n'<=4194304):
  Calls prog 92 #[.slice a n cap,.slice a' n' cap'] w fun e w'=>TW w.heap.size e w' (As l more)∧Below w.heap.size w w':=by
 have hm:Hid (l.length=n):=h.len;have hg:Hid (more.length=n'):=h'.len
 cases hok:AB l
 ·have hf:As l more=none:=by simp[As,hok]
  rw[hf];go_enter func92,ntmps92;go_wp2_with fail;refine (bV_ a n cap l _ h hstr hn).mono ?_;exact su
 ·cases qQ:AQ more
  ·have hf:As l more=none:=by simp[As,qQ]
   rw[hf];go_enter func92,ntmps92;go_wp2_with fail;refine (bV_ a n cap l _ h hstr hn).mono ?_;rintro e w1 ⟨rfl,qe⟩;rw[hok];go_wp2_with fail;refine (em_ a' n' cap' more _ (h'.below qe) hstr' hn').mono ?_;exact pM
  ·obtain⟨hl,hb⟩:=a0_ hok;obtain⟨hr,ho⟩:=br_ qQ;have hp:n<=200:=by rw[<-hm.out];exact hl
   have he:n'<=200:=by rw[<-hg.out];exact hr
   have hq:=ht_ hstr hstr'
   cases ha:AB (A4 l more)
   ·have hf:As l more=none:=by simp[As,hok,qQ,ha]
    rw[hf];clear hf;go_enter func92,ntmps92;go_wp2_with fail;refine (bV_ a n cap l _ h hstr hn).mono ?_;rintro e w1 ⟨rfl,qe⟩;rw[hok];go_wp2_with fail;refine (em_ a' n' cap' more _ (h'.below qe) hstr' hn').mono ?_;rintro e w2 ⟨rfl,qj⟩;rw[qQ];have qk:=Aa qe qj;go_wp2_with fail;refine (hs_ a n cap l a' n' cap' more w2 (h.below qk) ha1 ha2 (h'.below qk) hp he (fun x hx=>by have:=hb x hx;omega) ho).mono ?_;rintro e w4 ⟨⟨a2,n2,cap2,rfl,hs,R2⟩,hh⟩;have hj:=Aa qk hh;replace R2:=R2.mono qk.size;go_wp2_with fail;refine (bV_ a2 n2 cap2 (A4 l more) _ R2.sl hq sH).mono ?_;rintro e w6 ⟨rfl,hc⟩;rw[ha];have hk:=Aa hj hc;replace R2:=R2.below hc;go_wp2;go_returns;go_light;exact⟨rfl,hk⟩
   ·have hf:As l more=some (A4 l more):=by simp[As,hok,qQ,ha]
    rw[hf];clear hf;go_enter func92,ntmps92;go_wp2_with fail;refine (bV_ a n cap l _ h hstr hn).mono ?_;rintro e w1 ⟨rfl,qe⟩;rw[hok];go_wp2_with fail;refine (em_ a' n' cap' more _ (h'.below qe) hstr' hn').mono ?_;rintro e w2 ⟨rfl,qj⟩;rw[qQ];have qk:=Aa qe qj;go_wp2_with fail;refine (hs_ a n cap l a' n' cap' more w2 (h.below qk) ha1 ha2 (h'.below qk) hp he (fun x hx=>by have:=hb x hx;omega) ho).mono ?_;rintro e w4 ⟨⟨a2,n2,cap2,rfl,hs,R2⟩,hh⟩;have hj:=Aa qk hh;replace R2:=R2.mono qk.size;go_wp2_with fail;refine (bV_ a2 n2 cap2 (A4 l more) _ R2.sl hq sH).mono ?_;rintro e w6 ⟨rfl,hc⟩;rw[ha];have hk:=Aa hj hc;replace R2:=R2.below hc;go_wp2;go_returns;go_light;exact⟨⟨a2,n2,cap2,rfl,R2⟩,hk⟩
end
section
open Go Go.RowKit Go.BigFrame Tryz
variable{w:World}
theorem CE (w:World)(b i:Nat)(v:Value):w.grownBy (w.setCell ⟨b,i,none⟩ v) (some b):=af_ (Yh _ _) i v
end
section
open Go Go.RowKit Go.BigFrame Tryz
variable{size:Int}{r:List Pt}{a:Option Addr}{p:Pt}
def gl (size:Int):Int->List Ex->List Int
 |next,[]=>[size+1-next]
 |next,e::r=>(e.a-next)::gl size (e.a+e.d.size) r
theorem ox{p:Prop}(h:p:=by rw[qg.out];omega):p:=h
end
section
open Go Go.RowKit
variable{α:Type}{P:Program}{w:World}
theorem ph_ {cs:α->List Value}{size:Nat}{o:Oper}{a:Act}{K:Act->World->Prop}{Q:Exit->Act->World->Prop}
  (s x:Operand)(t:TypeId)(ho:o.op=.call {callee:=.builtin .append,args:=#[s,x],argTypes:=#[t,t]})
  (B:Nat)(e:TypeId)(i:TypeInfo)(z:Value)(bytes:Nat)(ht:P.underlying t=some (.slice e))(hi:P.info? e=some i)(hz:i.zero=some z)(hsize:i.size=size)(hby:i.bytes=bytes)(hzs:z.cells.size=size)(hpos:0<size)
  (hsz:∀ y,(cs y).length=size)(hone:∀ (l:List α),∀ u∈l.flatMap cs,u.oneCell'=true)
  (da:Option Addr)(dn dcap:Nat)(ld:List α)(hs:a.eval s=.slice da dn dcap)(hd:Ac cs size e w B da dn dcap ld)
  (b off:Nat)(ls:List α)(hx:a.eval x=.slice (some ⟨b,off,none⟩) 1 1)(hsrc:AH cs size w (some ⟨b,off,none⟩) 1 ls)
  (h63:dn+1<=maxLen)(hbytes:(dn+1)*bytes<=140737488355328)(hbase:B<=w.heap.size)
  (h:∀ a' cap' w',Ac cs size e w' B a' (dn+1) cap' (ld++ls)->w.grownBy w' (Value.ownBlock (.slice da dn dcap))->(∀ ad',a'=some ad'->(∃ ad,da=some ad∧ad.block=ad'.block)∨w.heap.size<=ad'.block)->K (a.put o.dst (.slice a' (dn+1) cap')) w'):o.wp P a w K Q:=by
 have ha:=hd.row hsz;have qg:(ld++ls).length=dn+1:=oN;have hb:(ls.flatMap cs).length=1*size:=oh;obtain⟨v',w',hr,zT,hg,_⟩:=run_append_own (P:=P) w B t o.type e i z size bytes ht hi hz hsize hby hzs hpos (.slice da dn dcap) dn (ld.flatMap cs) ha ⟨b,off,none⟩ 1 1 (ls.flatMap cs) hb (AH.src hsz hsrc) (hone ls) h63 hbytes hbase;have jE:=iD_ (P:=P) B t o.type e i z size bytes ht hi hz hsize hby dn (ld.flatMap cs) ha ⟨b,off,none⟩ 1 1 (ls.flatMap cs) sH hb (AH.src hsz hsrc) (hone ls) h63 hbytes hr;exact mf
end
section
open Go Go.RowKit Go.BigFrame Tryz
theorem Ql:(prog.info? 156).map (fun i=>(i.zero,i.size,i.bytes))=some (some (.agg #[.int .i64 0,.int .i64 0,.int .i64 0]),3,24):=by kernel_rfl
end
section
open Go Go.RowKit Go.BigFrame Tryz
variable{α:Type}{l:List Ct}{B cap n:Nat}{a:Option Addr}{w:World}
structure Pc (a:Option Addr)(cap:Nat):Prop where
 spot:∀ ad,a=some ad->ad.spot=none
 nil:a=none->cap=0
theorem Ac.arg {cs:α->List Value}{sz:Nat}{t:TypeId}{l:List α}(h:Ac cs sz t w B a n cap l):Pc a cap:=by
 rcases h.own with⟨rfl,_,rfl⟩ | ⟨b,rfl,_⟩
 ·exact⟨fun ad h=>sY,fun _=>rfl⟩
 ·exact⟨fun ad h=>sV,fun h=>sY⟩
end
section
open Go Go.RowKit Go.BigFrame Tryz
variable{c:Array Value}{t:TypeId}{w:World}
theorem Blk.other {b:Nat}(h:Blk w b c t)(p:Addr)(v:Value)(hp:b≠p.block):Blk (w.setCell p v) b c t:=by
 unfold Blk at *;rw[Below.heap_setCell _ _ _ _ (by simpa using hp)];exact h
end
section
open Go Go.RowKit
variable{c:Ct}{a b:Ow}
theorem dA_ (h:Bl a b=true):Cn a b=false:=by
 cases e:Cn a b
 ·rfl
 ·rw[aM_.1 e,gD_] at h;cases h
theorem ge_ (h:Cn a b=false):Cn b a=false:=by
 cases e:Cn b a
 ·rfl
 ·rw[aM_.1 e,a3_] at h;cases h
theorem cc_ {o:Ow}:∀ {l:List Ct},(∀ c∈l,Bl o c.o=true)->tot o l=0
 |[],_=>rfl
 |c::r,h=>by
  have h1:=ge_ (dA_ (h c sK));simp only[tot,h1,Zj,if_false];rw[cc_ (fun x hx=>h x rv)];rfl
theorem cS_:∀ {l m:List Ct},Cm l->Cm m->BS l->BS m->(∀ o,tot o l=tot o m)->l=m
 |[],[],_,_,_,_,_=>rfl
 |[],y::s,_,hm,_,zm,h=>by
  have:=h y.o
  have hs:=cc_ (Ye.1 hm).1;simp only[tot,a3_,if_true,hs] at this
  exact absurd sH (zm y sK)
 |x::r,[],hl,_,zl,_,h=>by
  have:=h x.o
  have hr:=cc_ (Ye.1 hl).1;simp only[tot,a3_,if_true,hr] at this
  exact absurd sH (zl x sK)
 |x::r,y::s,hl,hm,zl,zm,h=>by
  obtain⟨hf,hh⟩:=Ye.1 hl;obtain⟨hg,hj⟩:=Ye.1 hm;have hr:=cc_ hf;have hs:=cc_ hg
  cases hb:Bl x.o y.o
  ·cases he:Bl y.o x.o
   ·have e:x.o=y.o:=by
     cases e:Cn x.o y.o
     ·have:=ct_ hb (fun e'=>by rw[aM_.2 e'] at e;cases e);rw[he] at this;cases this
     ·exact aM_.1 e
    have h1:=h x.o;rw[<-e] at hs;simp only[tot,<-e,a3_,if_true,hr,hs] at h1;have exy:x=y:=by cases x;cases y;simp at e h1 ⊢;exact⟨e,h1⟩
    subst exy;have:r=s:=cS_ hh hj (fun c hc=>zl c ou) (fun c hc=>zm c ou) (fun o=>by have:=h o;simp only[tot] at this;omega);rw[this]
   ·have h1:=h y.o;have hz:tot y.o r=0:=cc_ (fun c hc=>b7_ he (hf c hc));have ha:=ge_ (dA_ he);simp only[tot,a3_,if_true,hs,ha,Zj,if_false,hz] at h1;exact absurd sH (zm y sK)
  ·have h1:=h x.o;have hz:tot x.o s=0:=cc_ (fun c hc=>b7_ hb (hg c hc));have ha:=ge_ (dA_ hb);simp only[tot,a3_,if_true,hr,ha,Zj,if_false,hz] at h1;exact absurd sH (zl x sK)
end
section
open Go Go.RowKit Go.BigFrame Tryz
theorem fc_ (x:Int)(w:World):
  Calls prog 204 #[.int .i64 x] w fun e w'=>e=.returned (.bool false)∧w'=w:=by
 have hx:(x != x)=false:=sK;go_enter func204,ntmps204;go_wp2;go_returns;go_light;exact⟨sK,rfl⟩
theorem fd_ (x:ByteArray)(w:World):
  Calls prog 205 #[.string x] w fun e w'=>e=.returned (.bool false)∧w'=w:=by
 go_enter func205,ntmps205;go_wp2;go_returns;go_light;exact⟨sK,rfl⟩
theorem dZ_ (x y:Int)(w:World):
  Calls prog 162 #[.int .i64 x,.int .i64 y] w fun e w'=>e=.returned (.int .i64 (Hl x y))∧w'=w:=by
 go_enter func162,ntmps162;go_wp2_with fail;refine (fc_ _ _).mono ?_;rintro e w1 ⟨rfl,rfl⟩;go_wp2_with fail;refine (fc_ _ _).mono ?_;rintro e w1 ⟨rfl,rfl⟩;go_wp2;(all_goals go_returns);(all_goals go_light);(all_goals refine⟨a4_ ?_,rfl⟩);(all_goals simp[Hl]);all_goals omega
theorem d0_ (x y:ByteArray)(w:World):
  Calls prog 163 #[.string x,.string y] w fun e w'=>e=.returned (.int .i64 (K8 x y))∧w'=w:=by
 go_enter func163,ntmps163;go_wp2_with fail;refine (fd_ _ _).mono ?_;rintro e w1 ⟨rfl,rfl⟩;go_wp2_with fail;refine (fd_ _ _).mono ?_;rintro e w1 ⟨rfl,rfl⟩;go_wp2;(all_goals go_returns);(all_goals go_light);(all_goals refine⟨a4_ ?_,rfl⟩);all_goals simp_all [K8,bl]
theorem mZ{p:Prop}(h:p:=by go_returns;go_light;exact⟨a4_ hf.out.symm,rfl⟩):p:=h
theorem mx_ (x y z:Int)(b:Nat)(cap:Nat)(w:World)(h0:w.cell? ⟨b,0,none⟩=some (.int .i64 x))(h1:w.cell? ⟨b,1,none⟩=some (.int .i64 y))(h2:w.cell? ⟨b,2,none⟩=some (.int .i64 z)):
  Calls prog 161 #[.slice (some ⟨b,0,none⟩) 3 cap] w fun e w'=>e=.returned (.int .i64 (or3 x y z))∧w'=w:=by
 by_cases hx:x=0
 ·have ha:(x != 0)=false:=rv;by_cases hy:y=0
  ·have hb:(y != 0)=false:=rN;by_cases hz:z=0
   ·have hc:(z != 0)=false:=by simp[hz]
    have hf:Hid (or3 x y z=0):=by show _=_;simp[or3,hx,hy,hz]
    clear hx hy hz;go_enter func161,ntmps161;go_wp2_with fail;go_rounds 4;exact mZ
   ·have hc:(z != 0)=true:=by simp[hz]
    have hf:Hid (or3 x y z=z):=by show _=_;simp[or3,hx,hy]
    clear hx hy hz;go_enter func161,ntmps161;go_wp2_with fail;go_rounds 3;exact mZ
  ·have hb:(y != 0)=true:=rN;have hf:Hid (or3 x y z=y):=by show _=_;simp[or3,hx,hy]
   clear hx hy;go_enter func161,ntmps161;go_wp2_with fail;go_rounds 2;exact mZ
 ·have ha:(x != 0)=true:=rv;have hf:Hid (or3 x y z=x):=by show _=_;simp[or3,hx]
  clear hx;go_enter func161,ntmps161;go_wp2_with fail;go_rounds 1;exact mZ
theorem OI (w:World)(x y z:Value)(t:TypeId):(w.alloc (.cells #[x,y,z] t)).drew.cell? ⟨w.heap.size,0,none⟩=some x∧(w.alloc (.cells #[x,y,z] t)).drew.cell? ⟨w.heap.size,1,none⟩=some y∧(w.alloc (.cells #[x,y,z] t)).drew.cell? ⟨w.heap.size,2,none⟩=some z:=
 ⟨Yv _ _ _ 0,Yv _ _ _ 1,Yv _ _ _ 2⟩
end
end Go.Proofs.YteejlahappbalaaGreatDoor
