/- Counts added up: a list in order with no nought is told by its sums. -/
import Derived.RangeFuncNested
import Derived.RangeFuncBound
import Derived.Shelf.RegionOpen
import Derived.OwnWalkIn
import Derived.LoopNIn
import Derived.LoopIn
import Derived.Maps.AppendAt
import Derived.StillTailTactics
import Derived.Test.YtkiceokhlceciaaGreatDoorU00
set_option maxHeartbeats 20000000
set_option maxRecDepth 100000
namespace Go.Proofs.YtkiceokhlceciaaGreatDoor
section
open Go Go.RowKit
variable{c:Ct}
def tot (o:Ow):List Ct->Int
 |[]=>0
 |c::r=>(if BV c.o o=true then c.n else 0)+tot o r
def BO (l:List Ct):Prop:=∀ c∈l,c.n≠0
theorem a3_ (o:Ow):BV o o=true:=aM_.2 rfl
theorem bn_ (o:Ow):∀ (l m:List Ct),tot o (l++m)=tot o l+tot o m
 |[],m=>by simp[tot]
 |c::r,m=>by simp only[YF,tot,bn_ o r m];omega
end
section
open Go.RowKit Go.Shelf Tryz
attribute [local go_sem] YJ
attribute [local go_sem] YJ
attribute [local go_sem] YJ
abbrev ics:Int->List Value:=fun x=>[Value.int .i64 x]
end
section
open Go Go.RowKit
structure It where
 nm:ByteArray
 ps:List Pt
end
section
open Go Go.RowKit
variable{B n:Nat}{a:Option Addr}{w:World}
variable{l:List It}
structure Vo where
 id:Int
 nm:ByteArray
 fx:Bool
 its:List It
structure Po where
 size:Int
 next:Int
 ex:List Ex
 vs:List Vo
 rf:List Ct
 lt:List Ct
def Hd (B:Nat)(a:Option Addr)(n cap:Nat):Prop:=n<=cap∧cap<=9223372036854775807∧(0<B->(a=none->cap=0)∧∀ ad,a=some ad->ad.spot=none)
def Sf (B:Nat)(w:World)(a:Option Addr):Prop:=0<B->∀ ad,a=some ad->B<=ad.block∧∃ c t,Blk w ad.block c t
structure Bw (B:Nat)(w:World)(a:Option Addr)(n:Nat)(l:List It):Prop where
 len:l.length=n
 cell:∀ i x,l[i]?=some x->∃ b o pa pn pc,a=some ⟨b,o,none⟩∧w.cell? ⟨b,o+i*2,none⟩=some (.string x.nm)∧w.cell? ⟨b,o+i*2+1,none⟩=some (.slice pa pn pc)∧BI w pa pn x.ps∧Hd B pa pn pc∧B<=b∧(∀ ad,pa=some ad->B<=ad.block)∧Sf B w pa∧Sf B w a
structure Bp (B:Nat)(w:World)(a:Option Addr)(n:Nat)(l:List Vo):Prop where
 len:l.length=n
 cell:∀ i x,l[i]?=some x->∃ b o pa pn pc,a=some ⟨b,o,none⟩∧w.cell? ⟨b,o+i*4,none⟩=some (.int .i64 x.id)∧w.cell? ⟨b,o+i*4+1,none⟩=some (.string x.nm)∧w.cell? ⟨b,o+i*4+2,none⟩=some (.bool x.fx)∧w.cell? ⟨b,o+i*4+3,none⟩=some (.slice pa pn pc)∧Bw B w pa pn x.its∧Hd B pa pn pc∧B<=b∧Sf B w a
end
section
open Go Go.RowKit
variable{c:Ct}
def BD:List Ct->Ct->List Ct
 |[],c=>[c]
 |x::r,c=>if Bk x.o c.o=true then x::BD r c else if BV x.o c.o=true then (if x.n+c.n≠0 then ⟨c.o,x.n+c.n⟩::r else r) else c::x::r
def A7 (l more:List Ct):List Ct:=more.foldl BD l
end
section
open Go Go.RowKit Go.BigFrame Tryz
variable{c:Ct}{size:Int}
def Gn (c:UInt8):Bool:=decide (97<=(c.toNat:Int))&&decide ((c.toNat:Int)<=122)
def nameB (d:ByteArray):Bool:=decide (1<=d.size)&&decide (d.size<=8)&&d.data.toList.all Gn
end
section
open Go Go.RowKit Go.BigFrame Tryz
variable{c:Array Value}{l:List Ct}{x:Value}
def AN (o:Ow):Bool:=decide (1<=o.a)&&decide (o.a<=400)&&decide (1<=o.v)&&decide (o.v<=1000000000)&&nameB o.f
def Ce (c:Ct):Bool:=AN c.o&&decide (-1000<=c.n)&&decide (c.n<=1000)&&!(c.n==0)
def AR (l:List Ct):Bool:=decide (l.length<=200)&&l.all Ce
def DU (c:Ct):Bool:=AN c.o&&decide (1<=c.n)&&decide (c.n<=1000)
def rgo:Option Ct->List Ct->Bool
 |_,[]=>true
 |none,c::r=>DU c&&rgo (some c) r
 |some q,c::r=>DU c&&Bk q.o c.o&&rgo (some c) r
def AI (l:List Ct):Bool:=decide (l.length<=200)&&rgo none l
def AB (refs late:List Ct):Option (List Ct):=if AI refs=true∧AR late=true then (if AI (A7 refs late)=true then some (A7 refs late) else none) else none
theorem g1_:∀ {l:List Ct} {q:Option Ct},rgo q l=true->∀ x∈l,DU x=true
 |[],_,_=>by simp
 |c::r,q,h=>by
  have h2:DU c=true∧rgo (some c) r=true:=by
   cases q
   ·simpa only[rgo,Zf] using h
   ·simp only[rgo,Zf] at h;exact⟨h.1.1,h.2⟩
  intro x hx;rcases Zn.1 hx with rfl | hx
  ·exact h2.1
  ·exact g1_ h2.2 x hx
def KD (p q:Ct):Bool:=BV p.o q.o&&p.n==q.n
def BW:List Ct->List Ct->Bool
 |[],[]=>true
 |p::r,q::s=>KD p q&&BW r s
 |_,_=>false
end
section
open Go Go.RowKit
variable{r:Nat}{a:Option Addr}
variable{l:List It}
def igo (e:List Ex):Option It->List It->Bool
 |_,[]=>true
 |q,x::r=>nameB x.nm&&(match q with | none=>true | some p=>bl p.nm.toList x.nm.toList)&&(AP x.ps e).isSome&&igo e (some x) r
def itemsB (l:List It)(e:List Ex):Bool:=decide (l.length<=5)&&igo e none l
def vgo (next:Int)(e:List Ex):Int->List Vo->Bool
 |_,[]=>true
 |last,v::r=>decide (last<v.id)&&decide (v.id<next)&&nameB v.nm&&itemsB v.its e&&vgo next e v.id r
def EM (next:Int)(l:List Vo)(e:List Ex):Bool:=decide (l.length<=6)&&vgo next e 0 l
def AU (vol:Int)(f:ByteArray)(ps:List Pt):List Ct:=(ps.filter (fun p=>!(p.a==0))).map (fun p=>⟨⟨p.a,vol,f⟩,1⟩)
def G9 (v:Vo):List Ct:=v.its.flatMap (fun x=>AU v.id x.nm x.ps)
def BP (l:List Vo):List Ct:=l.flatMap G9
def A9 (l:List Vo):List Ct:=A7 [] (BP l)
def Ep (l:List Vo):Bool:=decide ((l.map (·.nm.toList)).Nodup)
def Du (e:List Ex)(l:List Ct):Bool:=e.all (fun x=>l.any (fun c=>c.o.a==x.a))&&l.all (fun c=>e.any (fun x=>x.a==c.o.a))
def Ap (p:Po):Bool:=Am p.size p.ex&&decide (1<=p.next)&&decide (p.next<=1000000000)&&EM p.next p.vs p.ex&&Ep p.vs&&(match AB p.rf p.lt with | none=>false | some s=>BW s (A9 p.vs))&&Du p.ex (p.rf++p.lt)
end
section
open Go.RowKit Go.Shelf Tryz
variable{l:List Ex}
attribute [local go_sem] YJ
attribute [local go_sem] YJ
theorem cu_ {size:Int}(h:Am size l=true):1<=size∧size<=400∧l.length<=60∧xgo size 1 l=true:=by
 simp only[Am,Zf,ZU] at h;exact⟨h.1.1.1,h.1.1.2,h.1.2,h.2⟩
end
section
open Go Go.RowKit
variable{B B' n r:Nat}{a:Option Addr}{w w':World}
variable{l:List It}
theorem Hd.mono {cap:Nat}(h:Hd B a n cap)(hb:B'<=B):Hd B' a n cap:=⟨h.1,h.2.1,fun h0=>h.2.2 (by omega)⟩
theorem Sf.below (h:Sf B w a)(hb:Below w.heap.size w w'):Sf B w' a:=fun h0 ad e=>by
 obtain⟨h1,c,t,h2⟩:=h h0 ad e;exact⟨h1,c,t,h2.below hb⟩
theorem Sf.mono (h:Sf B w a)(hb:B'<=B):Sf B' w a:=fun h0 ad e=>by
 obtain⟨h1,r⟩:=h (by omega) ad e;exact⟨by omega,r⟩
theorem Sf.grown (h:Sf B w a)(hg:w.grownBy w' (some r))(hr:r<B):Sf B w' a:=fun h0 ad e=>by
 obtain⟨h1,c,t,h2⟩:=h h0 ad e;exact⟨h1,c,t,h2.grown hg (by simp only[ne_eq];omega)⟩
theorem Bw.below (h:Bw B w a n l)(hb:Below w.heap.size w w'):Bw B w' a n l:=
 ⟨h.len,fun i x hx=>by
  obtain⟨b,o,pa,pn,pc,ha,c0,c1,hp,hh,hB,hA,s1,s2⟩:=h.cell i x hx;exact⟨b,o,pa,pn,pc,ha,Ab hb c0,Ab hb c1,hp.below hb,hh,hB,hA,s1.below hb,s2.below hb⟩⟩
theorem Bp.below {l:List Vo}(h:Bp B w a n l)(hb:Below w.heap.size w w'):Bp B w' a n l:=
 ⟨h.len,fun i x hx=>by
  obtain⟨b,o,pa,pn,pc,ha,c0,c1,c2,c3,hp,hh,hB,s2⟩:=h.cell i x hx;exact⟨b,o,pa,pn,pc,ha,Ab hb c0,Ab hb c1,Ab hb c2,Ab hb c3,hp.below hb,hh,hB,s2.below hb⟩⟩
theorem Bw.mono (h:Bw B w a n l)(hb:B'<=B):Bw B' w a n l:=
 ⟨h.len,fun i x hx=>by
  obtain⟨b,o,pa,pn,pc,ha,c0,c1,hp,hh,hB,hA,s1,s2⟩:=h.cell i x hx;exact⟨b,o,pa,pn,pc,ha,c0,c1,hp,hh.mono hb,by omega,fun ad hc=>by have:=hA ad hc;omega,s1.mono hb,s2.mono hb⟩⟩
theorem Bp.mono {l:List Vo}(h:Bp B w a n l)(hb:B'<=B):Bp B' w a n l:=
 ⟨h.len,fun i x hx=>by
  obtain⟨b,o,pa,pn,pc,ha,c0,c1,c2,c3,hp,hh,hB,s2⟩:=h.cell i x hx;exact⟨b,o,pa,pn,pc,ha,c0,c1,c2,c3,hp.mono hb,hh.mono hb,by omega,s2.mono hb⟩⟩
theorem Bw.grown (h:Bw B w a n l)(hg:w.grownBy w' (some r))(hr:r<B):Bw B w' a n l:=
 ⟨h.len,fun i x hx=>by
  obtain⟨b,o,pa,pn,pc,ha,c0,c1,hp,hh,hB,hA,s1,s2⟩:=h.cell i x hx;exact⟨b,o,pa,pn,pc,ha,hg.cell c0 (by simp;omega),hg.cell c1 (by simp;omega),hp.grown hg (fun ad hb=>by have:=hA ad hb;omega),hh,hB,hA,s1.grown hg hr,s2.grown hg hr⟩⟩
end
section
open Go Go.RowKit
variable{a b:Ow}
theorem aS_ (p:Ct):p.cs.length=4:=rfl
theorem a9_ (l:List Ct):∀ u∈l.flatMap Ct.cs,u.oneCell'=true:=by
 intro u hu;obtain⟨p,_,hp⟩:=ZL.1 hu;simp[Ct.cs] at hp;rcases hp with rfl | rfl | rfl | rfl<;>rfl
theorem eM_ {w:World}{b:Nat}{p:Ct}(h0:w.cell? ⟨b,0,none⟩=some (.int .i64 p.o.a))(h1:w.cell? ⟨b,1,none⟩=some (.int .i64 p.o.v))(h2:w.cell? ⟨b,2,none⟩=some (.string p.o.f))(h3:w.cell? ⟨b,3,none⟩=some (.int .i64 p.n)):A8 w (some ⟨b,0,none⟩) 1 [p]:=by
 refine⟨rfl,fun i x hx=>⟨b,0,rfl,fun j v hv=>?_⟩⟩;have hi:i=0:=by have:=(Zb.1 hx).1;simp at this;exact this
 subst hi;simp at hx;subst hx
 match j,hv with
 |0,hv=>obtain rfl:=Zi hv;exact h0
 |1,hv=>obtain rfl:=Zi hv;exact h1
 |2,hv=>obtain rfl:=Zi hv;exact h2
 |3,hv=>obtain rfl:=Zi hv;exact h3
 |j+4,hv=>simp[Ct.cs] at hv
theorem cl_ (w:World)(p:Ct)(t:TypeId)(b:Nat)(hb:b=w.heap.size):A8 (w.alloc (.cells #[.int .i64 p.o.a,.int .i64 p.o.v,.string p.o.f,.int .i64 p.n] t)) (some ⟨b,0,none⟩) 1 [p]:=by
 subst hb;exact eM_ (by simp) (by simp) (by simp) (by simp)
theorem Gl:(Tryz.prog.info? 68).map (fun i=>(i.zero,i.size,i.bytes))=some (some (.agg #[.int .i64 0,.int .i64 0,.string .empty,.int .i64 0]),4,40):=by kernel_rfl
end
section
open Go Go.RowKit Go.BigFrame Tryz
variable{l:List Pt}{w:World}
theorem aE_ {P:Program}{id:Nat}{Q:Exit->Act->World->Prop}{a:Act}{l:List Oper}(n:Nat)(hm:P.follows .mixedOrders=true)(hB:Region.lexTailB .any l.toArray n=true)
  (h:wpStill P l.toArray w.drew (fun a'=>wpList P l.toArray Q (l.drop n) a' w.drew) (l.take n) a):(Code.region id l.toArray true).wp P Q a w:=
 wp_region_still_tail n hm hB h
end
section
open Go Go.RowKit Go.BigFrame Tryz
variable{c:Array Value}{l:List Ct}{x y:Value}
def Co (l:List Ct):Prop:=∀ c∈l,c.o.f.size<=9223372036854775807
theorem Co.at (h:Co l){k:Nat}{e:Ct}(he:l[k]?=some e):e.o.f.size<=9223372036854775807:=h e (Zc he)
def aheadC (l:List Ct)(k:Nat):Option Ct:=if k=0 then none else l[k-1]?
theorem gH_ (l:List Ct):aheadC l 0=none:=rfl
theorem bU_ (l:List Ct)(k:Nat):aheadC l (k+1)=l[k]?:=by simp[aheadC]
theorem br_ (h:AR l=true):l.length<=200∧∀ x∈l,-1000<=x.n∧x.n<=1000:=by
 simp only[AR,Zf,ZU,List.all_eq_true] at h;refine⟨h.1,fun x hx=>?_⟩
 have:=h.2 x hx
 simp only[Ce,Zf,ZU] at this;exact⟨this.1.1.2,this.1.2⟩
theorem j5_ {c:Ct}(hc:c.o.f.size<=9223372036854775807):∀ {l:List Ct},Co l->Co (BD l c)
 |[],_=>by intro x hx;simp[BD] at hx;subst hx;exact hc
 |y::r,h=>by
  have hy:=h y (by simp);have hr:Co r:=fun x hx=>h x (by simp[hx]);unfold BD;split
  ·intro x hx;rcases Zn.1 hx with rfl | hx
   ·exact hy
   ·exact j5_ hc hr x hx
  ·split
   ·split
    ·intro x hx;rcases Zn.1 hx with rfl | hx
     ·exact hc
     ·exact hr x hx
    ·exact hr
   ·intro x hx;rcases Zn.1 hx with rfl | hx
    ·exact hc
    ·exact h x hx
theorem ht_:∀ {more l:List Ct},Co l->Co more->Co (A7 l more)
 |[],l,h,_=>h
 |c::r,l,h,hm=>ht_ (more:=r) (l:=BD l c) (j5_ (hm c (by simp)) h) (fun x hx=>hm x (by simp[hx]))
theorem a0_ (h:AI l=true):l.length<=200∧∀ x∈l,1<=x.n∧x.n<=1000:=by
 simp only[AI,Zf,ZU] at h;refine⟨h.1,fun x hx=>?_⟩
 have:=g1_ h.2 x hx
 simp only[DU,Zf,ZU] at this;exact⟨this.1.2,this.2⟩
theorem gg_:∀ {m:List Ct},l.length≠m.length->BW l m=false:=by
 induction l with
 |nil=>intro m h;cases m<;>simp[BW] at *
 |cons p r ih=>intro m h;cases m<;>simp[BW] at *;exact fun _=>ih h
end
section
open Go Go.RowKit
variable{B k n:Nat}{a:Option Addr}{w:World}
variable{l:List It}
theorem bO_ (h:Bw B w a n l)(hk:k<n):
  ∃ b o x pa pn pc,a=some ⟨b,o,none⟩∧l[k]?=some x∧w.cell? ⟨b,o+k*2,none⟩=some (.string x.nm)∧w.cell? ⟨b,o+k*2+1,none⟩=some (.slice pa pn pc)∧BI w pa pn x.ps∧Hd B pa pn pc∧B<=b∧∀ ad,pa=some ad->B<=ad.block:=by
 have hx:l[k]?=some (l[k]'(by rw[h.len];exact hk)):=by simp[h.len,hk]
 obtain⟨b,o,pa,pn,pc,ha,c0,c1,hp,hh,hB,hA,_⟩:=h.cell k _ hx;exact⟨b,o,_,pa,pn,pc,ha,hx,c0,c1,hp,hh,hB,hA⟩
theorem b5_ {l:List Vo}(h:Bp B w a n l)(hk:k<n):
  ∃ b o x pa pn pc,a=some ⟨b,o,none⟩∧l[k]?=some x∧w.cell? ⟨b,o+k*4,none⟩=some (.int .i64 x.id)∧w.cell? ⟨b,o+k*4+1,none⟩=some (.string x.nm)∧w.cell? ⟨b,o+k*4+2,none⟩=some (.bool x.fx)∧w.cell? ⟨b,o+k*4+3,none⟩=some (.slice pa pn pc)∧Bw B w pa pn x.its∧Hd B pa pn pc∧B<=b:=by
 have hx:l[k]?=some (l[k]'(by rw[h.len];exact hk)):=by simp[h.len,hk]
 obtain⟨b,o,pa,pn,pc,ha,c0,c1,c2,c3,hp,hh,hB,_⟩:=h.cell k _ hx;exact⟨b,o,_,pa,pn,pc,ha,hx,c0,c1,c2,c3,hp,hh,hB⟩
def Ms (l:List It):Prop:=∀ x∈l,x.nm.size<=9223372036854775807∧x.ps.length<=4194304
def JR (l:List Vo):Prop:=∀ v∈l,v.nm.size<=9223372036854775807∧v.its.length<=4194304∧Ms v.its
end
section
open Go Go.RowKit
variable{P:Program}{w:World}
theorem iD_ {w':World}{v v':Value}(base:Nat)(t ty e:TypeId)(i:TypeInfo)(z:Value)(size bytes:Nat)(ht:P.underlying t=some (.slice e))(hi:P.info? e=some i)(hz:i.zero=some z)
  (hsize:i.size=size)(hby:i.bytes=bytes)(n:Nat)(xs:List Value)(hc:w.ownsRow base e size v n xs)
  (a:Addr)(m c:Nat)(news:List Value)(hm:0<m)(hl:news.length=m*size)(hnews:∀ j u,news[j]?=some u->w.cell? (a.add j)=some u)(h1:∀ u∈news,u.oneCell'=true)
  (h63:n+m<=maxLen)(hbytes:(n+m)*bytes<=140737488355328)(hr:(Builtin.append_ #[t,t] ty #[v,.slice (some a) m c]).run P w=.ok v' w'):
  ∀ g,v'.ownBlock=some g->v.ownBlock=some g∨w.heap.size<=g:=by
 subst hsize;subst hby;have hj:n+m<=9223372036854775807:=by simp only[maxLen] at h63;omega
 intro g' hh;rcases hc.2 with⟨rfl,rfl⟩ | ⟨g,cap,cur,rfl,ho,hg,hq,hp,hn,hk⟩
 ·have ha:=run_append_nil (P:=P) w t ty e i z ht hi hz a m c news hl hnews (by omega) (by omega) (by have hb:=hbytes;simp only[Zq] at hb;omega);rw[hr] at ha
  cases ha
  right;simp[Value.ownBlock] at hh;omega
 ·by_cases hroom:n+m<=cap
  ·have hf:n*i.size+news.length<=cur.size:=by rw[hl,hn,<-Yd];exact ZS _ hroom
   have ha:=run_append_room (P:=P) w t ty e i ht hi g n cap cur hg a m c news hl hnews h1 hroom hf;rw[hr] at ha
   cases ha
   left;simpa[Value.ownBlock] using hh
  ·have he:∀ j u,xs[j]?=some u->w.cell? ((⟨g,0,none⟩:Addr).add j)=some u:=hc.cells (g:=g) rfl;have ha:=run_append_grow (P:=P) w t ty e i z ht hi hz ⟨g,0,none⟩ n cap xs hc.1 he a m c news hl hnews (by omega) (by omega) (growslice_fits (by omega) hbytes);rw[hr] at ha
   cases ha
   right;simp[Value.ownBlock] at hh;omega
end
end Go.Proofs.YtkiceokhlceciaaGreatDoor
