/- Counts added up: a list in order with no nought is told by its sums. -/
import Derived.RangeFuncNested
import Derived.RangeFuncBound
import Derived.Shelf.RegionOpen
import Derived.OwnWalkIn
import Derived.LoopNIn
import Derived.LoopIn
import Derived.Maps.AppendAt
import Derived.StillTailTactics
import Derived.Test.YtdmeabghpchckaaGreatDoorU00
set_option maxHeartbeats 20000000
set_option maxRecDepth 100000
namespace Go.Proofs.YtdmeabghpchckaaGreatDoor
section
open Go.RowKit Go.Shelf Tryz
attribute [local go_sem] YJ
attribute [local go_sem] YJ
attribute [local go_sem] YJ
abbrev ics:Int->List Value:=fun x=>[Value.int .i64 x]
end
section
open Go Go.RowKit Go.BigFrame Tryz
variable{x:Int}{r:List Pt}{b:Nat}{p:Pt}{w:World}
structure RSt where
 L:List Pt
 s:Int
 ov:Bool
structure BH (w:World)(b:Nat)(r:RSt):Prop where
 le:r.L.length<=16
 blk:∃ c:Array Value,Blk w b c 218∧c.size=51∧(∀ i p,r.L[i]?=some p->c[i*3]?=some (.int .i64 p.a)∧c[i*3+1]?=some (.int .i64 p.f)∧c[i*3+2]?=some (.int .i64 p.n))∧
  c[48]?=some (.int .i64 r.L.length)∧c[49]?=some (.int .i64 r.s)∧c[50]?=some (.bool r.ov)
theorem BH.lt {r:RSt}(h:BH w b r):b<w.heap.size:=by
 obtain⟨_,c,hc,_⟩:=h;exact hc.lt
theorem BH.sl {r:RSt}(h:BH w b r):AM w (some ⟨b,0,none⟩) r.L.length r.L:=by
 obtain⟨he,c,ha,hc,hb,_⟩:=h;refine⟨rfl,fun i x hx=>⟨b,0,rfl,fun j v hv=>?_⟩⟩;obtain⟨r0,r1,r2⟩:=hb i x hx;rw[ha.cell,Zq]
 match j,hv with
 |0,hv=>obtain rfl:=Zi hv;exact r0
 |1,hv=>obtain rfl:=Zi hv;exact r1
 |2,hv=>obtain rfl:=Zi hv;exact r2
 |j+3,hv=>simp[Pt.cs] at hv
end
section
open Go Go.RowKit
structure It where
 nm:ByteArray
 ps:List Pt
end
section
open Go Go.RowKit
variable{B n:Nat}{a:Option Addr}{w:World}
variable{l:List It}
structure Vo where
 id:Int
 nm:ByteArray
 fx:Bool
 its:List It
structure Po where
 size:Int
 next:Int
 ex:List Ex
 vs:List Vo
 rf:List Ct
 lt:List Ct
def Hd (B:Nat)(a:Option Addr)(n cap:Nat):Prop:=n<=cap∧cap<=9223372036854775807∧(0<B->(a=none->cap=0)∧∀ ad,a=some ad->ad.spot=none)
def Sf (B:Nat)(w:World)(a:Option Addr):Prop:=0<B->∀ ad,a=some ad->B<=ad.block∧∃ c t,Blk w ad.block c t
structure Bf (B:Nat)(w:World)(a:Option Addr)(n:Nat)(l:List It):Prop where
 len:l.length=n
 cell:∀ i x,l[i]?=some x->∃ b o pa pn pc,a=some ⟨b,o,none⟩∧w.cell? ⟨b,o+i*2,none⟩=some (.string x.nm)∧w.cell? ⟨b,o+i*2+1,none⟩=some (.slice pa pn pc)∧AM w pa pn x.ps∧Hd B pa pn pc∧B<=b∧(∀ ad,pa=some ad->B<=ad.block)∧Sf B w pa∧Sf B w a
structure Ba (B:Nat)(w:World)(a:Option Addr)(n:Nat)(l:List Vo):Prop where
 len:l.length=n
 cell:∀ i x,l[i]?=some x->∃ b o pa pn pc,a=some ⟨b,o,none⟩∧w.cell? ⟨b,o+i*4,none⟩=some (.int .i64 x.id)∧w.cell? ⟨b,o+i*4+1,none⟩=some (.string x.nm)∧w.cell? ⟨b,o+i*4+2,none⟩=some (.bool x.fx)∧w.cell? ⟨b,o+i*4+3,none⟩=some (.slice pa pn pc)∧Bf B w pa pn x.its∧Hd B pa pn pc∧B<=b∧Sf B w a
end
section
open Go Go.RowKit Go.BigFrame Tryz
variable{c:Ct}{size:Int}
def Eb (c:UInt8):Bool:=decide (97<=(c.toNat:Int))&&decide ((c.toNat:Int)<=122)
def nameB (d:ByteArray):Bool:=decide (1<=d.size)&&decide (d.size<=8)&&d.data.toList.all Eb
end
section
open Go Go.RowKit Go.BigFrame Tryz
variable{c:Array Value}{l:List Ct}
def Bw (l:List Ct):Prop:=∀ c∈l,c.o.f.size<=9223372036854775807
end
section
open Go Go.RowKit Go.BigFrame Tryz
variable{r:List Pt}{b:Nat}{q:Pt}{w:World}
theorem BH.below {w':World}{r:RSt}(h:BH w b r)(hb:Below w.heap.size w w'):BH w' b r:=by
 obtain⟨ha,c,hc,q⟩:=h;exact⟨ha,c,hc.below hb,q⟩
end
section
open Go Go.RowKit
variable{B B' n r:Nat}{a:Option Addr}{w w':World}
variable{l:List It}
theorem Hd.mono {cap:Nat}(h:Hd B a n cap)(hb:B'<=B):Hd B' a n cap:=⟨h.1,h.2.1,fun h0=>h.2.2 (by omega)⟩
theorem Sf.below (h:Sf B w a)(hb:Below w.heap.size w w'):Sf B w' a:=fun h0 ad e=>by
 obtain⟨h1,c,t,h2⟩:=h h0 ad e;exact⟨h1,c,t,h2.below hb⟩
theorem Sf.mono (h:Sf B w a)(hb:B'<=B):Sf B' w a:=fun h0 ad e=>by
 obtain⟨h1,r⟩:=h (by omega) ad e;exact⟨by omega,r⟩
theorem Sf.grown (h:Sf B w a)(hg:w.grownBy w' (some r))(hr:r<B):Sf B w' a:=fun h0 ad e=>by
 obtain⟨h1,c,t,h2⟩:=h h0 ad e;exact⟨h1,c,t,h2.grown hg (by simp only[ne_eq];omega)⟩
theorem Bf.below (h:Bf B w a n l)(hb:Below w.heap.size w w'):Bf B w' a n l:=
 ⟨h.len,fun i x hx=>by
  obtain⟨b,o,pa,pn,pc,ha,c0,c1,hp,hh,hB,hA,s1,s2⟩:=h.cell i x hx;exact⟨b,o,pa,pn,pc,ha,Ab hb c0,Ab hb c1,hp.below hb,hh,hB,hA,s1.below hb,s2.below hb⟩⟩
theorem Ba.below {l:List Vo}(h:Ba B w a n l)(hb:Below w.heap.size w w'):Ba B w' a n l:=
 ⟨h.len,fun i x hx=>by
  obtain⟨b,o,pa,pn,pc,ha,c0,c1,c2,c3,hp,hh,hB,s2⟩:=h.cell i x hx;exact⟨b,o,pa,pn,pc,ha,Ab hb c0,Ab hb c1,Ab hb c2,Ab hb c3,hp.below hb,hh,hB,s2.below hb⟩⟩
theorem Bf.mono (h:Bf B w a n l)(hb:B'<=B):Bf B' w a n l:=
 ⟨h.len,fun i x hx=>by
  obtain⟨b,o,pa,pn,pc,ha,c0,c1,hp,hh,hB,hA,s1,s2⟩:=h.cell i x hx;exact⟨b,o,pa,pn,pc,ha,c0,c1,hp,hh.mono hb,by omega,fun ad hc=>by have:=hA ad hc;omega,s1.mono hb,s2.mono hb⟩⟩
theorem Ba.mono {l:List Vo}(h:Ba B w a n l)(hb:B'<=B):Ba B' w a n l:=
 ⟨h.len,fun i x hx=>by
  obtain⟨b,o,pa,pn,pc,ha,c0,c1,c2,c3,hp,hh,hB,s2⟩:=h.cell i x hx;exact⟨b,o,pa,pn,pc,ha,c0,c1,c2,c3,hp.mono hb,hh.mono hb,by omega,s2.mono hb⟩⟩
theorem Bf.grown (h:Bf B w a n l)(hg:w.grownBy w' (some r))(hr:r<B):Bf B w' a n l:=
 ⟨h.len,fun i x hx=>by
  obtain⟨b,o,pa,pn,pc,ha,c0,c1,hp,hh,hB,hA,s1,s2⟩:=h.cell i x hx;exact⟨b,o,pa,pn,pc,ha,hg.cell c0 (by simp;omega),hg.cell c1 (by simp;omega),hp.grown hg (fun ad hb=>by have:=hA ad hb;omega),hh,hB,hA,s1.grown hg hr,s2.grown hg hr⟩⟩
def Ge (l:List It):Prop:=∀ x∈l,x.nm.size<=9223372036854775807∧x.ps.length<=4194304
end
section
open Go Go.RowKit
variable{c:Ct}
def Bk:List Ct->Ct->List Ct
 |[],c=>[c]
 |x::r,c=>if Bc x.o c.o=true then x::Bk r c else if Bx x.o c.o=true then (if x.n+c.n≠0 then ⟨c.o,x.n+c.n⟩::r else r) else c::x::r
def AQ (l more:List Ct):List Ct:=more.foldl Bk l
def tot (o:Ow):List Ct->Int
 |[]=>0
 |c::r=>(if Bx c.o o=true then c.n else 0)+tot o r
def Bi (l:List Ct):Prop:=∀ c∈l,c.n≠0
theorem a3_ (o:Ow):Bx o o=true:=aM_.2 rfl
theorem bn_ (o:Ow):∀ (l m:List Ct),tot o (l++m)=tot o l+tot o m
 |[],m=>by simp[tot]
 |c::r,m=>by simp only[YF,tot,bn_ o r m];omega
end
section
open Go Go.RowKit Go.BigFrame Tryz
variable{fr st to x y:Int}{r:List Pt}{p:Pt}
def Be (p:Pt)(x y:Int):Pt:=if p.a==0 then ⟨0,0,y-x⟩ else ⟨p.a,p.f+x,y-x⟩
def slp (fr to:Int):Int->List Pt->List Pt
 |_,[]=>[]
 |st,p::r=>if max (fr-st) 0<min (to-st) p.n then Be p (max (fr-st) 0) (min (to-st) p.n)::slp fr to (st+p.n) r else slp fr to (st+p.n) r
end
section
open Go Go.RowKit Go.BigFrame Tryz
variable{l:List Ct}{n:Nat}{a:Option Addr}{p:Pt}
def AI (l:List Pt)(p:Pt):List Pt:=
 match l.getLast? with
 |none=>[p]
 |some q=>if Aw q p then l.dropLast++[⟨q.a,q.f,wrap64 (q.n+p.n)⟩] else l++[p]
def Ak (l m:List Pt):List Pt:=m.foldl AI l
end
section
open Go Go.RowKit Go.BigFrame Tryz
variable{c:Array Value}{l:List Ct}
def AX (o:Ow):Bool:=decide (1<=o.a)&&decide (o.a<=400)&&decide (1<=o.v)&&decide (o.v<=1000000000)&&nameB o.f
def BR (c:Ct):Bool:=AX c.o&&decide (-1000<=c.n)&&decide (c.n<=1000)&&!(c.n==0)
def A3 (l:List Ct):Bool:=decide (l.length<=200)&&l.all BR
def CG (c:Ct):Bool:=AX c.o&&decide (1<=c.n)&&decide (c.n<=1000)
def rgo:Option Ct->List Ct->Bool
 |_,[]=>true
 |none,c::r=>CG c&&rgo (some c) r
 |some q,c::r=>CG c&&Bc q.o c.o&&rgo (some c) r
def AN (l:List Ct):Bool:=decide (l.length<=200)&&rgo none l
def Aq (refs late:List Ct):Option (List Ct):=if AN refs=true∧A3 late=true then (if AN (AQ refs late)=true then some (AQ refs late) else none) else none
def FD (p q:Ct):Bool:=Bx p.o q.o&&p.n==q.n
def Bn:List Ct->List Ct->Bool
 |[],[]=>true
 |p::r,q::s=>FD p q&&Bn r s
 |_,_=>false
end
section
open Go Go.RowKit
variable{r:Nat}{a:Option Addr}
variable{l:List It}
def igo (e:List Ex):Option It->List It->Bool
 |_,[]=>true
 |q,x::r=>nameB x.nm&&(match q with | none=>true | some p=>bl p.nm.toList x.nm.toList)&&(Aj x.ps e).isSome&&igo e (some x) r
def itemsB (l:List It)(e:List Ex):Bool:=decide (l.length<=5)&&igo e none l
def vgo (next:Int)(e:List Ex):Int->List Vo->Bool
 |_,[]=>true
 |last,v::r=>decide (last<v.id)&&decide (v.id<next)&&nameB v.nm&&itemsB v.its e&&vgo next e v.id r
def CJ (next:Int)(l:List Vo)(e:List Ex):Bool:=decide (l.length<=6)&&vgo next e 0 l
def AS (vol:Int)(f:ByteArray)(ps:List Pt):List Ct:=(ps.filter (fun p=>!(p.a==0))).map (fun p=>⟨⟨p.a,vol,f⟩,1⟩)
def Ei (v:Vo):List Ct:=v.its.flatMap (fun x=>AS v.id x.nm x.ps)
def A7 (l:List Vo):List Ct:=l.flatMap Ei
def AA (l:List Vo):List Ct:=AQ [] (A7 l)
def CF (l:List Vo):Bool:=decide ((l.map (·.nm.toList)).Nodup)
def Ce (e:List Ex)(l:List Ct):Bool:=e.all (fun x=>l.any (fun c=>c.o.a==x.a))&&l.all (fun c=>e.any (fun x=>x.a==c.o.a))
def Ai (p:Po):Bool:=Ao p.size p.ex&&decide (1<=p.next)&&decide (p.next<=1000000000)&&CJ p.next p.vs p.ex&&CF p.vs&&(match Aq p.rf p.lt with | none=>false | some s=>Bn s (AA p.vs))&&Ce p.ex (p.rf++p.lt)
end
section
open Go Go.RowKit Go.BigFrame Tryz
variable{w:World}
theorem BW (w:World)(b i:Nat)(v:Value):w.grownBy (w.setCell ⟨b,i,none⟩ v) (some b):=af_ (Yh _ _) i v
end
section
open Go Go.RowKit
variable{a b:Ow}
theorem aS_ (p:Ct):p.cs.length=4:=rfl
theorem a9_ (l:List Ct):∀ u∈l.flatMap Ct.cs,u.oneCell'=true:=by
 intro u hu;obtain⟨p,_,hp⟩:=ZL.1 hu;simp[Ct.cs] at hp;rcases hp with rfl | rfl | rfl | rfl<;>rfl
theorem eM_ {w:World}{b:Nat}{p:Ct}(h0:w.cell? ⟨b,0,none⟩=some (.int .i64 p.o.a))(h1:w.cell? ⟨b,1,none⟩=some (.int .i64 p.o.v))(h2:w.cell? ⟨b,2,none⟩=some (.string p.o.f))(h3:w.cell? ⟨b,3,none⟩=some (.int .i64 p.n)):A4 w (some ⟨b,0,none⟩) 1 [p]:=by
 refine⟨rfl,fun i x hx=>⟨b,0,rfl,fun j v hv=>?_⟩⟩;have hi:i=0:=by have:=(Zb.1 hx).1;simp at this;exact this
 subst hi;simp at hx;subst hx
 match j,hv with
 |0,hv=>obtain rfl:=Zi hv;exact h0
 |1,hv=>obtain rfl:=Zi hv;exact h1
 |2,hv=>obtain rfl:=Zi hv;exact h2
 |3,hv=>obtain rfl:=Zi hv;exact h3
 |j+4,hv=>simp[Ct.cs] at hv
theorem cl_ (w:World)(p:Ct)(t:TypeId)(b:Nat)(hb:b=w.heap.size):A4 (w.alloc (.cells #[.int .i64 p.o.a,.int .i64 p.o.v,.string p.o.f,.int .i64 p.n] t)) (some ⟨b,0,none⟩) 1 [p]:=by
 subst hb;exact eM_ (by simp) (by simp) (by simp) (by simp)
theorem Dg:(Tryz.prog.info? 46).map (fun i=>(i.zero,i.size,i.bytes))=some (some (.agg #[.int .i64 0,.int .i64 0,.string .empty,.int .i64 0]),4,40):=by kernel_rfl
end
section
open Go Go.RowKit Go.BigFrame Tryz
variable{fr st to x y:Int}{l r:List Pt}{p:Pt}{w:World}
theorem i8_ (h:Ac l=true):∀ k,0<=Af (l.take k)∧Af (l.take k)<=100:=by
 intro k;obtain⟨_,h1,h2⟩:=ae_ h
 have:=a6_ h1 k
 omega
theorem aE_ {P:Program}{id:Nat}{Q:Exit->Act->World->Prop}{a:Act}{l:List Oper}(n:Nat)(hm:P.follows .mixedOrders=true)(hB:Region.lexTailB .any l.toArray n=true)
  (h:wpStill P l.toArray w.drew (fun a'=>wpList P l.toArray Q (l.drop n) a' w.drew) (l.take n) a):(Code.region id l.toArray true).wp P Q a w:=
 wp_region_still_tail n hm hB h
theorem gf_ (p:Pt)(x y:Int):(Be p x y).n=y-x:=by unfold Be;split<;>rfl
theorem eN_ (hx:max (fr-st) 0=x)(hy:min (to-st) p.n=y)(h:x<y):slp fr to st (p::r)=Be p x y::slp fr to (st+p.n) r:=by
 subst hx hy;simp only[slp,h,if_true]
theorem fo_ (h:¬ max (fr-st) 0<min (to-st) p.n):slp fr to st (p::r)=slp fr to (st+p.n) r:=by
 simp only[slp,h,if_false]
theorem FP:(prog.info? 146).map (fun i=>(i.zero,i.size,i.bytes))=some (some (.agg #[.int .i64 0,.int .i64 0,.int .i64 0]),3,24):=by kernel_rfl
theorem ci_ (h:Ac l=true):∀ p∈l,1<=p.n∧p.n<=100∧0<=p.f∧p.f<=100:=by
 intro p hp;obtain⟨_,h1,h2⟩:=ae_ h;have hk:=h1 p hp;have ha:=av_ hk
 have h3:p.n<=Af l:=by
  obtain⟨i,hi⟩:=List.mem_iff_getElem?.1 hp;have e:=gc_ hi;have b1:=a6_ h1 i;have b2:=a6_ h1 (i+1);omega
 unfold Ag at hk;split at hk<;>simp at hk<;>omega
end
section
open Go Go.RowKit Go.BigFrame Tryz
variable{l:List Ct}{p:Pt}
theorem fL_ (l:List Pt)(p:Pt):(AI l p).length<=l.length+1:=by
 unfold AI;split
 ·simp
 ·split
  ·simp only[ZE,List.length_dropLast,Zw,YK];omega
  ·simp
end
section
open Go Go.RowKit Go.BigFrame Tryz
variable{c:Array Value}{l:List Ct}{x y:Value}
theorem Bw.at (h:Bw l){k:Nat}{e:Ct}(he:l[k]?=some e):e.o.f.size<=9223372036854775807:=h e (Zc he)
def aheadC (l:List Ct)(k:Nat):Option Ct:=if k=0 then none else l[k-1]?
theorem gH_ (l:List Ct):aheadC l 0=none:=rfl
theorem bU_ (l:List Ct)(k:Nat):aheadC l (k+1)=l[k]?:=by simp[aheadC]
theorem br_ (h:A3 l=true):l.length<=200∧∀ x∈l,-1000<=x.n∧x.n<=1000:=by
 simp only[A3,Zf,ZU,List.all_eq_true] at h;refine⟨h.1,fun x hx=>?_⟩
 have:=h.2 x hx
 simp only[BR,Zf,ZU] at this;exact⟨this.1.1.2,this.1.2⟩
theorem j5_ {c:Ct}(hc:c.o.f.size<=9223372036854775807):∀ {l:List Ct},Bw l->Bw (Bk l c)
 |[],_=>by intro x hx;simp[Bk] at hx;subst hx;exact hc
 |y::r,h=>by
  have hy:=h y (by simp);have hr:Bw r:=fun x hx=>h x (by simp[hx]);unfold Bk;split
  ·intro x hx;rcases Zn.1 hx with rfl | hx
   ·exact hy
   ·exact j5_ hc hr x hx
  ·split
   ·split
    ·intro x hx;rcases Zn.1 hx with rfl | hx
     ·exact hc
     ·exact hr x hx
    ·exact hr
   ·intro x hx;rcases Zn.1 hx with rfl | hx
    ·exact hc
    ·exact h x hx
theorem ht_:∀ {more l:List Ct},Bw l->Bw more->Bw (AQ l more)
 |[],l,h,_=>h
 |c::r,l,h,hm=>ht_ (more:=r) (l:=Bk l c) (j5_ (hm c (by simp)) h) (fun x hx=>hm x (by simp[hx]))
theorem g1_:∀ {l:List Ct} {q:Option Ct},rgo q l=true->∀ x∈l,CG x=true
 |[],_,_=>by simp
 |c::r,q,h=>by
  have h2:CG c=true∧rgo (some c) r=true:=by
   cases q
   ·simpa only[rgo,Zf] using h
   ·simp only[rgo,Zf] at h;exact⟨h.1.1,h.2⟩
  intro x hx;rcases Zn.1 hx with rfl | hx
  ·exact h2.1
  ·exact g1_ h2.2 x hx
theorem a0_ (h:AN l=true):l.length<=200∧∀ x∈l,1<=x.n∧x.n<=1000:=by
 simp only[AN,Zf,ZU] at h;refine⟨h.1,fun x hx=>?_⟩
 have:=g1_ h.2 x hx
 simp only[CG,Zf,ZU] at this;exact⟨this.1.2,this.2⟩
theorem gg_:∀ {m:List Ct},l.length≠m.length->Bn l m=false:=by
 induction l with
 |nil=>intro m h;cases m<;>simp[Bn] at *
 |cons p r ih=>intro m h;cases m<;>simp[Bn] at *;exact fun _=>ih h
end
section
open Go Go.RowKit
variable{B k n:Nat}{a:Option Addr}{w:World}
variable{l:List It}
theorem bO_ (h:Bf B w a n l)(hk:k<n):
  ∃ b o x pa pn pc,a=some ⟨b,o,none⟩∧l[k]?=some x∧w.cell? ⟨b,o+k*2,none⟩=some (.string x.nm)∧w.cell? ⟨b,o+k*2+1,none⟩=some (.slice pa pn pc)∧AM w pa pn x.ps∧Hd B pa pn pc∧B<=b∧∀ ad,pa=some ad->B<=ad.block:=by
 have hx:l[k]?=some (l[k]'(by rw[h.len];exact hk)):=by simp[h.len,hk]
 obtain⟨b,o,pa,pn,pc,ha,c0,c1,hp,hh,hB,hA,_⟩:=h.cell k _ hx;exact⟨b,o,_,pa,pn,pc,ha,hx,c0,c1,hp,hh,hB,hA⟩
theorem b5_ {l:List Vo}(h:Ba B w a n l)(hk:k<n):
  ∃ b o x pa pn pc,a=some ⟨b,o,none⟩∧l[k]?=some x∧w.cell? ⟨b,o+k*4,none⟩=some (.int .i64 x.id)∧w.cell? ⟨b,o+k*4+1,none⟩=some (.string x.nm)∧w.cell? ⟨b,o+k*4+2,none⟩=some (.bool x.fx)∧w.cell? ⟨b,o+k*4+3,none⟩=some (.slice pa pn pc)∧Bf B w pa pn x.its∧Hd B pa pn pc∧B<=b:=by
 have hx:l[k]?=some (l[k]'(by rw[h.len];exact hk)):=by simp[h.len,hk]
 obtain⟨b,o,pa,pn,pc,ha,c0,c1,c2,c3,hp,hh,hB,_⟩:=h.cell k _ hx;exact⟨b,o,_,pa,pn,pc,ha,hx,c0,c1,c2,c3,hp,hh,hB⟩
def DB (l:List Vo):Prop:=∀ v∈l,v.nm.size<=9223372036854775807∧v.its.length<=4194304∧Ge v.its
end
section
open Go.RowKit Go.Shelf Tryz
attribute [local go_sem] YJ
def ggo (size:Int):Int->List Ex->List (Int×Int)
 |next,[]=>if next<=size then [(next,size+1-next)] else []
 |next,e::r=>(if next<e.a then [(next,e.a-next)] else [])++ggo size (e.a+e.d.size) r
end
section
open Go.RowKit Go.Shelf Tryz
variable{l:List Ex}
attribute [local go_sem] YJ
attribute [local go_sem] YJ
theorem cu_ {size:Int}(h:Ao size l=true):1<=size∧size<=400∧l.length<=60∧xgo size 1 l=true:=by
 simp only[Ao,Zf,ZU] at h;exact⟨h.1.1.1,h.1.1.2,h.1.2,h.2⟩
def EL:List Ex->Int
 |[]=>0
 |e::r=>e.d.size+EL r
end
section
open Go Go.RowKit
variable{α:Type}{P:Program}{w:World}
theorem iD_ {w':World}{v v':Value}(base:Nat)(t ty e:TypeId)(i:TypeInfo)(z:Value)(size bytes:Nat)(ht:P.underlying t=some (.slice e))(hi:P.info? e=some i)(hz:i.zero=some z)
  (hsize:i.size=size)(hby:i.bytes=bytes)(n:Nat)(xs:List Value)(hc:w.ownsRow base e size v n xs)
  (a:Addr)(m c:Nat)(news:List Value)(hm:0<m)(hl:news.length=m*size)(hnews:∀ j u,news[j]?=some u->w.cell? (a.add j)=some u)(h1:∀ u∈news,u.oneCell'=true)
  (h63:n+m<=maxLen)(hbytes:(n+m)*bytes<=140737488355328)(hr:(Builtin.append_ #[t,t] ty #[v,.slice (some a) m c]).run P w=.ok v' w'):
  ∀ g,v'.ownBlock=some g->v.ownBlock=some g∨w.heap.size<=g:=by
 subst hsize;subst hby;have hj:n+m<=9223372036854775807:=by simp only[maxLen] at h63;omega
 intro g' hh;rcases hc.2 with⟨rfl,rfl⟩ | ⟨g,cap,cur,rfl,ho,hg,hq,hp,hn,hk⟩
 ·have ha:=run_append_nil (P:=P) w t ty e i z ht hi hz a m c news hl hnews (by omega) (by omega) (by have hb:=hbytes;simp only[Zq] at hb;omega);rw[hr] at ha
  cases ha
  right;simp[Value.ownBlock] at hh;omega
 ·by_cases hroom:n+m<=cap
  ·have hf:n*i.size+news.length<=cur.size:=by rw[hl,hn,<-Yd];exact ZS _ hroom
   have ha:=run_append_room (P:=P) w t ty e i ht hi g n cap cur hg a m c news hl hnews h1 hroom hf;rw[hr] at ha
   cases ha
   left;simpa[Value.ownBlock] using hh
  ·have he:∀ j u,xs[j]?=some u->w.cell? ((⟨g,0,none⟩:Addr).add j)=some u:=hc.cells (g:=g) rfl;have ha:=run_append_grow (P:=P) w t ty e i z ht hi hz ⟨g,0,none⟩ n cap xs hc.1 he a m c news hl hnews (by omega) (by omega) (growslice_fits (by omega) hbytes);rw[hr] at ha
   cases ha
   right;simp[Value.ownBlock] at hh;omega
theorem ph_ {cs:α->List Value}{size:Nat}{o:Oper}{a:Act}{K:Act->World->Prop}{Q:Exit->Act->World->Prop}
  (s x:Operand)(t:TypeId)(ho:o.op=.call {callee:=.builtin .append,args:=#[s,x],argTypes:=#[t,t]})
  (B:Nat)(e:TypeId)(i:TypeInfo)(z:Value)(bytes:Nat)(ht:P.underlying t=some (.slice e))(hi:P.info? e=some i)(hz:i.zero=some z)(hsize:i.size=size)(hby:i.bytes=bytes)(hzs:z.cells.size=size)(hpos:0<size)
  (hsz:∀ y,(cs y).length=size)(hone:∀ (l:List α),∀ u∈l.flatMap cs,u.oneCell'=true)
  (da:Option Addr)(dn dcap:Nat)(ld:List α)(hs:a.eval s=.slice da dn dcap)(hd:Ad cs size e w B da dn dcap ld)
  (b off:Nat)(ls:List α)(hx:a.eval x=.slice (some ⟨b,off,none⟩) 1 1)(hsrc:AE cs size w (some ⟨b,off,none⟩) 1 ls)
  (h63:dn+1<=maxLen)(hbytes:(dn+1)*bytes<=140737488355328)(hbase:B<=w.heap.size)
  (h:∀ a' cap' w',Ad cs size e w' B a' (dn+1) cap' (ld++ls)->w.grownBy w' (Value.ownBlock (.slice da dn dcap))->(∀ ad',a'=some ad'->(∃ ad,da=some ad∧ad.block=ad'.block)∨w.heap.size<=ad'.block)->K (a.put o.dst (.slice a' (dn+1) cap')) w'):o.wp P a w K Q:=by
 have hb:=hd.row hsz;have he:(ld++ls).length=dn+1:=by rw[ZE,hd.sl.len,hsrc.len]
 have hh:(ls.flatMap cs).length=1*size:=by rw[aY_ hsz,hsrc.len]
 obtain⟨v',w',hr,ha,hg,_⟩:=run_append_own (P:=P) w B t o.type e i z size bytes ht hi hz hsize hby hzs hpos (.slice da dn dcap) dn (ld.flatMap cs) hb ⟨b,off,none⟩ 1 1 (ls.flatMap cs) hh (AE.src hsz hsrc) (hone ls) h63 hbytes hbase;have hj:=iD_ (P:=P) B t o.type e i z size bytes ht hi hz hsize hby dn (ld.flatMap cs) hb ⟨b,off,none⟩ 1 1 (ls.flatMap cs) (by omega) hh (AE.src hsz hsrc) (hone ls) h63 hbytes hr;rw[<-ZQ] at ha;obtain⟨a',cap',rfl,hf⟩:=bz_ hsz he ha;unfold Oper.wp;simp[execOp,ho,resolve,invoke,builtin,hs,hx,hr,Result.andThen];refine h a' cap' w' hf hg (fun ad' hc=>?_);subst hc;rcases hj ad'.block (by simp[Value.ownBlock]) with h1 | h1
 ·cases da with
  |none=>simp[Value.ownBlock] at h1
  |some ad=>exact .inl ⟨ad,rfl,by simpa[Value.ownBlock] using h1⟩
 ·exact .inr h1
end
section
open Go Go.RowKit Go.BigFrame Tryz
variable{c:Array Value}{t:TypeId}{w:World}
theorem Blk.other {b:Nat}(h:Blk w b c t)(p:Addr)(v:Value)(hp:b≠p.block):Blk (w.setCell p v) b c t:=by
 unfold Blk at *;rw[Below.heap_setCell _ _ _ _ (by simpa using hp)];exact h
end
section
open Go Go.RowKit Go.BigFrame Tryz
variable{c0 c1 c2:Array Value}{t0 t1 t2:TypeId}{w w1:World}
theorem bx3 (hb:Below (((w.alloc (.cells c0 t0)).alloc (.cells c1 t1)).alloc (.cells c2 t2)).heap.size (((w.alloc (.cells c0 t0)).alloc (.cells c1 t1)).alloc (.cells c2 t2)) w1):
  Blk w1 w.heap.size c0 t0∧Blk w1 (w.heap.size+1) c1 t1∧Blk w1 (w.heap.size+2) c2 t2∧Below w.heap.size w w1∧w.heap.size+3<=w1.heap.size:=
 ⟨(((Blk.new w _ _).alloc _).alloc _).below hb,((Blk.new' _ _ _ _ (by simp)).alloc _).below hb,(Blk.new' _ _ _ _ (by simp)).below hb,Aa (by go_grown) hb,by have:=hb.size;simp at this;omega⟩
end
section
open Go Go.RowKit
variable{c:Ct}
def Br (l:List Ct):Prop:=l.Pairwise (fun x y=>Bc x.o y.o=true)
theorem jX_ (o:Ow)(c:Ct):∀ l:List Ct,tot o (Bk l c)=tot o l+(if Bx c.o o=true then c.n else 0)
 |[]=>by simp[Bk,tot]
 |x::r=>by
  unfold Bk;split
  ·simp only[tot,jX_ o c r];omega
  ·split
   ·rename_i h1 h2;have e:=aM_.1 h2;split
    ·simp only[tot,e];split<;>omega
    ·simp only[tot,e];split<;>omega
   ·simp only[tot];omega
theorem jY_ {z:Ow}(hc:Bc z c.o=true):∀ {l:List Ct},(∀ x∈l,Bc z x.o=true)->∀ x∈Bk l c,Bc z x.o=true
 |[],_=>by intro x hx;simp[Bk] at hx;subst hx;exact hc
 |y::r,h=>by
  have hy:=h y (by simp);have hr:∀ x∈r,Bc z x.o=true:=fun x hx=>h x (by simp[hx]);unfold Bk;split
  ·intro x hx;rcases Zn.1 hx with rfl | hx
   ·exact hy
   ·exact jY_ hc hr x hx
  ·split
   ·split
    ·intro x hx;rcases Zn.1 hx with rfl | hx
     ·exact hc
     ·exact hr x hx
    ·exact hr
   ·intro x hx;rcases Zn.1 hx with rfl | hx
    ·exact hc
    ·exact h x hx
theorem gE_ (c:Ct):∀ {l:List Ct},Br l->Br (Bk l c)
 |[],_=>by simp[Bk,Br]
 |y::r,h=>by
  obtain⟨h1,h2⟩:=Ye.1 h;unfold Bk;split
  ·rename_i k;exact Ye.2 ⟨jY_ k h1,gE_ c h2⟩
  ·rename_i k;split
   ·rename_i e;have e:=aM_.1 e;split
    ·exact Ye.2 ⟨fun x hx=>by simp only[<-e];exact h1 x hx,h2⟩
    ·exact h2
   ·rename_i e;have ha:Bc c.o y.o=true:=ct_ (by simpa using k) (fun e'=>e (aM_.2 e'));refine Ye.2 ⟨fun x hx=>?_,h⟩;rcases Zn.1 hx with rfl | hx
    ·exact ha
    ·exact b7_ ha (h1 x hx)
theorem gF_ (hc:c.n≠0):∀ {l:List Ct},Bi l->Bi (Bk l c)
 |[],_=>by intro x hx;simp[Bk] at hx;subst hx;exact hc
 |y::r,h=>by
  have hy:=h y (by simp);have hr:Bi r:=fun x hx=>h x (by simp[hx]);unfold Bk;split
  ·intro x hx;rcases Zn.1 hx with rfl | hx
   ·exact hy
   ·exact gF_ hc hr x hx
  ·split
   ·split
    ·rename_i k;intro x hx;rcases Zn.1 hx with rfl | hx
     ·exact k
     ·exact hr x hx
    ·exact hr
   ·intro x hx;rcases Zn.1 hx with rfl | hx
    ·exact hc
    ·exact h x hx
theorem eL_:∀ {more l:List Ct},Br l->Bi l->Bi more->Br (AQ l more)∧Bi (AQ l more)∧∀ o,tot o (AQ l more)=tot o l+tot o more
 |[],l,hl,zl,_=>⟨hl,zl,fun o=>by simp[AQ,tot]⟩
 |c::r,l,hl,zl,zm=>by
  obtain⟨h1,h2,h3⟩:=eL_ (more:=r) (gE_ c hl) (gF_ (zm c (by simp)) zl) (fun x hx=>zm x (by simp[hx]));refine⟨h1,h2,fun o=>?_⟩
  have:=h3 o
  rw[jX_] at this;simp only[AQ,YE,tot] at this ⊢;omega
end
section
open Go Go.RowKit Go.BigFrame Tryz
variable{l:List Pt}
def Cb (l:List Pt):Int:=if Ac l=true then Af l else -1
end
section
open Go.RowKit Go.Shelf Tryz
variable{Bs n₀:Nat}
attribute [local go_sem] YJ
def KpG (n₀ Bs:Nat)(t:TypeId)(A B:World):Prop:=Below n₀ A B∧(∀ b c,Blk A b c t->Blk B b c t)∧(∀ v,A.cell? ⟨Bs,0,none⟩=some v->B.cell? ⟨Bs,0,none⟩=some v)
end
end Go.Proofs.YtdmeabghpchckaaGreatDoor
