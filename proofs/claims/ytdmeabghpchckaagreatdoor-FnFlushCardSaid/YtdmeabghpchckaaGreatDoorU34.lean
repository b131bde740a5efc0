/- Ops that are done when they are tried, by the model. -/
import Derived.Laws.EntriesVeiled
import Derived.Test.YtdmeabghpchckaaGreatDoorU23
import Derived.Test.YtdmeabghpchckaaGreatDoorU29
set_option maxHeartbeats 20000000
set_option maxRecDepth 100000
namespace Go.Proofs.YtdmeabghpchckaaGreatDoor
section
open Go Go.RowKit Go.BigFrame Tryz
variable{B n:Nat}{a:Option Addr}{w w':World}
def Ch (w:World)(a:Option Addr)(n:Nat):Prop:=∀ i,i<n->∃ b o,∃ v:Int,a=some ⟨b,o,none⟩∧0<=v∧v<=255∧w.cell? ⟨b,o+i,none⟩=some (.int .u8 v)
def Rd (w:World)(B:Nat):Prop:=∃ a n cap p,∃ t:TypeId,Blk w B #[.slice a n cap,.int .i64 ((p:Nat):Int)] t∧p<=n∧n<=1048576∧Ch w a n∧∀ ad,0<n->a=some ad->ad.block<B
theorem Ch.below (h:Ch w a n)(hb:Below w.heap.size w w'):Ch w' a n:=fun i hi=>by
 obtain⟨b,o,v,ha,h0,h1,hc⟩:=h i hi;exact⟨b,o,v,ha,h0,h1,Ab hb hc⟩
theorem Rd.below (h:Rd w B)(hb:Below w.heap.size w w'):Rd w' B:=by
 obtain⟨a,n,cap,p,t,h1,h2,h3,h4,h5⟩:=h;exact⟨a,n,cap,p,t,h1.below hb,h2,h3,h4.below hb,h5⟩
end
section
open Go Go.RowKit Go.BigFrame
variable{size:Int}{o:Opr}{p:Po}{v:Vo}
structure Hy (w:World)(pbx vbx kbx:Nat)(fv:Value)(ea:Option Addr)(en ec:Nat)(ex:List Ex)(b o:Nat)(id:Int):Prop where
 p:w.cell? ⟨pbx,2,none⟩=some (.slice ea en ec)
 ex:Bb w ea en ex
 v:w.cell? ⟨vbx,0,none⟩=some (.pointer (some ⟨b,o,none⟩))
 id:w.cell? ⟨b,o,none⟩=some (.int .i64 id)
 k:w.cell? ⟨kbx,0,none⟩=some fv
theorem Hy.below {w w':World}{pbx vbx kbx:Nat}{fv:Value}{ea:Option Addr}{en ec:Nat}{ex:List Ex}{b o:Nat}{id:Int}(h:Hy w pbx vbx kbx fv ea en ec ex b o id)(hb:Below w.heap.size w w'):Hy w' pbx vbx kbx fv ea en ec ex b o id:=
 ⟨Ab hb h.p,h.ex.below hb,Ab hb h.v,Ab hb h.id,Ab hb h.k⟩
end
section
open Go Go.RowKit Go.BigFrame Tryz
variable{rows:List VR}{B:Nat}{p:Po}{v:Value}{w w':World}
theorem BG.below (h:BG B w v p rows)(hb:Below w.heap.size w w'):BG B w' v p rows:=by
 obtain⟨ea,en,ec,va,vn,vc,ra,rn,rc,la,ln,lc,hv,h1,⟨h2,h3⟩,h4,h5,h6,h7,h8⟩:=h;exact⟨ea,en,ec,va,vn,vc,ra,rn,rc,la,ln,lc,hv,h1.below hb,⟨h2.below hb,h3.below hb⟩,h4.below hb,h5.below hb,h6,h7,dc_ h3 h8 hb⟩
theorem BG.mono {B':Nat}(h:BG B w v p rows)(hb:B'<=B):BG B' w v p rows:=by
 obtain⟨ea,en,ec,va,vn,vc,ra,rn,rc,la,ln,lc,hv,h1,⟨h2,h3⟩,h4,h5,h6,h7,h8⟩:=h;exact⟨ea,en,ec,va,vn,vc,ra,rn,rc,la,ln,lc,hv,h1.mono hb,⟨h2.mono hb,h3.mono hb⟩,h4.mono hb,h5.mono hb,h6,h7,h8⟩
theorem AZ.below {b n:Nat}{f:Ow->Int}(h:AZ w b n f)(hb:Below w.heap.size w w'):AZ w' b n f:=h.kept (row:=none) ⟨hb.os,hb.tape,hb.output,hb.size,fun k hk _=>hb.block k hk⟩ (by simp)
end
section
open Go Go.RowKit Go.BigFrame Tryz
variable{B n:Nat}{a:Option Addr}{w:World}
theorem Rd.lt (h:Rd w B):B<w.heap.size:=by
 obtain⟨a,n,cap,p,t,h1,_⟩:=h;exact h1.lt
end
section
open Go Go.RowKit Go.BigFrame Tryz
variable{α:Type}{its:List It}{l:List Vo}{i:Nat}{q:Po}{v:Value}{y:Vo}
def VG (v:Vo):Prop:=1<=v.id∧v.id<=1000000000∧nameB v.nm=true∧v.its.length<=6∧∀ x∈v.its,nameB x.nm=true∧Ac x.ps=true
structure CN (q:Po):Prop where
 vn:q.vs.length<=7
 g:∀ v∈q.vs,VG v
 nd:(q.vs.map (·.nm.toList)).Nodup
 el:q.ex.length<=60
 es:BP q.ex
 rl:q.rf.length<=200
 rs:Bw q.rf
 ll:q.lt.length<=200
 ls:Bw q.lt
theorem o2_ {l:List α}{a:α}(h:l[i]?=some a):l.set i a=l:=by
 refine List.ext_getElem? (fun j=>?_);rw[List.getElem?_set];split
 ·rename_i e;subst e;rw[h,if_pos (Zb.1 h).1]
 ·rfl
theorem CN.set (h:CN q){z:Vo}(hy:q.vs[i]?=some y)(hn:z.nm=y.nm)(hz:VG z){E:List Ex}(he:E.length<=60)(hs:BP E):CN {q with ex:=E,vs:=q.vs.set i z}:=by
 refine⟨by rw[List.length_set];exact h.vn,fun v hv=>?_,?_,he,hs,h.rl,h.rs,h.ll,h.ls⟩
 ·rcases List.mem_or_eq_of_mem_set hv with hv | rfl
  ·exact h.g v hv
  ·exact hz
 ·rw[List.map_set,o2_]
  ·exact h.nd
  ·rw[List.getElem?_map,hy,hn];rfl
end
section
open Go Go.RowKit Go.BigFrame Tryz
variable{B n r:Nat}{a:Option Addr}{w w':World}
theorem Ch.grown (h:Ch w a n)(hg:w.grownBy w' (some r))(hr:∀ ad,0<n->a=some ad->ad.block≠r):Ch w' a n:=fun i hi=>by
 obtain⟨b,o,v,ha,h0,h1,hc⟩:=h i hi;exact⟨b,o,v,ha,h0,h1,hg.cell hc (by have:=hr _ (by omega) ha;simpa using this)⟩
theorem Rd.grown (h:Rd w B)(hg:w.grownBy w' (some r))(hr:B<r):Rd w' B:=by
 obtain⟨a,n,cap,p,t,h1,h2,h3,h4,h5⟩:=h;exact⟨a,n,cap,p,t,h1.grown hg (by omega),h2,h3,h4.grown hg (fun ad h0 ha=>by have:=h5 ad h0 ha;omega),h5⟩
theorem h5_ {o:Opr}(h:opB o=true):o.k=1∨o.k=2∨o.k=3∨o.k=4∨o.k=5∨o.k=6∨o.k=7∨o.k=8∨o.k=9∨o.k=10:=by
 unfold opB at h
 repeat' split at h
 all_goals first | omega | cases h
theorem k7_:AB ⟨0,0,[],[],[],[]⟩:=⟨Zg _,(fun e he=>by cases he),Zg _,(fun e he=>by cases he),Zg _,(fun e he=>by cases he),Zg _,(fun e he=>by cases he)⟩
end
section
open Go Go.RowKit
variable{l:List Pt}
theorem fl_ {e:List Ex}{s:ByteArray}(h:Aj l e=some s):Ac l=true∧Ao 400 e=true:=by
 unfold Aj at h;split at h
 ·assumption
 ·cases h
end
section
open Go Go.RowKit Go.BigFrame Tryz
variable{rows:List VR}{B:Nat}{p:Po}{v:Value}{w w':World}
theorem BG.tyP {row:Option Nat}(h:BG B w v p rows)(hg:w.grownBy w' row)(hr:By w row 28):BG B w' v p rows:=by
 obtain⟨ea,en,ec,va,vn,vc,ra,rn,rc,la,ln,lc,hv,h1,⟨h2,h3⟩,h4,h5,h6,h7,h8⟩:=h;exact⟨ea,en,ec,va,vn,vc,ra,rn,rc,la,ln,lc,hv,h1.ty hg hr (by decide),⟨h2.ty hg hr (by decide),h3.ty hg hr (by decide) (by decide)⟩,h4.ty hg hr (by decide),h5.ty hg hr (by decide),h6,h7,kp_ h3 h8 hg hr (by decide)⟩
end
section
open Go Go.RowKit Go.BigFrame
variable{s:ByteArray}{size:Int}{x:It}{e e':List Ex}{l m:List Pt}{vs:List Vo}{o:Opr}{p q:Po}{v:Vo}
theorem oX_ {p q:Ct}(h:FD p q=true):p=q:=by
 unfold FD at h;simp only[Zf,beq_iff_eq] at h;obtain⟨o,n⟩:=p;obtain⟨o',n'⟩:=q;simp only at h;rw[aM_.1 h.1,h.2]
theorem i2_:∀ {l m:List Ct},Bn l m=true->l=m
 |[],[],_=>rfl
 |[],_::_,h=>by simp[Bn] at h
 |_::_,[],h=>by simp[Bn] at h
 |x::r,y::s,h=>by
  simp only[Bn,Zf] at h;rw[oX_ h.1,i2_ h.2]
theorem nS_ (h:Ai p=true):AQ p.rf p.lt=AA p.vs:=by
 have h1:=(dv_ h).1;simp only[Ai,Zf] at h;have h2:=h.1.2;rw[h1] at h2;exact i2_ h2
theorem pS_:∀ {l:List Ex} {n m:Int},m<=n->xgo size n l=true->xgo size m l=true
 |[],_,_,_,_=>rfl
 |e::r,n,m,h,hx=>by
  simp only[xgo,Zf,ZU] at hx ⊢;exact⟨⟨⟨hx.1.1.1,by omega⟩,hx.1.2⟩,hx.2⟩
theorem h7_ (f:Ex->Bool):∀ {l:List Ex} {n:Int},xgo size n l=true->xgo size n (l.filter f)=true
 |[],_,_=>rfl
 |e::r,n,hx=>by
  simp only[xgo,Zf,ZU] at hx;have ih:=h7_ f hx.2;rw[ZH];split
  ·simp only[xgo,Zf,ZU];exact⟨hx.1,ih⟩
  ·exact pS_ (by have:=hx.1.1.2;omega) ih
theorem ga_ (f:Ex->Bool){l:List Ex}(h:Ao size l=true):Ao size (l.filter f)=true:=by
 simp only[Ao,Zf,ZU] at h ⊢
 have:=Yc f l
 exact⟨⟨h.1.1,by omega⟩,h7_ f h.2⟩
theorem fm_ {f:Ex->Bool}{a:Int}:∀ {l:List Ex},(∀ x∈l,x.a=a->f x=true)->AK a (l.filter f)=AK a l
 |[],_=>rfl
 |e::r,h=>by
  have ih:=fm_ (f:=f) (a:=a) (l:=r) (fun x hx=>h x (by simp[hx]));rw[ZH];by_cases hf:f e=true
  ·rw[if_pos hf];simp only[AK,ih]
  ·rw[if_neg hf,ih];have ha:(e.a==a)=false:=ZV.2 (fun he=>hf (h e (by simp) he));simp only[AK,ha,Zj,if_false]
theorem h8_ {f:Ex->Bool}:∀ (l:List Pt) (acc:ByteArray),(∀ q∈l,q.a≠0->∀ x∈e,x.a=q.a->f x=true)->cgo (e.filter f) acc l=cgo e acc l
 |[],_,_=>rfl
 |q::r,acc,h=>by
  have hq:pieceO (e.filter f) q=pieceO e q:=by
   unfold pieceO;by_cases h0:q.a=0
   ·simp[h0]
   ·rw[fm_ (h q (by simp) h0)]
  unfold cgo;rw[hq]
  cases pieceO e q with
  |none=>rfl
  |some d=>exact h8_ r _ (fun z hz=>h z (by simp[hz]))
theorem h9_ {f:Ex->Bool}{ps:List Pt}(hs:Ao 400 e=true)(h:∀ q∈ps,q.a≠0->∀ x∈e,x.a=q.a->f x=true):Aj ps (e.filter f)=Aj ps e:=by
 unfold Aj;rw[h8_ ps _ h];simp only[hs,ga_ f hs,and_true]
theorem lc_:∀ {l:List It} {q:Option It},(∀ x∈l,Aj x.ps e'=Aj x.ps e)->igo e' q l=igo e q l
 |[],_,_=>rfl
 |x::r,q,h=>by
  simp only[igo];rw[h x (by simp),lc_ (fun y hy=>h y (by simp[hy]))]
theorem ld_ {next:Int}:∀ {l:List Vo} {last:Int},(∀ v∈l,∀ x∈v.its,Aj x.ps e'=Aj x.ps e)->vgo next e' last l=vgo next e last l
 |[],_,_=>rfl
 |v::r,last,h=>by
  simp only[vgo,itemsB];rw[lc_ (h v (by simp)),ld_ (fun y hy=>h y (by simp[hy]))]
theorem m0_:∀ {l:List Ct} {c:Ct},(∀ x∈l,x.n=1)->c∈l->1<=tot c.o l
 |[],_,_,h=>by cases h
 |y::r,c,h1,h=>by
  have h0:=(cy_ (l:=r) (fun x hx=>h1 x (by simp[hx])) c.o).1;have hy:=h1 y (by simp);simp only[tot];rcases Zn.1 h with rfl | h
  ·rw[a3_,if_pos rfl];omega
  ·have:=m0_ (fun x hx=>h1 x (by simp[hx])) h
   split<;>omega
theorem bR_ (l:List Vo):Br (AA l)∧Bi (AA l)∧∀ o,tot o (AA l)=tot o (A7 l):=by
 obtain⟨h1,h2,h3⟩:=eL_ (l:=[]) (more:=A7 l) YT (fun c hc=>by cases hc) (hO_ l);exact⟨h1,h2,fun o=>by rw[AA,h3];simp[tot]⟩
theorem oY_ {l:List Vo}{q:Pt}(hv:v∈l)(hx:x∈v.its)(hq:q∈x.ps)(h0:q.a≠0):∃ c∈AA l,c.o=⟨q.a,v.id,x.nm⟩:=by
 have hm:(⟨⟨q.a,v.id,x.nm⟩,1⟩:Ct)∈A7 l:=ZL.2 ⟨v,hv,ZL.2 ⟨x,hx,ZT.2 ⟨q,YG.2 ⟨hq,by simp[h0]⟩,rfl⟩⟩⟩;have h1:=m0_ (fZ_ l) hm;rw[<-(bR_ l).2.2] at h1;by_cases hc:∃ c∈AA l,c.o=⟨q.a,v.id,x.nm⟩
 ·exact hc
 ·exfalso
  have:=bB_ (o:=⟨q.a,v.id,x.nm⟩) (l:=AA l) (fun c hm e=>hc ⟨c,hm,e⟩)
  simp only at h1;omega
theorem iy_ (hp:Ai p=true)(hv:v∈p.vs)(hx:x∈v.its):Aj x.ps (flushS p).ex=Aj x.ps p.ex:=by
 refine h9_ (iI_ (aQ_ hp).1) (fun q hq h0 e _ he=>?_);obtain⟨c,hc,ho⟩:=oY_ hv hx hq h0;rw[nS_ hp];exact ZN.2 ⟨c,hc,by rw[ho,he];simp⟩
theorem le_ (hp:Ai p=true):Ai (flushS p)=true:=by
 have hr:=c6_ hp;have hf:=(dv_ hp).1;have hb:=ld_ (next:=p.next) (last:=0) (l:=p.vs) (e:=p.ex) (e':=(flushS p).ex) (fun v hv x hx=>iy_ hp hv hx);have he:=hp;simp only[Ai,CJ,Zf,ZU] at hp ⊢;obtain⟨⟨⟨⟨⟨⟨h1,h2⟩,h3⟩,h4⟩,h5⟩,h6⟩,h7⟩:=hp;refine⟨⟨⟨⟨⟨⟨ga_ _ h1,h2⟩,h3⟩,h4.1,?_⟩,h5⟩,?_⟩,?_⟩
 ·exact hb.trans h4.2
 ·have e:Aq (flushS p).rf (flushS p).lt=some (AQ p.rf p.lt):=by
   show Aq (AQ p.rf p.lt) []=_;unfold Aq;rw[if_pos ⟨hr,rfl⟩];exact if_pos hr
  rw[hf] at h6;rw[e];exact h6
 ·simp only[Ce,Zf,List.all_eq_true] at h7 ⊢;refine⟨fun x hx=>?_,fun c hc=>?_⟩
  ·have:=(YG.1 hx).2
   obtain⟨c,hc,e⟩:=ZN.1 this;exact ZN.2 ⟨c,Yu _ hc,e⟩
  ·have ha:c∈AQ p.rf p.lt:=by
    rcases Zs.1 hc with h | h
    ·exact h
    ·cases h
   obtain⟨d,hd,e⟩:∃ d∈p.rf++p.lt,c.o=d.o:=by
    rcases eI_ ha with⟨d,hd,e⟩ | ⟨d,hd,e⟩
    ·exact⟨d,Yu _ hd,e⟩
    ·exact⟨d,Ym _ hd,e⟩
   obtain⟨x,hx,e2⟩:=ZN.1 (h7.2 d hd);refine ZN.2 ⟨x,YG.2 ⟨hx,ZN.2 ⟨c,ha,?_⟩⟩,?_⟩
   ·have:x.a=d.o.a:=by simpa using e2
    rw[e,this];simp
   ·rw[e];exact e2
end
section
open Go Go.RowKit
variable{t u:Int}{l:List Pt}
theorem g8_ (h:t<=u):∀ (l:List Pt) (st:Int),slp u t st l=[]
 |[],_=>rfl
 |p::r,st=>by rw[fo_ (by omega)];exact g8_ h r _
theorem mZ_ (h:u<=t):∀ (l:List Pt) (st:Int),(∀ p∈l,Ag p=true)->Af (slp u t st l)=max st (min t (st+Af l))-max st (min u (st+Af l))
 |[],st,_=>by simp only[slp,Af];omega
 |p::r,st,hp=>by
  have hn:=av_ (hp p (by simp));have hr:∀ q∈r,Ag q=true:=fun q hq=>hp q (by simp[hq]);have ha:=az_ r hr;have ih:=mZ_ h r (st+p.n) hr;by_cases hx:max (u-st) 0<min (t-st) p.n
  ·rw[eN_ rfl rfl hx];simp only[Af,gf_,ih];omega
  ·rw[fo_ hx];simp only[Af,ih];omega
theorem pR_ {p:Pt}(h:Ag p=true):Be p 0 p.n=p:=by
 obtain⟨a,f,n⟩:=p;by_cases ha:a=0
 ·simp[Ag,ha] at h;simp[Be,ha,h.1]
 ·simp[Be,ha]
theorem g9_:∀ (l:List Pt) (st:Int),u<=st->st+Af l<=t->(∀ p∈l,Ag p=true)->slp u t st l=l
 |[],_,_,_,_=>rfl
 |p::r,st,hu,ht,hp=>by
  have ha:=hp p (by simp);have hn:=av_ ha;have hr:∀ q∈r,Ag q=true:=fun q hq=>hp q (by simp[hq]);have hb:=az_ r hr;simp only[Af] at ht;rw[eN_ (x:=0) (y:=p.n) (by omega) (by omega) (by omega),pR_ ha,g9_ r _ (by omega) (by omega) hr]
theorem eJ_ (h:Ac l=true)(u t:Int):Ac (slp u t 0 l)=true:=by
 have h1:=b8_ h u t;have h2:=(hT_ u t l 0 (fun p hp=>av_ ((ae_ h).2.1 p hp))).2.2.1;have h3:=(ae_ h).1;simp only[Ac,Zf,ZU];exact⟨by omega,h1⟩
theorem EI (h:Ac l=true)(h0:0<=u)(h1:u<=t)(h2:t<=Af l):AY l u t=some (slp u t 0 l):=by
 have:=oC_ l u t
 unfold AY;rw[this,if_pos ⟨h,h0,by omega,h1,h2⟩,fD_ (b8_ h u t)]
end
end Go.Proofs.YtdmeabghpchckaaGreatDoor
