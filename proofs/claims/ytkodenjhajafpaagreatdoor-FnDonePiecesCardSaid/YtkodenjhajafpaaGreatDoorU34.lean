/- Ops that are done when they are tried, by the model. -/
import Derived.Laws.EntriesVeiled
import Derived.Test.YtkodenjhajafpaaGreatDoorU23
import Derived.Test.YtkodenjhajafpaaGreatDoorU29
set_option maxHeartbeats 20000000
set_option maxRecDepth 100000
namespace Go.Proofs.YtkodenjhajafpaaGreatDoor
section
open Go Go.RowKit Go.BigFrame Tryz
variable{B n:Nat}{a:Option Addr}{w w':World}
def Co (w:World)(a:Option Addr)(n:Nat):Prop:=∀ i,i<n->∃ b o,∃ v:Int,a=some ⟨b,o,none⟩∧0<=v∧v<=255∧w.cell? ⟨b,o+i,none⟩=some (.int .u8 v)
def Rd (w:World)(B:Nat):Prop:=∃ a n cap p,∃ t:TypeId,Blk w B #[.slice a n cap,.int .i64 ((p:Nat):Int)] t∧p<=n∧n<=1048576∧Co w a n∧∀ ad,0<n->a=some ad->ad.block<B
theorem Co.below (h:Co w a n)(hb:Below w.heap.size w w'):Co w' a n:=fun i hi=>by
 obtain⟨b,o,v,ha,h0,h1,hc⟩:=h i hi;exact⟨b,o,v,ha,h0,h1,Ab hb hc⟩
theorem Rd.below (h:Rd w B)(hb:Below w.heap.size w w'):Rd w' B:=by
 obtain⟨a,n,cap,p,t,h1,h2,h3,h4,h5⟩:=h;exact⟨a,n,cap,p,t,h1.below hb,h2,h3,h4.below hb,h5⟩
end
section
open Go Go.RowKit Go.BigFrame Tryz
variable{rows:List VR}{B:Nat}{p:Po}{v:Value}{w w':World}
theorem BL.below (h:BL B w v p rows)(hb:Below w.heap.size w w'):BL B w' v p rows:=by
 obtain⟨ea,en,ec,va,vn,vc,ra,rn,rc,la,ln,lc,hv,h1,⟨h2,h3⟩,h4,h5,h6,h7,h8⟩:=h;exact⟨ea,en,ec,va,vn,vc,ra,rn,rc,la,ln,lc,hv,h1.below hb,⟨h2.below hb,h3.below hb⟩,h4.below hb,h5.below hb,h6,h7,dc_ h3 h8 hb⟩
theorem BL.mono {B':Nat}(h:BL B w v p rows)(hb:B'<=B):BL B' w v p rows:=by
 obtain⟨ea,en,ec,va,vn,vc,ra,rn,rc,la,ln,lc,hv,h1,⟨h2,h3⟩,h4,h5,h6,h7,h8⟩:=h;exact⟨ea,en,ec,va,vn,vc,ra,rn,rc,la,ln,lc,hv,h1.mono hb,⟨h2.mono hb,h3.mono hb⟩,h4.mono hb,h5.mono hb,h6,h7,h8⟩
theorem A0.below {b n:Nat}{f:Ow->Int}(h:A0 w b n f)(hb:Below w.heap.size w w'):A0 w' b n f:=h.kept (row:=none) ⟨hb.os,hb.tape,hb.output,hb.size,fun k hk _=>hb.block k hk⟩ (by simp)
end
section
open Go Go.RowKit Go.BigFrame Tryz
variable{B n:Nat}{a:Option Addr}{w:World}
theorem Rd.lt (h:Rd w B):B<w.heap.size:=by
 obtain⟨a,n,cap,p,t,h1,_⟩:=h;exact h1.lt
end
section
open Go Go.RowKit Go.BigFrame Tryz
variable{α:Type}{its:List It}{l:List Vo}{i:Nat}{q:Po}{v:Value}{y:Vo}
def VG (v:Vo):Prop:=1<=v.id∧v.id<=1000000000∧nameB v.nm=true∧v.its.length<=6∧∀ x∈v.its,nameB x.nm=true∧Ac x.ps=true
structure CW (q:Po):Prop where
 vn:q.vs.length<=7
 g:∀ v∈q.vs,VG v
 nd:(q.vs.map (·.nm.toList)).Nodup
 el:q.ex.length<=60
 es:BT q.ex
 rl:q.rf.length<=200
 rs:Bz q.rf
 ll:q.lt.length<=200
 ls:Bz q.lt
theorem o2_ {l:List α}{a:α}(h:l[i]?=some a):l.set i a=l:=by
 refine List.ext_getElem? (fun j=>?_);rw[List.getElem?_set];split
 ·rename_i e;subst e;rw[h,if_pos (Zb.1 h).1]
 ·rfl
theorem CW.set (h:CW q){z:Vo}(hy:q.vs[i]?=some y)(hn:z.nm=y.nm)(hz:VG z){E:List Ex}(he:E.length<=60)(hs:BT E):CW {q with ex:=E,vs:=q.vs.set i z}:=by
 refine⟨by rw[List.length_set];exact h.vn,fun v hv=>?_,?_,he,hs,h.rl,h.rs,h.ll,h.ls⟩
 ·rcases List.mem_or_eq_of_mem_set hv with hv | rfl
  ·exact h.g v hv
  ·exact hz
 ·rw[List.map_set,o2_]
  ·exact h.nd
  ·rw[List.getElem?_map,hy,hn];rfl
end
section
open Go Go.RowKit Go.BigFrame Tryz
variable{B n r:Nat}{a:Option Addr}{w w':World}
theorem Co.grown (h:Co w a n)(hg:w.grownBy w' (some r))(hr:∀ ad,0<n->a=some ad->ad.block≠r):Co w' a n:=fun i hi=>by
 obtain⟨b,o,v,ha,h0,h1,hc⟩:=h i hi;exact⟨b,o,v,ha,h0,h1,hg.cell hc (by have:=hr _ (by omega) ha;simpa using this)⟩
theorem Rd.grown (h:Rd w B)(hg:w.grownBy w' (some r))(hr:B<r):Rd w' B:=by
 obtain⟨a,n,cap,p,t,h1,h2,h3,h4,h5⟩:=h;exact⟨a,n,cap,p,t,h1.grown hg (by omega),h2,h3,h4.grown hg (fun ad h0 ha=>by have:=h5 ad h0 ha;omega),h5⟩
theorem h5_ {o:Opr}(h:opB o=true):o.k=1∨o.k=2∨o.k=3∨o.k=4∨o.k=5∨o.k=6∨o.k=7∨o.k=8∨o.k=9∨o.k=10:=by
 unfold opB at h
 repeat' split at h
 all_goals first | omega | cases h
theorem k7_:AB ⟨0,0,[],[],[],[]⟩:=⟨Zg _,(fun e he=>by cases he),Zg _,(fun e he=>by cases he),Zg _,(fun e he=>by cases he),Zg _,(fun e he=>by cases he)⟩
end
section
open Go Go.RowKit
variable{t u:Int}{l:List Pt}
theorem fl_ {e:List Ex}{s:ByteArray}(h:Ai l e=some s):Ac l=true∧Ap 400 e=true:=by
 unfold Ai at h;split at h
 ·assumption
 ·cases h
theorem g8_ (h:t<=u):∀ (l:List Pt) (st:Int),slp u t st l=[]
 |[],_=>rfl
 |p::r,st=>by rw[fo_ (by omega)];exact g8_ h r _
theorem mZ_ (h:u<=t):∀ (l:List Pt) (st:Int),(∀ p∈l,Ah p=true)->Ae (slp u t st l)=max st (min t (st+Ae l))-max st (min u (st+Ae l))
 |[],st,_=>by simp only[slp,Ae];omega
 |p::r,st,hp=>by
  have hn:=av_ (hp p (by simp));have hr:∀ q∈r,Ah q=true:=fun q hq=>hp q (by simp[hq]);have ha:=az_ r hr;have ih:=mZ_ h r (st+p.n) hr;by_cases hx:max (u-st) 0<min (t-st) p.n
  ·rw[eN_ rfl rfl hx];simp only[Ae,gf_,ih];omega
  ·rw[fo_ hx];simp only[Ae,ih];omega
theorem pR_ {p:Pt}(h:Ah p=true):Bf p 0 p.n=p:=by
 obtain⟨a,f,n⟩:=p;by_cases ha:a=0
 ·simp[Ah,ha] at h;simp[Bf,ha,h.1]
 ·simp[Bf,ha]
theorem g9_:∀ (l:List Pt) (st:Int),u<=st->st+Ae l<=t->(∀ p∈l,Ah p=true)->slp u t st l=l
 |[],_,_,_,_=>rfl
 |p::r,st,hu,ht,hp=>by
  have ha:=hp p (by simp);have hn:=av_ ha;have hr:∀ q∈r,Ah q=true:=fun q hq=>hp q (by simp[hq]);have hb:=az_ r hr;simp only[Ae] at ht;rw[eN_ (x:=0) (y:=p.n) (by omega) (by omega) (by omega),pR_ ha,g9_ r _ (by omega) (by omega) hr]
theorem eJ_ (h:Ac l=true)(u t:Int):Ac (slp u t 0 l)=true:=by
 have h1:=b8_ h u t;have h2:=(hT_ u t l 0 (fun p hp=>av_ ((ae_ h).2.1 p hp))).2.2.1;have h3:=(ae_ h).1;simp only[Ac,Zf,ZU];exact⟨by omega,h1⟩
end
section
open Go Go.RowKit Go.BigFrame Tryz
variable{rows:List VR}{B:Nat}{p:Po}{v:Value}{w w':World}
theorem BL.tyP {row:Option Nat}(h:BL B w v p rows)(hg:w.grownBy w' row)(hr:BC w row 28):BL B w' v p rows:=by
 obtain⟨ea,en,ec,va,vn,vc,ra,rn,rc,la,ln,lc,hv,h1,⟨h2,h3⟩,h4,h5,h6,h7,h8⟩:=h;exact⟨ea,en,ec,va,vn,vc,ra,rn,rc,la,ln,lc,hv,h1.ty hg hr (by decide),⟨h2.ty hg hr (by decide),h3.ty hg hr (by decide) (by decide)⟩,h4.ty hg hr (by decide),h5.ty hg hr (by decide),h6,h7,kp_ h3 h8 hg hr (by decide)⟩
end
section
open Go Go.RowKit
variable{t u:Int}{l:List Pt}
theorem EO (h:Ac l=true)(h0:0<=u)(h1:u<=t)(h2:t<=Ae l):AZ l u t=some (slp u t 0 l):=by
 have:=oC_ l u t
 unfold AZ;rw[this,if_pos ⟨h,h0,by omega,h1,h2⟩,fD_ (b8_ h u t)]
theorem nL_ {m o:List Pt}(h:BJ l t m=some o):Ac l=true∧0<=t∧t<=100∧Ac m=true∧Ac o=true∧o=Ak [] (Bq l t m):=by
 rw[mT_] at h;unfold FY at h;split at h
 ·rename_i hh;obtain rfl:=Zi h;exact⟨hh.1.1,hh.1.2.1,hh.1.2.2.1,hh.1.2.2.2,hh.2,du_ hh.1.1⟩
 ·cases h
end
section
open Go Go.RowKit Go.BigFrame
variable{file s vol:ByteArray}{at' size:Int}{x:It}{e e':List Ex}{l m:List Pt}{vs:List Vo}{o:Opr}{p q:Po}{v:Vo}
theorem mj_ (hl:Ac l=true)(hm:Ac m=true)(h0:0<=at')(h1:at'<=100):BJ l at' m=if Ac (AH l at' m)=true then some (AH l at' m) else none:=by
 rw[mT_];unfold FY;by_cases h:Ac (AH l at' m)=true
 ·rw[if_pos ⟨⟨hl,h0,h1,hm⟩,h⟩,if_pos h]
 ·rw[if_neg (fun hc=>h hc.2),if_neg h]
theorem k8_ (x:It):∀ (l:List It) (st:List It×Bool),(st.2=true->x∈st.1)->((l.foldl (Bj x) st).2=true->x∈(l.foldl (Bj x) st).1)
 |[],_,h=>h
 |y::r,st,h=>by
  rw[YE];refine k8_ x r _ (fun hd=>?_);simp only[Bj] at hd ⊢;rw[Zs];obtain⟨a,d⟩:=st
  cases d
  ·simp only[Bool.false_or] at hd;simp[hd]
  ·left;simpa using h rfl
theorem oR_ (x:It)(l:List It):x∈A7 x l:=by
 unfold A7 DN;split
 ·rename_i h;exact k8_ x l ([],false) (fun h=>by cases h) h
 ·simp
theorem nO_ (hk:o.k=10):Ag p o=(match Aq p.vs o.vol o.file with | none=>(3,p.ex,[]) | some q=>(0,p.ex,AH q o.at' [⟨0,0,o.ln⟩])):=by
 unfold Ag;simp[hk];rfl
theorem oU_ (hk:o.k=3):Ag p o=(match Aq p.vs o.vol o.file with | none=>(3,p.ex,[]) | some q=>if o.ln > Ae q then (0,p.ex,AH q (Ae q) [⟨0,0,o.ln-Ae q⟩]) else (0,p.ex,Ak [] (slp 0 o.ln 0 q))):=by
 unfold Ag;simp[hk];rfl
theorem oX_ {p q:Ct}(h:FJ p q=true):p=q:=by
 unfold FJ at h;simp only[Zf,beq_iff_eq] at h;obtain⟨o,n⟩:=p;obtain⟨o',n'⟩:=q;simp only at h;rw[aM_.1 h.1,h.2]
theorem i2_:∀ {l m:List Ct},Bp l m=true->l=m
 |[],[],_=>rfl
 |[],_::_,h=>by simp[Bp] at h
 |_::_,[],h=>by simp[Bp] at h
 |x::r,y::s,h=>by
  simp only[Bp,Zf] at h;rw[oX_ h.1,i2_ h.2]
theorem nS_ (h:Aj p=true):AQ p.rf p.lt=AA p.vs:=by
 have h1:=(dv_ h).1;simp only[Aj,Zf] at h;have h2:=h.1.2;rw[h1] at h2;exact i2_ h2
theorem pS_:∀ {l:List Ex} {n m:Int},m<=n->xgo size n l=true->xgo size m l=true
 |[],_,_,_,_=>rfl
 |e::r,n,m,h,hx=>by
  simp only[xgo,Zf,ZU] at hx ⊢;exact⟨⟨⟨hx.1.1.1,by omega⟩,hx.1.2⟩,hx.2⟩
theorem h7_ (f:Ex->Bool):∀ {l:List Ex} {n:Int},xgo size n l=true->xgo size n (l.filter f)=true
 |[],_,_=>rfl
 |e::r,n,hx=>by
  simp only[xgo,Zf,ZU] at hx;have ih:=h7_ f hx.2;rw[ZH];split
  ·simp only[xgo,Zf,ZU];exact⟨hx.1,ih⟩
  ·exact pS_ (by have:=hx.1.1.2;omega) ih
theorem ga_ (f:Ex->Bool){l:List Ex}(h:Ap size l=true):Ap size (l.filter f)=true:=by
 simp only[Ap,Zf,ZU] at h ⊢
 have:=Yc f l
 exact⟨⟨h.1.1,by omega⟩,h7_ f h.2⟩
theorem fm_ {f:Ex->Bool}{a:Int}:∀ {l:List Ex},(∀ x∈l,x.a=a->f x=true)->AK a (l.filter f)=AK a l
 |[],_=>rfl
 |e::r,h=>by
  have ih:=fm_ (f:=f) (a:=a) (l:=r) (fun x hx=>h x (by simp[hx]));rw[ZH];by_cases hf:f e=true
  ·rw[if_pos hf];simp only[AK,ih]
  ·rw[if_neg hf,ih];have ha:(e.a==a)=false:=ZV.2 (fun he=>hf (h e (by simp) he));simp only[AK,ha,Zj,if_false]
theorem h8_ {f:Ex->Bool}:∀ (l:List Pt) (acc:ByteArray),(∀ q∈l,q.a≠0->∀ x∈e,x.a=q.a->f x=true)->cgo (e.filter f) acc l=cgo e acc l
 |[],_,_=>rfl
 |q::r,acc,h=>by
  have hq:pieceO (e.filter f) q=pieceO e q:=by
   unfold pieceO;by_cases h0:q.a=0
   ·simp[h0]
   ·rw[fm_ (h q (by simp) h0)]
  unfold cgo;rw[hq]
  cases pieceO e q with
  |none=>rfl
  |some d=>exact h8_ r _ (fun z hz=>h z (by simp[hz]))
theorem h9_ {f:Ex->Bool}{ps:List Pt}(hs:Ap 400 e=true)(h:∀ q∈ps,q.a≠0->∀ x∈e,x.a=q.a->f x=true):Ai ps (e.filter f)=Ai ps e:=by
 unfold Ai;rw[h8_ ps _ h];simp only[hs,ga_ f hs,and_true]
theorem lc_:∀ {l:List It} {q:Option It},(∀ x∈l,Ai x.ps e'=Ai x.ps e)->igo e' q l=igo e q l
 |[],_,_=>rfl
 |x::r,q,h=>by
  simp only[igo];rw[h x (by simp),lc_ (fun y hy=>h y (by simp[hy]))]
theorem ld_ {next:Int}:∀ {l:List Vo} {last:Int},(∀ v∈l,∀ x∈v.its,Ai x.ps e'=Ai x.ps e)->vgo next e' last l=vgo next e last l
 |[],_,_=>rfl
 |v::r,last,h=>by
  simp only[vgo,itemsB];rw[lc_ (h v (by simp)),ld_ (fun y hy=>h y (by simp[hy]))]
theorem m0_:∀ {l:List Ct} {c:Ct},(∀ x∈l,x.n=1)->c∈l->1<=tot c.o l
 |[],_,_,h=>by cases h
 |y::r,c,h1,h=>by
  have h0:=(cy_ (l:=r) (fun x hx=>h1 x (by simp[hx])) c.o).1;have hy:=h1 y (by simp);simp only[tot];rcases Zn.1 h with rfl | h
  ·rw[a3_,if_pos rfl];omega
  ·have:=m0_ (fun x hx=>h1 x (by simp[hx])) h
   split<;>omega
theorem bR_ (l:List Vo):Bv (AA l)∧Bk (AA l)∧∀ o,tot o (AA l)=tot o (A9 l):=by
 obtain⟨h1,h2,h3⟩:=eL_ (l:=[]) (more:=A9 l) YT (fun c hc=>by cases hc) (hO_ l);exact⟨h1,h2,fun o=>by rw[AA,h3];simp[tot]⟩
theorem oY_ {l:List Vo}{q:Pt}(hv:v∈l)(hx:x∈v.its)(hq:q∈x.ps)(h0:q.a≠0):∃ c∈AA l,c.o=⟨q.a,v.id,x.nm⟩:=by
 have hm:(⟨⟨q.a,v.id,x.nm⟩,1⟩:Ct)∈A9 l:=ZL.2 ⟨v,hv,ZL.2 ⟨x,hx,ZT.2 ⟨q,YG.2 ⟨hq,by simp[h0]⟩,rfl⟩⟩⟩;have h1:=m0_ (fZ_ l) hm;rw[<-(bR_ l).2.2] at h1;by_cases hc:∃ c∈AA l,c.o=⟨q.a,v.id,x.nm⟩
 ·exact hc
 ·exfalso
  have:=bB_ (o:=⟨q.a,v.id,x.nm⟩) (l:=AA l) (fun c hm e=>hc ⟨c,hm,e⟩)
  simp only at h1;omega
theorem iy_ (hp:Aj p=true)(hv:v∈p.vs)(hx:x∈v.its):Ai x.ps (flushS p).ex=Ai x.ps p.ex:=by
 refine h9_ (iI_ (aQ_ hp).1) (fun q hq h0 e _ he=>?_);obtain⟨c,hc,ho⟩:=oY_ hv hx hq h0;rw[nS_ hp];exact ZN.2 ⟨c,hc,by rw[ho,he];simp⟩
theorem le_ (hp:Aj p=true):Aj (flushS p)=true:=by
 have hr:=c6_ hp;have hf:=(dv_ hp).1;have hb:=ld_ (next:=p.next) (last:=0) (l:=p.vs) (e:=p.ex) (e':=(flushS p).ex) (fun v hv x hx=>iy_ hp hv hx);have he:=hp;simp only[Aj,CT,Zf,ZU] at hp ⊢;obtain⟨⟨⟨⟨⟨⟨h1,h2⟩,h3⟩,h4⟩,h5⟩,h6⟩,h7⟩:=hp;refine⟨⟨⟨⟨⟨⟨ga_ _ h1,h2⟩,h3⟩,h4.1,?_⟩,h5⟩,?_⟩,?_⟩
 ·exact hb.trans h4.2
 ·have e:Ar (flushS p).rf (flushS p).lt=some (AQ p.rf p.lt):=by
   show Ar (AQ p.rf p.lt) []=_;unfold Ar;rw[if_pos ⟨hr,rfl⟩];exact if_pos hr
  rw[hf] at h6;rw[e];exact h6
 ·simp only[Cl,Zf,List.all_eq_true] at h7 ⊢;refine⟨fun x hx=>?_,fun c hc=>?_⟩
  ·have:=(YG.1 hx).2
   obtain⟨c,hc,e⟩:=ZN.1 this;exact ZN.2 ⟨c,Yu _ hc,e⟩
  ·have ha:c∈AQ p.rf p.lt:=by
    rcases Zs.1 hc with h | h
    ·exact h
    ·cases h
   obtain⟨d,hd,e⟩:∃ d∈p.rf++p.lt,c.o=d.o:=by
    rcases eI_ ha with⟨d,hd,e⟩ | ⟨d,hd,e⟩
    ·exact⟨d,Yu _ hd,e⟩
    ·exact⟨d,Ym _ hd,e⟩
   obtain⟨x,hx,e2⟩:=ZN.1 (h7.2 d hd);refine ZN.2 ⟨x,YG.2 ⟨hx,ZN.2 ⟨c,ha,?_⟩⟩,?_⟩
   ·have:x.a=d.o.a:=by simpa using e2
    rw[e,this];simp
   ·rw[e];exact e2
end
end Go.Proofs.YtkodenjhajafpaaGreatDoor
