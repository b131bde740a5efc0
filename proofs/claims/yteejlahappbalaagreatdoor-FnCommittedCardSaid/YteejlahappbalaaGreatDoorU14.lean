/- Ops that are done when they are tried, by the model. -/
import Derived.Laws.EntriesVeiled
import Derived.Test.YteejlahappbalaaGreatDoorU13
set_option maxHeartbeats 20000000
set_option maxRecDepth 100000
namespace Go.Proofs.YteejlahappbalaaGreatDoor
section
open Go Go.RowKit Go.BigFrame Tryz
variable{B n r:Nat}{a:Option Addr}{w w':World}
def DT (w:World)(a:Option Addr)(n:Nat):Prop:=∀ i,i<n->∃ b o,∃ v:Int,a=some ⟨b,o,none⟩∧0<=v∧v<=255∧w.cell? ⟨b,o+i,none⟩=some (.int .u8 v)
def Rd (w:World)(B:Nat):Prop:=∃ a n cap p,∃ t:TypeId,Blk w B #[.slice a n cap,.int .i64 ((p:Nat):Int)] t∧p<=n∧n<=1048576∧DT w a n∧∀ ad,0<n->a=some ad->ad.block<B
theorem Rd.lt (h:Rd w B):B<w.heap.size:=by
 obtain⟨a,n,cap,p,t,h1,_⟩:=h;exact h1.lt
theorem DT.below (h:DT w a n)(hb:Below w.heap.size w w'):DT w' a n:=fun i hi=>by
 obtain⟨b,o,v,ha,h0,h1,hc⟩:=h i hi;exact⟨b,o,v,ha,h0,h1,Ab hb hc⟩
theorem DT.grown (h:DT w a n)(hg:w.grownBy w' (some r))(hr:∀ ad,0<n->a=some ad->ad.block≠r):DT w' a n:=fun i hi=>by
 obtain⟨b,o,v,ha,h0,h1,hc⟩:=h i hi;exact⟨b,o,v,ha,h0,h1,hg.cell hc (by have:=hr _ sH ha;simpa using this)⟩
theorem Rd.below (h:Rd w B)(hb:Below w.heap.size w w'):Rd w' B:=by
 obtain⟨a,n,cap,p,t,h1,h2,h3,h4,h5⟩:=h;exact⟨a,n,cap,p,t,h1.below hb,h2,h3,h4.below hb,h5⟩
theorem Rd.grown (h:Rd w B)(hg:w.grownBy w' (some r))(hr:B<r):Rd w' B:=by
 obtain⟨a,n,cap,p,t,h1,h2,h3,h4,h5⟩:=h;exact⟨a,n,cap,p,t,h1.grown hg sH,h2,h3,h4.grown hg (fun ad h0 ha=>by have:=h5 ad h0 ha;omega),h5⟩
end
section
open Go Go.RowKit Go.BigFrame Tryz
variable{w w':World}
theorem Br.below {b n:Nat}{f:Ow->Int}(h:Br w b n f)(hb:Below w.heap.size w w'):Br w' b n f:=h.kept (row:=none) ⟨hb.os,hb.tape,hb.output,hb.size,fun k hk _=>hb.block k hk⟩ sK
end
section
open Go Go.RowKit Go.BigFrame
variable{s:ByteArray}{size:Int}{x:It}{e e':List Ex}{l m:List Pt}{vs:List Vo}{o:Opr}{p q:Po}{v:Vo}
theorem oX_ {p q:Ct}(h:Or p q=true):p=q:=by
 unfold Or at h;simp only[Zf,beq_iff_eq] at h;obtain⟨o,n⟩:=p;obtain⟨o',n'⟩:=q;simp only at h;rw[aM_.1 h.1,h.2]
theorem i2_:∀ {l m:List Ct},BU l m=true->l=m
 |[],[],_=>rfl
 |[],_::_,h=>by simp[BU] at h
 |_::_,[],h=>by simp[BU] at h
 |x::r,y::s,h=>by
  simp only[BU,Zf] at h;rw[oX_ h.1,i2_ h.2]
theorem nS_ (h:Ai p=true):A4 p.rf p.lt=A9 p.vs:=by
 have h1:=(dv_ h).1;simp only[Ai,Zf] at h;have h2:=h.1.2;rw[h1] at h2;exact i2_ h2
theorem pS_:∀ {l:List Ex} {n m:Int},m<=n->xgo size n l=true->xgo size m l=true
 |[],_,_,_,_=>rfl
 |e::r,n,m,h,hx=>by
  simp only[xgo,Zf,ZU] at hx ⊢;exact⟨⟨⟨hx.1.1.1,sH⟩,hx.1.2⟩,hx.2⟩
theorem h7_ (f:Ex->Bool):∀ {l:List Ex} {n:Int},xgo size n l=true->xgo size n (l.filter f)=true
 |[],_,_=>rfl
 |e::r,n,hx=>by
  simp only[xgo,Zf,ZU] at hx;have ih:=h7_ f hx.2;rw[ZH];split
  ·simp only[xgo,Zf,ZU];exact⟨hx.1,ih⟩
  ·exact pS_ (by have:=hx.1.1.2;omega) ih
theorem ga_ (f:Ex->Bool){l:List Ex}(h:Af size l=true):Af size (l.filter f)=true:=by
 simp only[Af,Zf,ZU] at h ⊢;have:=Yc f l;exact⟨⟨h.1.1,sH⟩,h7_ f h.2⟩
theorem fm_ {f:Ex->Bool}{a:Int}:∀ {l:List Ex},(∀ x∈l,x.a=a->f x=true)->AU a (l.filter f)=AU a l
 |[],_=>rfl
 |e::r,h=>by
  have ih:=fm_ (f:=f) (a:=a) (l:=r) (fun x hx=>h x rv);rw[ZH];by_cases hf:f e=true
  ·rw[if_pos hf];simp only[AU,ih]
  ·rw[if_neg hf,ih];have ha:(e.a==a)=false:=ZV.2 (fun he=>hf (h e sK he));simp only[AU,ha,Zj,if_false]
theorem h8_ {f:Ex->Bool}:∀ (l:List Pt) (acc:ByteArray),(∀ q∈l,q.a≠0->∀ x∈e,x.a=q.a->f x=true)->cgo (e.filter f) acc l=cgo e acc l
 |[],_,_=>rfl
 |q::r,acc,h=>by
  have hq:pieceO (e.filter f) q=pieceO e q:=by
   unfold pieceO;by_cases h0:q.a=0
   ·simp[h0]
   ·rw[fm_ (h q sK h0)]
  unfold cgo;rw[hq]
  cases pieceO e q with
  |none=>rfl
  |some d=>exact h8_ r _ (fun z hz=>h z (by simp[hz]))
theorem h9_ {f:Ex->Bool}{ps:List Pt}(hs:Af 400 e=true)(h:∀ q∈ps,q.a≠0->∀ x∈e,x.a=q.a->f x=true):Ax ps (e.filter f)=Ax ps e:=by
 unfold Ax;rw[h8_ ps _ h];simp only[hs,ga_ f hs,and_true]
theorem lc_:∀ {l:List It} {q:Option It},(∀ x∈l,Ax x.ps e'=Ax x.ps e)->igo e' q l=igo e q l
 |[],_,_=>rfl
 |x::r,q,h=>by
  simp only[igo];rw[h x sK,lc_ (fun y hy=>h y rN)]
theorem ld_ {next:Int}:∀ {l:List Vo} {last:Int},(∀ v∈l,∀ x∈v.its,Ax x.ps e'=Ax x.ps e)->vgo next e' last l=vgo next e last l
 |[],_,_=>rfl
 |v::r,last,h=>by
  simp only[vgo,itemsB];rw[lc_ (h v sK),ld_ (fun y hy=>h y rN)]
theorem m0_:∀ {l:List Ct} {c:Ct},(∀ x∈l,x.n=1)->c∈l->1<=tot c.o l
 |[],_,_,h=>by cases h
 |y::r,c,h1,h=>by
  have h0:=(cy_ (l:=r) (fun x hx=>h1 x rv) c.o).1;have hy:=h1 y sK;simp only[tot];rcases Zn.1 h with rfl | h
  ·rw[a3_,if_pos rfl];omega
  ·have:=m0_ (fun x hx=>h1 x rv) h
   split<;>omega
theorem bR_ (l:List Vo):Cm (A9 l)∧BS (A9 l)∧∀ o,tot o (A9 l)=tot o (BI l):=by
 obtain⟨h1,h2,h3⟩:=eL_ (l:=[]) (more:=BI l) YT (fun c hc=>by cases hc) (hO_ l);exact⟨h1,h2,fun o=>by rw[A9,h3];simp[tot]⟩
theorem oY_ {l:List Vo}{q:Pt}(hv:v∈l)(hx:x∈v.its)(hq:q∈x.ps)(h0:q.a≠0):∃ c∈A9 l,c.o=⟨q.a,v.id,x.nm⟩:=by
 have hm:(⟨⟨q.a,v.id,x.nm⟩,1⟩:Ct)∈BI l:=ZL.2 ⟨v,hv,ZL.2 ⟨x,hx,ZT.2 ⟨q,YG.2 ⟨hq,by simp[h0]⟩,rfl⟩⟩⟩;have h1:=m0_ (fZ_ l) hm;rw[<-(bR_ l).2.2] at h1;by_cases hc:∃ c∈A9 l,c.o=⟨q.a,v.id,x.nm⟩
 ·exact hc
 ·exfalso;have:=bB_ (o:=⟨q.a,v.id,x.nm⟩) (l:=A9 l) (fun c hm e=>hc ⟨c,hm,e⟩);simp only at h1;omega
theorem iy_ (hp:Ai p=true)(hv:v∈p.vs)(hx:x∈v.its):Ax x.ps (AE p).ex=Ax x.ps p.ex:=by
 refine h9_ (iI_ (aQ_ hp).1) (fun q hq h0 e _ he=>?_);obtain⟨c,hc,ho⟩:=oY_ hv hx hq h0;rw[nS_ hp];exact ZN.2 ⟨c,hc,by rw[ho,he];simp⟩
theorem le_ (hp:Ai p=true):Ai (AE p)=true:=by
 have hr:=c6_ hp;have hf:=(dv_ hp).1;have hb:=ld_ (next:=p.next) (last:=0) (l:=p.vs) (e:=p.ex) (e':=(AE p).ex) (fun v hv x hx=>iy_ hp hv hx);have he:=hp;simp only[Ai,Fj,Zf,ZU] at hp ⊢;obtain⟨⟨⟨⟨⟨⟨h1,h2⟩,h3⟩,h4⟩,h5⟩,h6⟩,h7⟩:=hp;refine⟨⟨⟨⟨⟨⟨ga_ _ h1,h2⟩,h3⟩,h4.1,?_⟩,h5⟩,?_⟩,?_⟩
 ·exact hb.trans h4.2
 ·have e:As (AE p).rf (AE p).lt=some (A4 p.rf p.lt):=by
   show As (A4 p.rf p.lt) []=_;unfold As;rw[if_pos ⟨hr,rfl⟩];exact if_pos hr
  rw[hf] at h6;rw[e];exact h6
 ·simp only[DW,Zf,List.all_eq_true] at h7 ⊢;refine⟨fun x hx=>?_,fun c hc=>?_⟩
  ·have:=(YG.1 hx).2;obtain⟨c,hc,e⟩:=ZN.1 this;exact ZN.2 ⟨c,Yu _ hc,e⟩
  ·have ha:c∈A4 p.rf p.lt:=by
    rcases Zs.1 hc with h | h
    ·exact h
    ·cases h
   obtain⟨d,hd,e⟩:∃ d∈p.rf++p.lt,c.o=d.o:=by
    rcases eI_ ha with⟨d,hd,e⟩ | ⟨d,hd,e⟩
    ·exact⟨d,Yu _ hd,e⟩
    ·exact⟨d,Ym _ hd,e⟩
   obtain⟨x,hx,e2⟩:=ZN.1 (h7.2 d hd);refine ZN.2 ⟨x,YG.2 ⟨hx,ZN.2 ⟨c,ha,?_⟩⟩,?_⟩
   ·have:x.a=d.o.a:=by simpa using e2
    rw[e,this];simp
   ·rw[e];exact e2
end
end Go.Proofs.YteejlahappbalaaGreatDoor
