/- Ops that are done when they are tried, by the model. -/
import Derived.Test.YtkodenjhajafpaaGreatDoorU33
import Derived.Test.YtkodenjhajafpaaGreatDoorU34
set_option maxHeartbeats 20000000
set_option maxRecDepth 100000
namespace Go.Proofs.YtkodenjhajafpaaGreatDoor
section
open Go Go.RowKit Go.BigFrame
variable{α:Type}{file s vol:ByteArray}{at' size:Int}{x:It}{e:List Ex}{l m:List Pt}{vs:List Vo}{i:Nat}{o:Opr}{p q:Po}{v:Vo}
def Cg (p:Po):Int⊕Po->Int×Po
 |.inl c=>(c,p)
 |.inr q=>if Aj (AX p q)=true then (0,AX p q) else (5,p)
def Cq (p:Po)(r:Int×Po):Int×Po:=if r.1=0 then (if Aj (AX p r.2)=true then (0,AX p r.2) else (5,p)) else (r.1,p)
theorem bt_ {c:Int}(h:c≠0):Cq p (c,q)=(c,p):=by unfold Cq;rw[if_neg h]
theorem dw_:Cq p (0,q)=Cg p (.inr q):=by unfold Cq Cg;rw[if_pos rfl]
theorem dY_ (h1:volI vs vol=some i)(h2:vs[i]?=some v):Aq vs vol file=AO v file:=by
 unfold Aq AO;rw[h1];simp only[YO,h2]
theorem mk_:Aq vs vol file=((volI vs vol).bind (fun j=>vs[j]?)).bind (fun v=>AO v file):=by
 unfold Aq AO
 cases volI vs vol with
 |none=>rfl
 |some i=>cases vs[i]?<;>rfl
theorem nM_ (hv:v∈q.vs)(hx:x∈v.its)(hb:¬ Ac x.ps=true):Aj q=false:=by
 cases h:Aj q with
 |false=>rfl
 |true=>
  exfalso;obtain⟨_,h2,_⟩:=bL_ h;have h3:=(b0_ h2 v hv).1;simp only[itemsB,Zf,ZU] at h3;have h4:=db_ h3.2 x hx;obtain⟨s,hs⟩:=Option.isSome_iff_exists.1 h4;exact hb (fl_ hs).1
theorem k9_ {E:List Ex}(hv:p.vs[i]?=some v)(file:ByteArray)(hl:Ac l=true)(hm:Ac m=true)(h0:0<=at')(h1:at'<=100):
  Cg p (Dt p i v (match Bx v file l at' m with | .inl c=>.inl c | .inr its=>.inr (E,its)))=Cq p (0,{p with ex:=E,vs:=p.vs.set i {v with its:=A7 ⟨file,AH l at' m⟩ v.its}}):=by
 unfold Bx;rw[mj_ hl hm h0 h1,dw_];by_cases h:Ac (AH l at' m)=true
 ·rw[if_pos h];rfl
 ·rw[if_neg h];have hi:=(Zb.1 hv).1;have hb:Aj (AX p {p with ex:=E,vs:=p.vs.set i {v with its:=A7 ⟨file,AH l at' m⟩ v.its}})=false:=nM_ (v:={v with its:=A7 ⟨file,AH l at' m⟩ v.its}) (x:=⟨file,AH l at' m⟩) (List.mem_set hi _) (oR_ _ _) h;simp only[Cg,Dt,hb,Zj,if_false]
theorem qd_ (p:Po)(i:Nat)(v:Vo)(R:Int⊕List It):Ca p i v R=Dt p i v (match R with | .inl c=>.inl c | .inr its=>.inr (p.ex,its)):=by
 cases R<;>rfl
theorem gA_ (hv:p.vs[i]?=some v)(file:ByteArray)(hl:Ac l=true)(hm:Ac m=true)(h0:0<=at')(h1:at'<=100):
  Cg p (Ca p i v (Bx v file l at' m))=Cq p (0,{p with vs:=p.vs.set i {v with its:=A7 ⟨file,AH l at' m⟩ v.its}}):=by
 rw[qd_];exact k9_ hv file hl hm h0 h1
theorem oS_ {s:Int}(hl:Ac l=true)(h0:0<=s):AH (slp 0 (min s (Ae l)) 0 l) s []=if s > Ae l then AH l (Ae l) [⟨0,0,s-Ae l⟩] else Ak [] (slp 0 s 0 l):=by
 have hb:=(ae_ hl).2.1;have hr:=eJ_ hl 0 (min s (Ae l));have hn:=az_ l hb;by_cases h:s > Ae l
 ·have e:slp 0 (min s (Ae l)) 0 l=l:=g9_ l 0 (by omega) (by omega) hb;rw[if_pos h,e,du_ hl,du_ hl];congr 1;unfold Bq;rw[e,if_pos h,if_neg (by omega),g8_ (by simp only[Ae];omega),g9_ l 0 (by omega) (by omega) hb,g8_ (by simp only[Ae];omega)];simp
 ·have hs:min s (Ae l)=s:=by omega
  rw[if_neg h,hs];rw[hs] at hr;have ha:Ae (slp 0 s 0 l)=s:=by rw[mZ_ (by omega) l 0 hb];omega
  rw[du_ hr];congr 1;have e5:slp (min (s+Ae []) s) s 0 (slp 0 s 0 l)=[]:=g8_ (by simp only[Ae];omega) _ _;have e6:slp 0 (min s s) 0 (slp 0 s 0 l)=slp 0 s 0 l:=g9_ _ 0 (by omega) (by rw[ha];omega) (ae_ hr).2.1;unfold Bq;rw[ha,if_neg (by omega),e5,e6];simp
theorem h6_ (f:α->List UInt8)(s:List UInt8):∀ {l:List α} {k:Nat},(l.map f).Nodup->l.findIdx? (fun x=>f x==s)=some k->l.filter (fun x=>!(f x==s))=l.take k++l.drop (k+1)
 |[],_,_,h=>by cases h
 |x::r,k,hn,h=>by
  rw[YD,List.nodup_cons] at hn;rw[List.findIdx?_cons] at h;by_cases hx:(f x==s)=true
  ·rw[if_pos hx] at h;obtain rfl:=Zi h
   have hr:r.filter (fun x=>!(f x==s))=r:=by
    rw[YA];intro y hy
    have:f x=s:=by simpa using hx
    have ha:f y≠s:=fun e=>hn.1 (by rw[this,<-e];exact List.mem_map_of_mem hy);simpa using ha
   rw[ZH,hx];simpa using hr
  ·rw[if_neg hx] at h
   cases hk:r.findIdx? (fun x=>f x==s) with
   |none=>rw[hk] at h;cases h
   |some j=>
    rw[hk] at h;obtain rfl:=Zi h;have hb:(f x==s)=false:=by simpa using hx
    rw[ZH,hb];simpa using h6_ f s hn.2 hk
theorem nN_ {l:List It}(h:EB l):(l.map (·.nm.toList)).Nodup:=by
 rw[List.nodup_iff_pairwise_ne,List.pairwise_map];exact h.imp (fun {a b} ha e=>by rw[e,cn_] at ha;cases ha)
theorem i1_ (h:volI vs s=some i):∃ v,vs[i]?=some v:=by
 unfold volI at h
 have:=(ZA.1 h).1
 exact⟨vs[i],by simp[this]⟩
theorem oT_ {l:List It}(h:itI l s=some i):∃ v,l[i]?=some v:=by
 unfold itI at h
 have:=(ZA.1 h).1
 exact⟨l[i],by simp[this]⟩
theorem ha_ {F:Nat->Vo->Int⊕Po}{nm fl:ByteArray}(e1:(if o.k=5 then o.to else o.vol)=nm)(e2:(if o.k=5 then o.into else o.file)=fl)(hF:∀ (i:Nat) (v:Vo),volI p.vs nm=some i->p.vs[i]?=some v->Cg p (F i v)=Cq p (if (Ag p o).1=0 then (0,{p with ex:=(Ag p o).2.1,vs:=p.vs.set i {v with its:=A7 ⟨fl,(Ag p o).2.2⟩ v.its}}) else ((Ag p o).1,p))):Cg p (AG p nm true F)=Cq p (Ao p o):=by
 unfold AG Ao;simp only[e1,e2]
 cases h1:volI p.vs nm with
 |none=>exact (bt_ (by decide)).symm
 |some i=>
  simp only
  cases h2:p.vs[i]? with
  |none=>exact (bt_ (by decide)).symm
  |some v=>
   simp only[Zp];by_cases h3:v.fx=true
   ·rw[if_pos h3,if_pos h3];exact (bt_ (by decide)).symm
   ·rw[if_neg h3,if_neg h3];exact hF i v h1 h2
theorem oV_ (hk:o.k=2):Ag p o=(match AV p.size p.ex o.data with | none=>(5,p.ex,[]) | some (l,a)=>(0,l,AH ((Aq p.vs o.vol o.file).getD []) o.at' [⟨a,0,o.data.size⟩])):=by
 unfold Ag;simp[hk];rfl
theorem oW_ (hk:o.k=5):Ag p o=(match Aq p.vs o.vol o.file with | none=>(3,p.ex,[]) | some src=>if o.fr+o.ln > Ae src then (3,p.ex,[]) else (0,p.ex,AH ((Aq p.vs o.to o.into).getD []) o.at' (Ak [] (slp o.fr (o.fr+o.ln) 0 src)))):=by
 unfold Ag;simp[hk];rfl
theorem la_ (hp:Aj p=true)(hk:o.k=10)(h0:0<=o.at')(h1:o.at'<=100)(l0:1<=o.ln)(l1:o.ln<=100):Cg p (AG p o.vol true (fun i y=>Ca p i y (Ci y o.file o.at' o.ln)))=Cq p (Ao p o):=by
 refine ha_ (if_neg (by omega)) (if_neg (by omega)) (fun i v hi hv=>?_);have ha:=dY_ (file:=o.file) hi hv;rw[nO_ hk,ha];unfold Ci
 cases hf:AO v o.file with
 |none=>exact (bt_ (by decide)).symm
 |some q=>
  have hq:=(bb_ hp (ha.trans hf)).1;have hm:Ac [⟨0,0,o.ln⟩]=true:=by simp[Ac,pgo,Ah];omega
  exact gA_ hv o.file hq hm h0 h1
theorem nP_ (hp:Aj p=true)(hk:o.k=3)(l0:0<=o.ln)(l1:o.ln<=100):Cg p (AG p o.vol true (fun i y=>Ca p i y (DW y o.file o.ln)))=Cq p (Ao p o):=by
 refine ha_ (if_neg (by omega)) (if_neg (by omega)) (fun i v hi hv=>?_);have ha:=dY_ (file:=o.file) hi hv;rw[oU_ hk,ha];unfold DW
 cases hf:AO v o.file with
 |none=>exact (bt_ (by decide)).symm
 |some q=>
  have hq:=(bb_ hp (ha.trans hf)).1;have hn:=az_ q (ae_ hq).2.1;have hl:Cc q=Ae q:=by unfold Cc;rw[if_pos hq]
  simp only;rw[hl,EO hq (YB 0) (by omega) (by omega),Yw,gA_ hv o.file (eJ_ hq _ _) rfl l0 l1,oS_ hq l0];by_cases h:o.ln > Ae q
  ·simp only[if_pos h,if_true]
  ·simp only[if_neg h,if_true]
theorem lb_ (hp:Aj p=true)(hk:o.k=2)(h0:0<=o.at')(h1:o.at'<=100)(hd:As o.data=true):Cg p (AG p o.vol true (fun i y=>Dt p i y (Ck p.size p.ex y o.file o.at' o.data)))=Cq p (Ao p o):=by
 refine ha_ (if_neg (by omega)) (if_neg (by omega)) (fun i v hi hv=>?_);have hb:=dY_ (file:=o.file) hi hv;rw[oV_ hk,hb];unfold Ck
 cases hc:AV p.size p.ex o.data with
 |none=>exact (bt_ (by decide)).symm
 |some r=>
  obtain⟨L,a⟩:=r;have hq:Ac ((AO v o.file).getD [])=true:=by rw[<-hb];exact bH_ hp
  have ha:=gw_ hc;have he:=bl_ hd;have hf:=l6_ hd
  have hm:Ac [⟨a,0,o.data.size⟩]=true:=by
   have h0:(a==0)=false:=ZV.2 (by omega);simp[Ac,pgo,Ah,h0];omega
  exact k9_ hv o.file hq hm h0 h1
theorem ml_ (hp:Aj p=true)(hk:o.k=5)(h0:0<=o.at')(h1:o.at'<=100)(f0:0<=o.fr)(l0:1<=o.ln):Cg p (AG p o.to true (fun i y=>Ca p i y (CH p.vs y o.into o.at' o.vol o.file o.fr (o.fr+o.ln))))=Cq p (Ao p o):=by
 refine ha_ (if_pos hk) (if_pos hk) (fun i v hi hv=>?_);have ha:=dY_ (file:=o.into) hi hv;have hq:Ac ((AO v o.into).getD [])=true:=by rw[<-ha];exact bH_ hp
 rw[oW_ hk,ha];unfold CH;have hb:=mk_ (vs:=p.vs) (vol:=o.vol) (file:=o.file)
 cases hu:(volI p.vs o.vol).bind (fun j=>p.vs[j]?) with
 |none=>
  rw[hu] at hb;rw[hb];exact (bt_ (by decide)).symm
 |some u=>
  rw[hu,YO] at hb;rw[hb];simp only
  cases hf:AO u o.file with
  |none=>exact (bt_ (by decide)).symm
  |some q=>
   have hr:=(bb_ hp (hb.trans hf)).1;simp only;by_cases h:o.fr+o.ln > Ae q
   ·have hs:AZ q o.fr (o.fr+o.ln)=none:=by unfold AZ;rw[if_neg (fun hc=>by omega)]
    rw[hs,if_pos h];exact (bt_ (by decide)).symm
   ·rw[EO hr f0 (by omega) (by omega),if_neg h];simp only[if_true];rw[fD_ (b8_ hr _ _)];exact gA_ hv o.into hq (eJ_ hr _ _) h0 h1
theorem mm_ (hk:o.k=1):Cg p (Dj p o.vol [])=Cq p (Ay p o):=by
 unfold Dj Ay
 cases h1:volI p.vs o.vol with
 |none=>simp only[hk,if_true];exact dw_.symm
 |some i=>
  obtain⟨v,hv⟩:=i1_ h1;simp only[hv,hk,if_true];exact (bt_ (by decide)).symm
theorem jF_ {b:Bool}{F:Nat->Vo->Int⊕Po}(hk:¬ o.k=1)(hF:∀ (i:Nat) (v:Vo),volI p.vs o.vol=some i->p.vs[i]?=some v->Cg p (if (b&&v.fx)=true then .inl 6 else F i v)=Cq p (Ay p o)):Cg p (AG p o.vol b F)=Cq p (Ay p o):=by
 unfold AG
 cases h1:volI p.vs o.vol with
 |none=>
  unfold Ay;rw[h1];simp only[if_neg hk];exact (bt_ (by decide)).symm
 |some i=>
  obtain⟨v,hv⟩:=i1_ h1;simp only[hv];exact hF i v h1 hv
theorem hb_ (h1:volI p.vs o.vol=some i)(h2:p.vs[i]?=some v):Ay p o=(if o.k=1 then ((4:Int),p)
      else if o.k=6 then (match volI p.vs o.to with | some _=>(4,p) | none=>(0,{p with vs:=p.vs++[⟨p.next,o.to,false,v.its⟩],next:=p.next+1}))
      else if o.k=7 then (0,{p with vs:=p.vs.take i++p.vs.drop (i+1)})
      else if o.k=8 then (if v.fx=true then (6,p) else (0,{p with vs:=p.vs.set i {v with fx:=true}}))
      else if o.k=4 then (if v.fx=true then (6,p) else match itI v.its o.file with | none=>(3,p) | some k=>(0,{p with vs:=p.vs.set i {v with its:=v.its.take k++v.its.drop (k+1)}}))
      else (0,p)):=by
 unfold Ay;rw[h1];simp only[h2];rfl
theorem mn_ (hk:o.k=6):Cg p (AG p o.vol false (fun _ y=>Dj p o.to y.its))=Cq p (Ay p o):=by
 refine jF_ (by omega) (fun i v h1 h2=>?_);rw[hb_ h1 h2];simp only[hk,Zr,Zj,if_false,if_true,show ¬ (6:Int)=1 by decide];unfold Dj
 cases volI p.vs o.to with
 |some _=>exact (bt_ (by decide)).symm
 |none=>exact dw_.symm
theorem mo_ (hp:Aj p=true)(hk:o.k=7):Cg p (AG p o.vol false (fun _ _=>.inr {p with vs:=p.vs.filter (fun v=>!(v.nm.toList==o.vol.toList))}))=Cq p (Ay p o):=by
 refine jF_ (by omega) (fun i v h1 h2=>?_);rw[hb_ h1 h2];simp only[hk,Zr,Zj,if_false,if_true,show ¬ (7:Int)=1 by decide,show ¬ (7:Int)=6 by decide];rw[dw_,h6_ (fun v:Vo=>v.nm.toList) o.vol.toList (bL_ hp).2.2.2.2 h1]
theorem nQ_ (hk:o.k=8):Cg p (AG p o.vol false (fun i y=>(if y.fx=true then .inl 6 else .inr {p with vs:=p.vs.set i {y with fx:=true}}:Int⊕Po)))=Cq p (Ay p o):=by
 refine jF_ (by omega) (fun i v h1 h2=>?_);rw[hb_ h1 h2];simp only[hk,Zr,Zj,if_false,if_true,show ¬ (8:Int)=1 by decide,show ¬ (8:Int)=6 by decide,show ¬ (8:Int)=7 by decide]
 cases v.fx
 ·exact dw_.symm
 ·exact (bt_ (by decide)).symm
theorem jG_ (hp:Aj p=true)(hk:o.k=4):Cg p (AG p o.vol true (fun i y=>Ca p i y (BQ y o.file)))=Cq p (Ay p o):=by
 refine jF_ (by omega) (fun i v h1 h2=>?_);rw[hb_ h1 h2];simp only[hk,Zp,if_false,if_true,show ¬ (4:Int)=1 by decide,show ¬ (4:Int)=6 by decide,show ¬ (4:Int)=7 by decide,show ¬ (4:Int)=8 by decide];by_cases hfx:v.fx=true
 ·rw[if_pos hfx,if_pos hfx];exact (bt_ (by decide)).symm
 ·rw[if_neg hfx,if_neg hfx];have ha:=(iX_ (b0_ (bL_ hp).2.1 v (Zc h2)).1).1;unfold BQ AO
  cases hi:itI v.its o.file with
  |none=>exact (bt_ (by decide)).symm
  |some k=>
   obtain⟨x,hx⟩:=oT_ hi;simp only[YO,hx,Option.map_some,Ca];rw[dw_,h6_ (fun v:It=>v.nm.toList) o.file.toList (nN_ ha) hi]
theorem nR_ (hp:Aj p=true)(ho:opB o=true)(hk:¬ o.k=9):Cg p (Dv p o.k o.vol o.file o.to o.into o.at' o.fr o.ln o.data)=Cq p (BI p o):=by
 have ha:=h5_ ho;unfold opB inB at ho;unfold Dv BI;rcases ha with h | h | h | h | h | h | h | h | h | h
 ·simp only[h,show ¬ ((1:Int)=2∨(1:Int)=3∨(1:Int)=5∨(1:Int)=10) by decide,if_true,if_false];exact mm_ h
 ·simp[h] at ho ⊢;exact lb_ hp h ho.1.1.2.1 ho.1.1.2.2 ho.1.2
 ·simp[h] at ho ⊢;exact nP_ hp h ho.1.2.1 ho.1.2.2
 ·simp[h];exact jG_ hp h
 ·simp[h] at ho ⊢;exact ml_ hp h ho.1.1.1.2.1 ho.1.1.1.2.2 ho.1.1.2.1 ho.1.2.1
 ·simp[h];exact mn_ h
 ·simp[h];exact mo_ hp h
 ·simp[h];exact nQ_ h
 ·exact absurd h hk
 ·simp[h] at ho ⊢;exact la_ hp h ho.1.1.2.1 ho.1.1.2.2 ho.1.2.1 ho.1.2.2
theorem ia_ (o:Ow):∀ l:List Ct,tot o (Cv l)=- tot o l
 |[]=>rfl
 |c::r=>by
  have ih:=ia_ o r;unfold Cv at ih ⊢;rw[YD];simp only[tot];rw[ih];split<;>omega
theorem oZ_ {l:List Ct}(h:Bk l):Bk (Cv l):=by
 intro c hc;obtain⟨d,hd,rfl⟩:=ZT.1 hc
 have:=h d hd
 simp only;omega
theorem o0_ (l:List Vo):AQ (AA l) (Cv (AA l))=[]:=by
 obtain⟨h1,h2,_⟩:=bR_ l;obtain⟨a1,a2,a3⟩:=eL_ h1 h2 (oZ_ h2);exact cS_ a1 YT a2 (fun c hc=>by cases hc) (fun o=>by rw[a3,ia_];simp only[tot];omega)
theorem lf_ (hp:Aj p=true):CI p=flushS p:=by
 unfold CI flushS;rw[(dv_ hp).1];rfl
theorem mp_ (hp:Aj p=true):AX p (CI p)=flushS p:=by
 rw[lf_ hp];unfold AX;show ({flushS p with lt:=[]++AQ (AA p.vs) (Cv (AA p.vs))}:Po)=flushS p;rw[o0_];rfl
theorem i3_ (hk:o.k=9):Dv p o.k o.vol o.file o.to o.into o.at' o.fr o.ln o.data=.inr (CI p):=by
 unfold Dv;simp[hk]
theorem o1_ (hp:Aj p=true)(ho:opB o=true):Cg p (Dv p o.k o.vol o.file o.to o.into o.at' o.fr o.ln o.data)=opS p o:=by
 by_cases hk:o.k=9
 ·rw[i3_ hk];unfold Cg opS;simp only;rw[mp_ hp,le_ hp,if_pos ho,if_pos hk];rfl
 ·rw[nR_ hp ho hk];unfold Cq opS;rw[if_pos ho,if_neg hk]
end
section
open Go Go.RowKit Go.BigFrame Tryz
open Go.Maps (Keyed)
theorem fE_ {v:Vo}:∀ {l:List It},(∀ x∈l,x.ps.length<=1000)->(A4 v l).length<=1000*l.length
 |[],_=>by simp[A4]
 |x::r,h=>by
  have ih:=fE_ (v:=v) (l:=r) (fun y hy=>h y (by simp[hy]));have h1:=h x (by simp);have h2:=fw_ v.id x.nm x.ps;unfold A4 at ih ⊢;rw[ZF,ZE,Zw];omega
theorem fF_:∀ {l:List Vo},(∀ v∈l,v.its.length<=6∧∀ x∈v.its,x.ps.length<=1000)->(A9 l).length<=6000*l.length
 |[],_=>by simp[A9]
 |v::r,h=>by
  have ih:=fF_ (l:=r) (fun y hy=>h y (by simp[hy]));obtain⟨h1,h2⟩:=h v (by simp);have h3:=fE_ (v:=v) h2;rw[cx_,ZE,Zw,show Em v=A4 v v.its from rfl];omega
theorem lg_ (B b pb po:Nat)(D:DataW Unit)(va:Option Addr)(vn:Nat)(vs:List Vo)(hpb:0<vn->va=some ⟨pb,po,none⟩)(w:World)(hO:w.ownsMap prog 9 (A8 pb) b vn D)(hV:DJ D po vs)(hnd:(vs.map (·.nm.toList)).Nodup)(h2:Bc B w va vn vs)(ht:Et vs)(hw:WfV vs):
  Calls prog 58 #[.map (some b)] w fun e w'=>(∃ a n cap,e=.returned (.slice a n cap)∧n<=42000∧Ad Ct.cs 4 100 w' w.heap.size a n cap (AA vs))∧Below w.heap.size w w':=by
 have qk:=@run_makeMap prog;have ha:Hid (vs.length=vn):=h2.len;have qf:=hO.lt;have qm:Maps.size D<=vn:=hO.size_le;obtain⟨t6,tv⟩:=ht;rw[ha.out] at t6;have hM:=A0.made w;have hJ:(w.alloc (.map #[] 0)).ownsMap prog 9 (A8 pb) b vn D:=hO.alloc _;have hI:Below w.heap.size w (w.alloc (.map #[] 0)):=(Yg _ _).alloc (Zd _) _;have hS:(w.alloc (.map #[] 0)).heap.size=w.heap.size+1:=by simp
 have hY:∀ left o,0<=tot o (A9 (Bm left vs))∧tot o (A9 (Bm left vs))<=42000:=fun left o=>by
  have h1:=cy_ (fZ_ (Bm left vs)) o;have h2:=fF_ (l:=Bm left vs) (fun v hv=>by have:=tv v (YG.1 hv).1;exact⟨this.1,fun x hx=>(this.2 x hx).1⟩);have h3:(Bm left vs).length<=vs.length:=Yc _ _;have h4:=ha.out;omega
 go_enter func58,ntmps58
 go_wp2_with (first
  |(at_range;refine wpList_range_own _ rfl _ 116 rfl 9 75 keyed9 underlying116 _ b vn D rfl hJ ?_;intro w0 hb hC hu)
  |go_in)
 rw[hS] at hb hu ⊢;go_frame;have T0:A0 w0 w.heap.size 0 (fun _=>0):=hM.kept hC (by simp);have hf:Below w.heap.size w w0:=hI.grown hC (by omega) (fun j hj=>by cases hj);clear hM hJ hI hS hC hO
 go_loopw [11] (fun _ wr=>∃ (left:Lit->Bool) (cnt m:Nat),m+6000*cnt<=6000*vn∧(∀ kl,left kl=true->Maps.has D kl=true)∧wr.ranges prog 9 (A8 pb) b (w.heap.size+1) vn D left cnt∧A0 wr w.heap.size m (fun o=>tot o (A9 (Bm left vs)))∧w.heap.size+2<=wr.heap.size∧Below w.heap.size w wr)
  (fun _ wr=>wr.rangeLeft b (w.heap.size+1))
 case atStart=>
  refine⟨_,_,0,by omega,fun _ h=>h,hb,T0.congr (fun o=>?_),by omega,hf⟩;rw[hL_ (fun v hv=>by unfold BR;rw[hV.has];exact ZN.2 ⟨v,hv,by simp⟩)];rfl
 case round=>
  clear hb T0 hf hu;obtain⟨left,cnt,m,qj,hp,hG,T,qe,hB⟩:=hrel
  go_wp2_with (first
   |(at_next;refine wpList_next_ranges _ rfl _ rfl 9 keyed9 (A8 pb) Value.string (fun o:Nat=>Value.pointer (some ⟨pb,o,none⟩)) (fun key kl hk=>(by obtain⟨s,hs,_⟩:=f0_ hk;exact⟨s,hs⟩)) (fun v y h=>(by obtain⟨o,ho,_⟩:=eu_ h;exact⟨o,ho⟩)) b (w.heap.size+1) vn D left cnt rfl hG ?_ ?_)
   |go_in)
  ·intro qg h7;rw[iS_ h7] at T
   go_wp2_with fail
   refine (dG_ w.heap.size m _ wr T (by omega)).mono ?_;rintro e w4 ⟨⟨a2,n2,cap2,R,rfl,ql,R4,q1,q2,q3,q4⟩,hU⟩;have hR:R=AA vs:=g6_ q1 q2 q3 (fun o ho=>by rw[q4 o ho];simp[tot]) YT (fun c hc=>by simp at hc) (hO_ vs) (fun c hc=>by simp at hc) (hN_ hw);subst hR;have hW:=Aa hB hU;go_wp2;go_returns;exact⟨⟨a2,n2,cap2,rfl,by omega,R4.mono hB.size⟩,hW⟩
  ·intro s o kl y yp w1 cnt1 hl hQ hL hN hm h8 hD hu h0
   obtain rfl:kl=.string s.data.toList:=by
    obtain⟨s',e,e2⟩:=f0_ hl;injection e with e;rw[e,e2]
   obtain⟨i,v,hi,rfl,rfl⟩:=hP_ hV hnd (hp _ hQ) hL hN;have h6:i<vn:=by rw[<-ha.out];exact (Zb.1 hi).1
   have hz:=Zc hi;obtain⟨t1,t2⟩:=tv v hz;obtain⟨u1,u2⟩:=hw v hz;obtain⟨F,hr⟩:∃ F:Ow->Int,∀ o,F o=tot o (A9 (Bm left vs)):=⟨_,fun _=>rfl⟩;have hh:∀ o,F o+tot o (A4 v v.its)=tot o (A9 (Bm (fun z=>left z&&!z.sameKey (.string v.nm.data.toList)) vs)):=fun o=>by rw[hr];exact (gn_ (left:=left) (v:=v) hQ hnd hz o).symm
   have hF:∀ o,0<=F o∧F o<=42000:=fun o=>by rw[hr];exact hY left o
   have T1:A0 w1 w.heap.size m F:=(T.kept hD (by simp)).congr (fun o=>(hr o).symm);have hf:Below w.heap.size w w1:=hB.grown hD hB.size (fun j hj=>by cases hj;omega);obtain⟨b',o',x,qa,qn,qc,qb,hx,e0,e1,e2,e3,hP,_,_⟩:=b5_ h2 h6;obtain⟨rfl,rfl⟩:b'=pb∧o'=po:=by have:=hpb (by omega);rw[qb] at this;simpa using this
   obtain rfl:v=x:=by rw[hi] at hx;exact Zi hx
   have hK:Hid (v.its.length=qn):=hP.len;rw[hK.out] at t1;have hq:∀ kl,(left kl&&!kl.sameKey (.string v.nm.data.toList))=true->Maps.has D kl=true:=fun kl h=>hp kl (by simp at h;exact h.1);have hE:wr.rangeLeft b (w.heap.size+1)=cnt:=hG.left_eq;have e3':=Ab hf e3;obtain⟨wi,qd⟩:∃ x,x=wr:=⟨_,rfl⟩;subst qd;have hn:w.heap.size+2<=w1.heap.size:=by omega
   clear hl hL hN hD T hB hG hx hi e1 e2 e3 hr hu qe hz
   go_wp2_with fail
   go_loopw [20] (fun ix wq=>∃ (k:Nat),k<=qn∧ix=.int .i64 k∧A0 wq w.heap.size (m+1000*k) (fun o=>F o+tot o (A4 v (v.its.take k)))∧wq.ranges prog 9 (A8 b') b (w.heap.size+1) vn D (fun z=>left z&&!z.sameKey (.string v.nm.data.toList)) cnt1∧w.heap.size+2<=wq.heap.size∧Below w.heap.size w wq) (fun ix _=>qn-(intOf ix).toNat)
   case atStart=>exact⟨0,Zg _,rfl,T1.congr (fun o=>by simp[A4,tot]),hm,hn,hf⟩
   case round=>
    clear T1 hm hf hn e3' h0;obtain⟨k,hk,rfl,T2,he,hn,hg⟩:=hrel;by_cases hlk2:k<qn
    ·obtain⟨ib,io,x,pa,pn,pc,rfl,hx,c0,c1,hA,_,_,_⟩:=bO_ (hP.below hg) hlk2;have f0:=Ab hg e0;obtain⟨s1,_⟩:=t2 x (Zc hx);obtain⟨s2,s3⟩:=u2 x (Zc hx);rw[hA.len] at s1;have qh:(k:Int)<qn:=by omega
     have qi:(0:Int)<=k:=by omega
     have h5:Hid (A4 v (v.its.take (k+1))=A4 v (v.its.take k)++AS v.id x.nm x.ps):=fq_ hx
     have hZ:∀ o,0<=tot o (A4 v (v.its.take k))∧tot o (A4 v (v.its.take k))<=6000:=fun o=>by
      have h1:=cy_ (ju_ v (v.its.take k)) o;have h2:=fE_ (v:=v) (l:=v.its.take k) (fun y hy=>(t2 y (ZX hy)).1);have h3:(v.its.take k).length<=6:=by rw[Zz];omega
      omega
     clear hx;have X:=Blk.new wr #[.string x.nm,.slice pa pn pc] 81;have gW:wr.grownBy (wr.alloc (.cells #[.string x.nm,.slice pa pn pc] 81)) (some w.heap.size):=Yl wr _ (some w.heap.size);have T3:A0 (wr.alloc (.cells #[.string x.nm,.slice pa pn pc] 81)) w.heap.size (m+1000*k) (fun o=>F o+tot o (A4 v (v.its.take k))):=T2.kept (Yl wr _ none) (by simp);have f1:=Am (.cells #[.string x.nm,.slice pa pn pc] 81) f0;have hX:AM (wr.alloc (.cells #[.string x.nm,.slice pa pn pc] 81)) pa pn x.ps:=hA.below (by go_grown);clear T2 f0 hA
     go_wp2_with fail
     have x0:=X.cell 0;have x1:=X.cell 1;simp only[lgA,lgB,lgC] at x0 x1;generalize wr.alloc (.cells #[.string x.nm,.slice pa pn pc] 81)=W at *;have y0:W.drew.cell? ⟨wr.heap.size,0,none⟩=some (.string x.nm):=x0;have y1:W.drew.cell? ⟨wr.heap.size,1,none⟩=some (.slice pa pn pc):=x1;have y2:W.drew.cell? ⟨b',o'+i*4,none⟩=some (.int .i64 v.id):=f1;refine aE_ 6 (by kernel_rfl) (by kernel_rfl) ?_;simp only[ZP,Yx,ZR,YC]
     repeat still_step
     refine wpStill_nil ?_
     go_wp2_with fail
     refine (fi_ w.heap.size (m+1000*k) _ v.id x.nm pa pn pc x.ps W.drew T3 hX.drew u1 s2 s3 (by omega) (by omega) (fun o=>by have h1:=hF o;have h2:=hZ o;omega)).mono ?_;rintro e w3 ⟨rfl,T4,g4⟩;have g5:wr.grownBy w3 (some w.heap.size):=(gW.andThen (⟨rfl,rfl,rfl,Zd _,fun _ _ _=>rfl⟩:W.grownBy W.drew (some w.heap.size)) (fun j hj=>by cases hj;exact .inr rfl)).andThen g4 (fun j hj=>by cases hj;exact .inr rfl);have hH:=he.kept g5 (by simp only[ne_eq,Zo];omega) (by simp);have hT:Below w.heap.size w w3:=hg.grown g5 hg.size (fun j hj=>by cases hj;exact Zd _);have h9:w.heap.size+2<=w3.heap.size:=Zl hn g5.size;have T5:A0 w3 w.heap.size (m+1000*(k+1)) (fun o=>F o+tot o (A4 v (v.its.take (k+1)))):=(T4.mono (by omega)).congr (fun o=>by rw[h5.out,bn_];omega);go_wp2;go_roundw
     case rel=>exact⟨k+1,by omega,by go_num,T5,hH,h9,hT⟩
     case measure=>simp[intOf];omega
    ·obtain rfl:k=qn:=by omega
     rw[Zk (Zm hK.out)] at T2;go_wp2;go_roundw
     case rel=>exact⟨_,cnt1,m+1000*k,by omega,hq,he,T2.congr hh,hn,hg⟩
     case measure=>rw[he.left_eq,hE];exact h8
end
section
open Go Go.RowKit Go.BigFrame Tryz
variable{file:ByteArray}{its:List It}{rows:List VR}{l:List Vo}{B i:Nat}{p q:Po}{v:Value}{y:Vo}{w w':World}
theorem CW.wide (h:CW q):Et q.vs:=⟨h.vn,fun v hv=>by
 obtain⟨_,_,_,h4,h5⟩:=h.g v hv;exact⟨h4,fun x hx=>⟨by have:=(ae_ (h5 x hx).2).1;omega,fun p hp=>cT_ ((ae_ (h5 x hx).2).2.1 p hp)⟩⟩⟩
theorem pT_ {p:Pt}(h:Ah p=true):(Lit.int .i64 p.a).wf=true:=by
 have h0:=cT_ h
 have h1:p.a<=400:=by
  unfold Ah at h;split at h
  ·rename_i h2;simp at h2;omega
  ·simp at h;omega
 exact Yz (by omega)
theorem CW.wf (h:CW q):WfV q.vs:=fun v hv=>by
 obtain⟨h1,h2,_,_,h5⟩:=h.g v hv;exact⟨Yz (by omega),fun x hx=>⟨by have:=cj_ (h5 x hx).1;unfold maxLen;omega,fun p hp=>pT_ ((ae_ (h5 x hx).2).2.1 p hp)⟩⟩
theorem CW.str (h:CW q):DI q.vs:=fun v hv=>by
 obtain⟨_,_,h3,h4,h5⟩:=h.g v hv;exact⟨by have:=cj_ h3;omega,by omega,fun x hx=>⟨by have:=cj_ (h5 x hx).1;omega,by have:=(ae_ (h5 x hx).2).1;omega⟩⟩
theorem CW.dim (h:CW q)(hd:AB p)(hn:(AX p q).lt.length<=4194304):AB (AX p q):=by
 obtain⟨z1,z2,z3,z4,z5,z6,z7,z8⟩:=hd;have h1:=h.el;have h2:=h.vn;have h3:=h.rl;refine⟨?_,h.es,?_,h.str,?_,h.rs,hn,?_⟩
 ·show q.ex.length<=_;omega
 ·show q.vs.length<=_;omega
 ·show q.rf.length<=_;omega
 ·intro c hc;rcases Zs.1 hc with hc | hc
  ·exact h.ls c hc
  ·exact g7_ (f8_ h.str) (mV_ (f8_ z4)) c hc
theorem cQ_ (hp:Aj p=true):∀ v∈p.vs,VG v∧v.its.length<=5:=fun v hv=>by
 obtain⟨_,h2,h3,_⟩:=bL_ hp;obtain⟨a1,a2,a3,a4⟩:=b0_ h2 v hv;simp only[itemsB,Zf,ZU] at a1;refine⟨⟨by omega,by omega,a2,by omega,fun x hx=>⟨hR_ a1.2 x hx,?_⟩⟩,a1.1⟩;obtain⟨s,hs⟩:=Option.isSome_iff_exists.1 (db_ a1.2 x hx);exact (fl_ hs).1
theorem ib_ (hp:Aj p=true)(hd:AB p):CW p:=by
 obtain⟨h1,_,_,h4,h5⟩:=bL_ hp;obtain⟨_,a2,a3⟩:=dv_ hp;exact⟨by omega,fun v hv=>(cQ_ hp v hv).1,h5,(cu_ h4).2.2.1,hd.2.1,(a0_ a2).1,hd.2.2.2.2.2.1,(br_ a3).1,hd.2.2.2.2.2.2.2⟩
theorem bY_ {s:ByteArray}{c:Bool}{f:Nat->Vo->Int⊕Po}(h:AG p s c f=.inr q):∃ i y,volI p.vs s=some i∧p.vs[i]?=some y∧f i y=.inr q:=by
 unfold AG at h;split at h
 ·cases h
 ·rename_i i hi;split at h
  ·cases h
  ·rename_i y hy;split at h
   ·cases h
   ·exact⟨i,y,hi,hy,h⟩
theorem eW_ {l m:List Pt}{at':Int}(h:Bx y file l at' m=.inr its):∃ ps,Ac ps=true∧its=A7 ⟨file,ps⟩ y.its:=by
 unfold Bx at h;split at h
 ·cases h
 ·rename_i ps hps;injection h with h;exact⟨ps,(nL_ hps).2.2.2.2.1,h.symm⟩
theorem hc_ {ps:List Pt}(hy:VG y)(h5:y.its.length<=5)(hf:nameB file=true)(hps:Ac ps=true):VG {y with its:=A7 ⟨file,ps⟩ y.its}:=by
 obtain⟨h1,h2,h3,_,h6⟩:=hy;refine⟨h1,h2,h3,?_,fun x hx=>?_⟩
 ·have:=kw_ ⟨file,ps⟩ y.its
  simp only;omega
 ·rcases kx_ hx with rfl | hx
  ·exact⟨hf,hps⟩
  ·exact h6 x hx
theorem eX_ {R:Int⊕List It}(hp:Aj p=true)(hd:AB p)(hy:p.vs[i]?=some y)(hR:∀ its,R=.inr its->VG {y with its:=its})(h:Ca p i y R=.inr q):CW q:=by
 have hb:=ib_ hp hd
 cases R with
 |inl c=>cases h
 |inr its=>
  injection h with h;subst h;exact hb.set (z:={y with its:=its}) hy rfl (hR its rfl) hb.el hb.es
theorem lh_ {name:ByteArray}(hp:Aj p=true)(hd:AB p)(hn:nameB name=true)(hi:its.length<=6∧∀ x∈its,nameB x.nm=true∧Ac x.ps=true)(h:Dj p name its=.inr q):CW q:=by
 have hb:=ib_ hp hd;obtain⟨v6,_,n1,_,_⟩:=bL_ hp;obtain⟨_,⟨n0,_⟩,_⟩:=aQ_ hp;unfold Dj at h;split at h
 ·cases h
 ·rename_i hno;injection h with h;subst h;refine⟨by simp;omega,fun v hv=>?_,?_,hb.el,hb.es,hb.rl,hb.rs,hb.ll,hb.ls⟩
  ·rcases Zs.1 hv with hv | hv
   ·exact hb.g v hv
   ·simp only[YP] at hv;subst hv;exact⟨n0,n1,hn,hi.1,hi.2⟩
  ·rw[List.map_append,Yf];refine⟨hb.nd,by simp,fun a ha b hc=>?_⟩;simp only[YD,List.map_nil,YP] at hc;subst hc;obtain⟨v,hv,rfl⟩:=ZT.1 ha;unfold volI at hno
   have:=YL.1 hno v hv
   simpa using this
theorem pU_ {o:Opr}(hp:Aj p=true)(hd:AB p)(ho:opB o=true)(h:Dv p o.k o.vol o.file o.to o.into o.at' o.fr o.ln o.data=.inr q):CW q:=by
 have hb:=ib_ hp hd;have hf:=h5_ ho;by_cases hk:o.k=9
 ·rw[i3_ hk] at h;injection h with h;subst h;have hr:=c6_ hp;rw[lf_ hp];refine⟨hb.vn,hb.g,hb.nd,?_,fun x hx=>hb.es x (YG.1 hx).1,(a0_ hr).1,g7_ hb.rs hb.ls,Zg _,fun c hc=>by cases hc⟩
  have:=Yc (fun e:Ex=>(AQ p.rf p.lt).any (fun c=>c.o.a==e.a)) p.ex
  have h2:=hb.el;show (p.ex.filter _).length<=_;omega
 unfold opB at ho;unfold Dv at h;rcases hf with e | e | e | e | e | e | e | e | e | e
 ·simp[e] at ho h;exact lh_ hp hd ho.1 ⟨by simp,fun x hx=>by cases hx⟩ h
 ·simp[e] at ho h;obtain⟨i,y,h1,h2,h3⟩:=bY_ h;have hy:=cQ_ hp y (Zc h2);unfold Ck at h3
  cases he:AV p.size p.ex o.data with
  |none=>rw[he] at h3;cases h3
  |some r=>
   obtain⟨L,a⟩:=r;rw[he] at h3;simp only at h3
   cases hl:Bx y o.file ((AO y o.file).getD []) o.at' [⟨a,0,o.data.size⟩] with
   |inl c=>rw[hl] at h3;cases h3
   |inr its=>
    rw[hl] at h3;injection h3 with h3;subst h3;obtain⟨ps,ha,rfl⟩:=eW_ hl
    have hE:L.length<=60∧BT L:=by
     have hj:=l6_ ho.1.2;have hh:=hb.el;unfold AV at he;split at he
     ·rename_i hc;obtain⟨x,_,hx⟩:=ZW.1 he;injection hx with hx _;subst hx;have hg:=hc.2.2;refine⟨by unfold Cz;simp;omega,fun z hz=>?_⟩;unfold Cz at hz;rcases Zs.1 hz with hz | hz
      ·rcases Zs.1 hz with hz | hz
       ·exact hb.es z (ZX hz)
       ·simp only[YP] at hz;subst hz;simp only;omega
      ·exact hb.es z (List.mem_of_mem_drop hz)
     ·cases he
    exact hb.set (z:={y with its:=A7 ⟨o.file,ps⟩ y.its}) h2 rfl (hc_ hy.1 hy.2 ho.1.1.1.2 ha) hE.1 hE.2
 ·simp[e] at ho h;obtain⟨i,y,h1,h2,h3⟩:=bY_ h;have hy:=cQ_ hp y (Zc h2);refine eX_ hp hd h2 (fun its hi=>?_) h3;unfold DW at hi;split at hi
  ·cases hi
  ·obtain⟨ps,ha,rfl⟩:=eW_ hi;exact hc_ hy.1 hy.2 ho.1.1.2 ha
 ·simp[e] at ho h;obtain⟨i,y,h1,h2,h3⟩:=bY_ h;have hy:=cQ_ hp y (Zc h2);refine eX_ hp hd h2 (fun its hi=>?_) h3;unfold BQ at hi;split at hi
  ·cases hi
  ·injection hi with hi;subst hi;obtain⟨⟨a1,a2,a3,a4,a5⟩,_⟩:=hy;refine⟨a1,a2,a3,?_,fun x hx=>a5 x (YG.1 hx).1⟩
   have:=Yc (fun t:It=>!(t.nm.toList==o.file.toList)) y.its
   simp only;omega
 ·simp[e] at ho h;obtain⟨i,y,h1,h2,h3⟩:=bY_ h;have hy:=cQ_ hp y (Zc h2);refine eX_ hp hd h2 (fun its hi=>?_) h3;unfold CH at hi;split at hi
  ·cases hi
  ·split at hi
   ·cases hi
   ·split at hi
    ·cases hi
    ·obtain⟨ps,ha,rfl⟩:=eW_ hi;exact hc_ hy.1 hy.2 ho.1.1.1.1.2 ha
 ·simp[e] at ho h;obtain⟨i,y,h1,h2,h3⟩:=bY_ h;obtain⟨⟨a1,a2,a3,a4,a5⟩,_⟩:=cQ_ hp y (Zc h2);exact lh_ hp hd ho.1.2 ⟨a4,a5⟩ h3
 ·simp[e] at ho h;obtain⟨i,y,h1,h2,h3⟩:=bY_ h;injection h3 with h3;subst h3;have hm:=Yc (fun v:Vo=>!(v.nm.toList==o.vol.toList)) p.vs;have h7:=hb.vn;refine⟨?_,fun v hv=>hb.g v (YG.1 hv).1,hb.nd.sublist (List.filter_sublist.map _),hb.el,hb.es,hb.rl,hb.rs,hb.ll,hb.ls⟩;show (p.vs.filter _).length<=_;omega
 ·simp[e] at ho h;obtain⟨i,y,h1,h2,h3⟩:=bY_ h;have hy:=cQ_ hp y (Zc h2);split at h3
  ·cases h3
  ·injection h3 with h3;subst h3;exact hb.set (z:={y with fx:=true}) h2 rfl hy.1 hb.el hb.es
 ·exact absurd e hk
 ·simp[e] at ho h;obtain⟨i,y,h1,h2,h3⟩:=bY_ h;have hy:=cQ_ hp y (Zc h2);refine eX_ hp hd h2 (fun its hi=>?_) h3;unfold Ci at hi;split at hi
  ·cases hi
  ·obtain⟨ps,ha,rfl⟩:=eW_ hi;exact hc_ hy.1 hy.2 ho.1.1.1.2 ha
def En:Value:=.agg #[.int .i64 0,.int .i64 0,.slice none 0 0,.slice none 0 0,.slice none 0 0,.slice none 0 0]
def Io (S:Addr->Prop)(B:Nat)(e:Ending)(w':World):Int⊕Po->Prop
 |.inl c=>∃ a,S a∧e=.returned (.tuple #[En,BO c a])
 |.inr q=>∃ v rows,e=.returned (.tuple #[v,.nilIface])∧BL B w' v q rows∧AB q
def Hg (p:Po):Int⊕Po->Int⊕Po
 |.inl c=>.inl c
 |.inr q=>if Aj (AX p q)=true then .inr (AX p q) else .inl 5
def GL (p:Po)(o:Opr):Int⊕Po:=Hg p (Dv p o.k o.vol o.file o.to o.into o.at' o.fr o.ln o.data)
theorem li_ (ep:Addr)(B0:Nat)(v:Value)(p:Po)(o:Opr)(w:World)(h:AF B0 w v p)(hd:AB p)(hp:Aj p=false)(hep:BF w 0 ep):
  Calls prog 27 #[v,.agg #[.int .i64 o.k,.string o.vol,.string o.file,.string o.to,.string o.into,.int .i64 o.at',.int .i64 o.fr,.int .i64 o.ln,.string o.data]] w fun e w'=>e=.returned (.tuple #[En,BO 1 ep])∧Below w.heap.size w w':=by
 have hh:=h;obtain⟨ea,en,ec,va,vn,vc,ra,rn,rc,la,ln,lc,rfl,_⟩:=h;go_enter func27,ntmps27
 go_wp2_with fail
 refine (ch_ B0 _ p _ (hh.below (by go_grown)) hd).mono ?_;rintro e w1 ⟨rfl,he⟩;obtain⟨C,O,D,ha,hk⟩:=bx3 he;clear he;have hq:=hep.below ha;rw[hp];have hb:w1.drew.cell? ⟨0,0,none⟩=some (.iface 279 (.pointer (some ep))):=hq;have DD:Blk w1.drew (w.heap.size+2) #[.int .i64 0,.int .i64 0,.slice none 0 0,.slice none 0 0,.slice none 0 0,.slice none 0 0] 28:=D;have BB:Below w.heap.size w w1.drew:=ha.drew
 go_wp2_with fail
 have hj:(fun u:World=>u.cell? ⟨0,0,none⟩=some (.iface 279 (.pointer (some ep)))) w1.drew:=hb;refine aC_ (S:=(fun u:World=>u.cell? ⟨0,0,none⟩=some (.iface 279 (.pointer (some ep))))) 6 (by kernel_rfl) rfl ?_;generalize w1.drew=wd at DD BB hb hj ⊢;obtain⟨x0,x1,x2,x3,x4,x5⟩:=DD.six';obtain⟨f0,f1,f2,f3,f4,f5⟩:=fz6 DD;refine tk 0 ?_;refine tk 1 ?_;refine tk 2 ?_;refine tk 3 ?_;refine AW (i:=4) (by kernel_rfl) rfl (fun K hK=>?_);go_simp;obtain⟨W8,hf,W0,hg⟩:=AU DD (.int .i64 0) (.int .i64 0) (.slice none 0 0) (.slice none 0 0) (.slice none 0 0) (.slice none 0 0);rw[<-hf];clear hf;have hc:=hg.cell hb (by simp only[ne_eq,Zo];omega);refine hK.out _ _ hc (fun hHeld=>?_);clear hK K
 try simp only[Act.put,lsA,lsB,lsC]
 refine tk 5 ?_;refine wpAnyH_done (by kernel_rfl) ?_ _;go_wp2;refine YW (ad_ rfl _ W8 (w.heap.size+2) _ _ _ _ _ rfl W0 underlying28 rfl (by kernel_rfl) rfl) rfl ?_;exact⟨rfl,BB.grown hg BB.size (fun j e=>by cases e;omega)⟩
theorem fG_:∀ {l:List Ct} {c:Ct},Bv l->c∈l->tot c.o l=c.n
 |[],_,_,h=>by cases h
 |y::r,c,hr,h=>by
  have h1:=(Ye.1 hr).1;simp only[tot];rcases Zn.1 h with rfl | h
  ·rw[a3_,if_pos rfl,cc_ h1];omega
  ·rw[dA_ (h1 c h),fG_ hr.of_cons h];simp
theorem m1_ (h:Et l):∀ c∈AA l,0<=c.n∧c.n<=42000:=fun c hc=>by
 obtain⟨h1,_,h3⟩:=bR_ l;have e:=fG_ h1 hc;rw[h3] at e;have h4:=cy_ (fZ_ l) c.o;have h5:=fF_ (l:=l) (fun v hv=>⟨(h.2 v hv).1,fun x hx=>((h.2 v hv).2 x hx).1⟩);have h6:=h.1;omega
theorem qe_ {l:List Ct}{M:Int}(h:∀ c∈l,0<=c.n∧c.n<=M)(hr:Bv l)(o:Ow):0<=tot o l∧(tot o l<=M∨tot o l=0):=by
 by_cases hc:∃ c∈l,c.o=o
 ·obtain⟨c,hm,rfl⟩:=hc;rw[fG_ hr hm];exact⟨(h c hm).1,.inl (h c hm).2⟩
 ·rw[bB_ (fun c hm e=>hc ⟨c,hm,e⟩)];exact⟨YB _,.inr rfl⟩
theorem hd_ (h:WfV l):WfC (AA l):=fun c hc=>by
 rcases eI_ hc with⟨d,hd,_⟩ | ⟨d,hd,e⟩
 ·cases hd
 ·rw[e];exact hN_ h d hd
theorem qf_ {l:List Ct}(h:WfC l):WfC (Cv l):=fun c hc=>by
 obtain⟨d,hd,rfl⟩:=ZT.1 hc;exact h d hd
theorem m2_ (h:AB p):H5 p:=by
 obtain⟨z1,z2,z3,z4,z5,z6,z7,z8⟩:=h;exact⟨z1,z3,z5,z7,fun v hv=>⟨(z4 v hv).2.1,fun y hy=>((z4 v hv).2.2 y hy).2⟩⟩
theorem mq_ (ep:Addr)(B0:Nat)(v:Value)(p:Po)(o:Opr)(w:World)(h:AF B0 w v p)(hd:AB p)(hp:Aj p=true)(ho:opB o=false)(hso:BE o)(hep:BF w 1 ep):
  Calls prog 27 #[v,.agg #[.int .i64 o.k,.string o.vol,.string o.file,.string o.to,.string o.into,.int .i64 o.at',.int .i64 o.fr,.int .i64 o.ln,.string o.data]] w fun e w'=>e=.returned (.tuple #[En,BO 2 ep])∧Below w.heap.size w w':=by
 have hk:=h;obtain⟨ea,en,ec,va,vn,vc,ra,rn,rc,la,ln,lc,rfl,_⟩:=h;go_enter func27,ntmps27
 go_wp2_with fail
 refine (ch_ B0 _ p _ (hk.below (by go_grown)) hd).mono ?_;rintro e w1 ⟨rfl,hg⟩;obtain⟨C,O,D,ha,hm⟩:=bx3 hg;clear hg;rw[hp];have o0:=O.cell 0;have o1:=O.cell 1;have o2:=O.cell 2;have o3:=O.cell 3;have o4:=O.cell 4;have o5:=O.cell 5;have o6:=O.cell 6;have o7:=O.cell 7;have o8:=O.cell 8;simp only[lgA,lgB,lgC] at o0 o1 o2 o3 o4 o5 o6 o7 o8
 go_wp2_with fail
 refine (iO_ o _ hso).mono ?_;rintro e w2 ⟨rfl,hb⟩;replace D:=D.below hb;have hq:=hep.below (Aa ha hb);have hc:=Aa ha hb;rw[ho];have he:w2.drew.cell? ⟨1,0,none⟩=some (.iface 279 (.pointer (some ep))):=hq;have DD:Blk w2.drew (w.heap.size+2) #[.int .i64 0,.int .i64 0,.slice none 0 0,.slice none 0 0,.slice none 0 0,.slice none 0 0] 28:=D;have BB:Below w.heap.size w w2.drew:=hc.drew
 go_wp2_with fail
 have hl:(fun u:World=>u.cell? ⟨1,0,none⟩=some (.iface 279 (.pointer (some ep)))) w2.drew:=he;refine aC_ (S:=(fun u:World=>u.cell? ⟨1,0,none⟩=some (.iface 279 (.pointer (some ep))))) 6 (by kernel_rfl) rfl ?_;generalize w2.drew=wd at DD BB he hl ⊢;obtain⟨x0,x1,x2,x3,x4,x5⟩:=DD.six';obtain⟨f0,f1,f2,f3,f4,f5⟩:=fz6 DD;refine tk 0 ?_;refine tk 1 ?_;refine tk 2 ?_;refine tk 3 ?_;refine AW (i:=4) (by kernel_rfl) rfl (fun K hK=>?_);go_simp;obtain⟨W8,hh,W0,hj⟩:=AU DD (.int .i64 0) (.int .i64 0) (.slice none 0 0) (.slice none 0 0) (.slice none 0 0) (.slice none 0 0);rw[<-hh];clear hh;have hf:=hj.cell he (by simp only[ne_eq,Zo];omega);refine hK.out _ _ hf (fun hHeld=>?_);clear hK K
 try simp only[Act.put,lsA,lsB,lsC]
 refine tk 5 ?_;refine wpAnyH_done (by kernel_rfl) ?_ _;go_wp2;refine YW (ad_ rfl _ W8 (w.heap.size+2) _ _ _ _ _ rfl W0 underlying28 rfl (by kernel_rfl) rfl) rfl ?_;exact⟨rfl,BB.grown hj BB.size (fun j e=>by cases e;omega)⟩
end
end Go.Proofs.YtkodenjhajafpaaGreatDoor
