/- Ops that are done when they are tried, by the model. -/
import Derived.Test.YtdmeabghpchckaaGreatDoorU33
import Derived.Test.YtdmeabghpchckaaGreatDoorU34
set_option maxHeartbeats 20000000
set_option maxRecDepth 100000
namespace Go.Proofs.YtdmeabghpchckaaGreatDoor
section
open Go Go.RowKit
variable{t:Int}{l:List Pt}
theorem nL_ {m o:List Pt}(h:BN l t m=some o):Ac l=true∧0<=t∧t<=100∧Ac m=true∧Ac o=true∧o=Ak [] (Bp l t m):=by
 rw[mT_] at h;unfold FQ at h;split at h
 ·rename_i hh;obtain rfl:=Zi h;exact⟨hh.1.1,hh.1.2.1,hh.1.2.2.1,hh.1.2.2.2,hh.2,du_ hh.1.1⟩
 ·cases h
end
section
open Go Go.RowKit Go.BigFrame
variable{α:Type}{file s vol:ByteArray}{at' size:Int}{x:It}{e:List Ex}{l m:List Pt}{vs:List Vo}{i:Nat}{o:Opr}{p q:Po}{v:Vo}
def B9 (p:Po):Int⊕Po->Int×Po
 |.inl c=>(c,p)
 |.inr q=>if Ai (A6 p q)=true then (0,A6 p q) else (5,p)
def Cj (p:Po)(r:Int×Po):Int×Po:=if r.1=0 then (if Ai (A6 p r.2)=true then (0,A6 p r.2) else (5,p)) else (r.1,p)
theorem bt_ {c:Int}(h:c≠0):Cj p (c,q)=(c,p):=by unfold Cj;rw[if_neg h]
theorem dw_:Cj p (0,q)=B9 p (.inr q):=by unfold Cj B9;rw[if_pos rfl]
theorem mj_ (hl:Ac l=true)(hm:Ac m=true)(h0:0<=at')(h1:at'<=100):BN l at' m=if Ac (AH l at' m)=true then some (AH l at' m) else none:=by
 rw[mT_];unfold FQ;by_cases h:Ac (AH l at' m)=true
 ·rw[if_pos ⟨⟨hl,h0,h1,hm⟩,h⟩,if_pos h]
 ·rw[if_neg (fun hc=>h hc.2),if_neg h]
theorem dY_ (h1:volI vs vol=some i)(h2:vs[i]?=some v):Ar vs vol file=AO v file:=by
 unfold Ar AO;rw[h1];simp only[YO,h2]
theorem mk_:Ar vs vol file=((volI vs vol).bind (fun j=>vs[j]?)).bind (fun v=>AO v file):=by
 unfold Ar AO
 cases volI vs vol with
 |none=>rfl
 |some i=>cases vs[i]?<;>rfl
theorem k8_ (x:It):∀ (l:List It) (st:List It×Bool),(st.2=true->x∈st.1)->((l.foldl (Bh x) st).2=true->x∈(l.foldl (Bh x) st).1)
 |[],_,h=>h
 |y::r,st,h=>by
  rw[YE];refine k8_ x r _ (fun hd=>?_);simp only[Bh] at hd ⊢;rw[Zs];obtain⟨a,d⟩:=st
  cases d
  ·simp only[Bool.false_or] at hd;simp[hd]
  ·left;simpa using h rfl
theorem oR_ (x:It)(l:List It):x∈A9 x l:=by
 unfold A9 DH;split
 ·rename_i h;exact k8_ x l ([],false) (fun h=>by cases h) h
 ·simp
theorem nM_ (hv:v∈q.vs)(hx:x∈v.its)(hb:¬ Ac x.ps=true):Ai q=false:=by
 cases h:Ai q with
 |false=>rfl
 |true=>
  exfalso;obtain⟨_,h2,_⟩:=bL_ h;have h3:=(b0_ h2 v hv).1;simp only[itemsB,Zf,ZU] at h3;have h4:=db_ h3.2 x hx;obtain⟨s,hs⟩:=Option.isSome_iff_exists.1 h4;exact hb (fl_ hs).1
theorem k9_ {E:List Ex}(hv:p.vs[i]?=some v)(file:ByteArray)(hl:Ac l=true)(hm:Ac m=true)(h0:0<=at')(h1:at'<=100):
  B9 p (Dn p i v (match Bu v file l at' m with | .inl c=>.inl c | .inr its=>.inr (E,its)))=Cj p (0,{p with ex:=E,vs:=p.vs.set i {v with its:=A9 ⟨file,AH l at' m⟩ v.its}}):=by
 unfold Bu;rw[mj_ hl hm h0 h1,dw_];by_cases h:Ac (AH l at' m)=true
 ·rw[if_pos h];rfl
 ·rw[if_neg h];have hi:=(Zb.1 hv).1;have hb:Ai (A6 p {p with ex:=E,vs:=p.vs.set i {v with its:=A9 ⟨file,AH l at' m⟩ v.its}})=false:=nM_ (v:={v with its:=A9 ⟨file,AH l at' m⟩ v.its}) (x:=⟨file,AH l at' m⟩) (List.mem_set hi _) (oR_ _ _) h;simp only[B9,Dn,hb,Zj,if_false]
theorem qd_ (p:Po)(i:Nat)(v:Vo)(R:Int⊕List It):BZ p i v R=Dn p i v (match R with | .inl c=>.inl c | .inr its=>.inr (p.ex,its)):=by
 cases R<;>rfl
theorem gA_ (hv:p.vs[i]?=some v)(file:ByteArray)(hl:Ac l=true)(hm:Ac m=true)(h0:0<=at')(h1:at'<=100):
  B9 p (BZ p i v (Bu v file l at' m))=Cj p (0,{p with vs:=p.vs.set i {v with its:=A9 ⟨file,AH l at' m⟩ v.its}}):=by
 rw[qd_];exact k9_ hv file hl hm h0 h1
theorem oS_ {s:Int}(hl:Ac l=true)(h0:0<=s):AH (slp 0 (min s (Af l)) 0 l) s []=if s > Af l then AH l (Af l) [⟨0,0,s-Af l⟩] else Ak [] (slp 0 s 0 l):=by
 have hb:=(ae_ hl).2.1;have hr:=eJ_ hl 0 (min s (Af l));have hn:=az_ l hb;by_cases h:s > Af l
 ·have e:slp 0 (min s (Af l)) 0 l=l:=g9_ l 0 (by omega) (by omega) hb;rw[if_pos h,e,du_ hl,du_ hl];congr 1;unfold Bp;rw[e,if_pos h,if_neg (by omega),g8_ (by simp only[Af];omega),g9_ l 0 (by omega) (by omega) hb,g8_ (by simp only[Af];omega)];simp
 ·have hs:min s (Af l)=s:=by omega
  rw[if_neg h,hs];rw[hs] at hr;have ha:Af (slp 0 s 0 l)=s:=by rw[mZ_ (by omega) l 0 hb];omega
  rw[du_ hr];congr 1;have e5:slp (min (s+Af []) s) s 0 (slp 0 s 0 l)=[]:=g8_ (by simp only[Af];omega) _ _;have e6:slp 0 (min s s) 0 (slp 0 s 0 l)=slp 0 s 0 l:=g9_ _ 0 (by omega) (by rw[ha];omega) (ae_ hr).2.1;unfold Bp;rw[ha,if_neg (by omega),e5,e6];simp
theorem h6_ (f:α->List UInt8)(s:List UInt8):∀ {l:List α} {k:Nat},(l.map f).Nodup->l.findIdx? (fun x=>f x==s)=some k->l.filter (fun x=>!(f x==s))=l.take k++l.drop (k+1)
 |[],_,_,h=>by cases h
 |x::r,k,hn,h=>by
  rw[YD,List.nodup_cons] at hn;rw[List.findIdx?_cons] at h;by_cases hx:(f x==s)=true
  ·rw[if_pos hx] at h;obtain rfl:=Zi h
   have hr:r.filter (fun x=>!(f x==s))=r:=by
    rw[YA];intro y hy
    have:f x=s:=by simpa using hx
    have ha:f y≠s:=fun e=>hn.1 (by rw[this,<-e];exact List.mem_map_of_mem hy);simpa using ha
   rw[ZH,hx];simpa using hr
  ·rw[if_neg hx] at h
   cases hk:r.findIdx? (fun x=>f x==s) with
   |none=>rw[hk] at h;cases h
   |some j=>
    rw[hk] at h;obtain rfl:=Zi h;have hb:(f x==s)=false:=by simpa using hx
    rw[ZH,hb];simpa using h6_ f s hn.2 hk
theorem nN_ {l:List It}(h:EP l):(l.map (·.nm.toList)).Nodup:=by
 rw[List.nodup_iff_pairwise_ne,List.pairwise_map];exact h.imp (fun {a b} ha e=>by rw[e,cn_] at ha;cases ha)
theorem i1_ (h:volI vs s=some i):∃ v,vs[i]?=some v:=by
 unfold volI at h
 have:=(ZA.1 h).1
 exact⟨vs[i],by simp[this]⟩
theorem oT_ {l:List It}(h:itI l s=some i):∃ v,l[i]?=some v:=by
 unfold itI at h
 have:=(ZA.1 h).1
 exact⟨l[i],by simp[this]⟩
theorem ha_ {F:Nat->Vo->Int⊕Po}{nm fl:ByteArray}(e1:(if o.k=5 then o.to else o.vol)=nm)(e2:(if o.k=5 then o.into else o.file)=fl)(hF:∀ (i:Nat) (v:Vo),volI p.vs nm=some i->p.vs[i]?=some v->B9 p (F i v)=Cj p (if (Ah p o).1=0 then (0,{p with ex:=(Ah p o).2.1,vs:=p.vs.set i {v with its:=A9 ⟨fl,(Ah p o).2.2⟩ v.its}}) else ((Ah p o).1,p))):B9 p (AG p nm true F)=Cj p (Ap p o):=by
 unfold AG Ap;simp only[e1,e2]
 cases h1:volI p.vs nm with
 |none=>exact (bt_ (by decide)).symm
 |some i=>
  simp only
  cases h2:p.vs[i]? with
  |none=>exact (bt_ (by decide)).symm
  |some v=>
   simp only[Zp];by_cases h3:v.fx=true
   ·rw[if_pos h3,if_pos h3];exact (bt_ (by decide)).symm
   ·rw[if_neg h3,if_neg h3];exact hF i v h1 h2
theorem nO_ (hk:o.k=10):Ah p o=(match Ar p.vs o.vol o.file with | none=>(3,p.ex,[]) | some q=>(0,p.ex,AH q o.at' [⟨0,0,o.ln⟩])):=by
 unfold Ah;simp[hk];rfl
theorem oU_ (hk:o.k=3):Ah p o=(match Ar p.vs o.vol o.file with | none=>(3,p.ex,[]) | some q=>if o.ln > Af q then (0,p.ex,AH q (Af q) [⟨0,0,o.ln-Af q⟩]) else (0,p.ex,Ak [] (slp 0 o.ln 0 q))):=by
 unfold Ah;simp[hk];rfl
theorem oV_ (hk:o.k=2):Ah p o=(match AV p.size p.ex o.data with | none=>(5,p.ex,[]) | some (l,a)=>(0,l,AH ((Ar p.vs o.vol o.file).getD []) o.at' [⟨a,0,o.data.size⟩])):=by
 unfold Ah;simp[hk];rfl
theorem oW_ (hk:o.k=5):Ah p o=(match Ar p.vs o.vol o.file with | none=>(3,p.ex,[]) | some src=>if o.fr+o.ln > Af src then (3,p.ex,[]) else (0,p.ex,AH ((Ar p.vs o.to o.into).getD []) o.at' (Ak [] (slp o.fr (o.fr+o.ln) 0 src)))):=by
 unfold Ah;simp[hk];rfl
theorem la_ (hp:Ai p=true)(hk:o.k=10)(h0:0<=o.at')(h1:o.at'<=100)(l0:1<=o.ln)(l1:o.ln<=100):B9 p (AG p o.vol true (fun i y=>BZ p i y (Cc y o.file o.at' o.ln)))=Cj p (Ap p o):=by
 refine ha_ (if_neg (by omega)) (if_neg (by omega)) (fun i v hi hv=>?_);have ha:=dY_ (file:=o.file) hi hv;rw[nO_ hk,ha];unfold Cc
 cases hf:AO v o.file with
 |none=>exact (bt_ (by decide)).symm
 |some q=>
  have hq:=(bb_ hp (ha.trans hf)).1;have hm:Ac [⟨0,0,o.ln⟩]=true:=by simp[Ac,pgo,Ag];omega
  exact gA_ hv o.file hq hm h0 h1
theorem nP_ (hp:Ai p=true)(hk:o.k=3)(l0:0<=o.ln)(l1:o.ln<=100):B9 p (AG p o.vol true (fun i y=>BZ p i y (DT y o.file o.ln)))=Cj p (Ap p o):=by
 refine ha_ (if_neg (by omega)) (if_neg (by omega)) (fun i v hi hv=>?_);have ha:=dY_ (file:=o.file) hi hv;rw[oU_ hk,ha];unfold DT
 cases hf:AO v o.file with
 |none=>exact (bt_ (by decide)).symm
 |some q=>
  have hq:=(bb_ hp (ha.trans hf)).1;have hn:=az_ q (ae_ hq).2.1;have hl:Cb q=Af q:=by unfold Cb;rw[if_pos hq]
  simp only;rw[hl,EI hq (YB 0) (by omega) (by omega),Yw,gA_ hv o.file (eJ_ hq _ _) rfl l0 l1,oS_ hq l0];by_cases h:o.ln > Af q
  ·simp only[if_pos h,if_true]
  ·simp only[if_neg h,if_true]
theorem lb_ (hp:Ai p=true)(hk:o.k=2)(h0:0<=o.at')(h1:o.at'<=100)(hd:As o.data=true):B9 p (AG p o.vol true (fun i y=>Dn p i y (Cd p.size p.ex y o.file o.at' o.data)))=Cj p (Ap p o):=by
 refine ha_ (if_neg (by omega)) (if_neg (by omega)) (fun i v hi hv=>?_);have hb:=dY_ (file:=o.file) hi hv;rw[oV_ hk,hb];unfold Cd
 cases hc:AV p.size p.ex o.data with
 |none=>exact (bt_ (by decide)).symm
 |some r=>
  obtain⟨L,a⟩:=r;have hq:Ac ((AO v o.file).getD [])=true:=by rw[<-hb];exact bH_ hp
  have ha:=gw_ hc;have he:=bl_ hd;have hf:=l6_ hd
  have hm:Ac [⟨a,0,o.data.size⟩]=true:=by
   have h0:(a==0)=false:=ZV.2 (by omega);simp[Ac,pgo,Ag,h0];omega
  exact k9_ hv o.file hq hm h0 h1
theorem ml_ (hp:Ai p=true)(hk:o.k=5)(h0:0<=o.at')(h1:o.at'<=100)(f0:0<=o.fr)(l0:1<=o.ln):B9 p (AG p o.to true (fun i y=>BZ p i y (Cz p.vs y o.into o.at' o.vol o.file o.fr (o.fr+o.ln))))=Cj p (Ap p o):=by
 refine ha_ (if_pos hk) (if_pos hk) (fun i v hi hv=>?_);have ha:=dY_ (file:=o.into) hi hv;have hq:Ac ((AO v o.into).getD [])=true:=by rw[<-ha];exact bH_ hp
 rw[oW_ hk,ha];unfold Cz;have hb:=mk_ (vs:=p.vs) (vol:=o.vol) (file:=o.file)
 cases hu:(volI p.vs o.vol).bind (fun j=>p.vs[j]?) with
 |none=>
  rw[hu] at hb;rw[hb];exact (bt_ (by decide)).symm
 |some u=>
  rw[hu,YO] at hb;rw[hb];simp only
  cases hf:AO u o.file with
  |none=>exact (bt_ (by decide)).symm
  |some q=>
   have hr:=(bb_ hp (hb.trans hf)).1;simp only;by_cases h:o.fr+o.ln > Af q
   ·have hs:AY q o.fr (o.fr+o.ln)=none:=by unfold AY;rw[if_neg (fun hc=>by omega)]
    rw[hs,if_pos h];exact (bt_ (by decide)).symm
   ·rw[EI hr f0 (by omega) (by omega),if_neg h];simp only[if_true];rw[fD_ (b8_ hr _ _)];exact gA_ hv o.into hq (eJ_ hr _ _) h0 h1
theorem mm_ (hk:o.k=1):B9 p (Dd p o.vol [])=Cj p (Ay p o):=by
 unfold Dd Ay
 cases h1:volI p.vs o.vol with
 |none=>simp only[hk,if_true];exact dw_.symm
 |some i=>
  obtain⟨v,hv⟩:=i1_ h1;simp only[hv,hk,if_true];exact (bt_ (by decide)).symm
theorem jF_ {b:Bool}{F:Nat->Vo->Int⊕Po}(hk:¬ o.k=1)(hF:∀ (i:Nat) (v:Vo),volI p.vs o.vol=some i->p.vs[i]?=some v->B9 p (if (b&&v.fx)=true then .inl 6 else F i v)=Cj p (Ay p o)):B9 p (AG p o.vol b F)=Cj p (Ay p o):=by
 unfold AG
 cases h1:volI p.vs o.vol with
 |none=>
  unfold Ay;rw[h1];simp only[if_neg hk];exact (bt_ (by decide)).symm
 |some i=>
  obtain⟨v,hv⟩:=i1_ h1;simp only[hv];exact hF i v h1 hv
theorem hb_ (h1:volI p.vs o.vol=some i)(h2:p.vs[i]?=some v):Ay p o=(if o.k=1 then ((4:Int),p)
      else if o.k=6 then (match volI p.vs o.to with | some _=>(4,p) | none=>(0,{p with vs:=p.vs++[⟨p.next,o.to,false,v.its⟩],next:=p.next+1}))
      else if o.k=7 then (0,{p with vs:=p.vs.take i++p.vs.drop (i+1)})
      else if o.k=8 then (if v.fx=true then (6,p) else (0,{p with vs:=p.vs.set i {v with fx:=true}}))
      else if o.k=4 then (if v.fx=true then (6,p) else match itI v.its o.file with | none=>(3,p) | some k=>(0,{p with vs:=p.vs.set i {v with its:=v.its.take k++v.its.drop (k+1)}}))
      else (0,p)):=by
 unfold Ay;rw[h1];simp only[h2];rfl
theorem mn_ (hk:o.k=6):B9 p (AG p o.vol false (fun _ y=>Dd p o.to y.its))=Cj p (Ay p o):=by
 refine jF_ (by omega) (fun i v h1 h2=>?_);rw[hb_ h1 h2];simp only[hk,Zr,Zj,if_false,if_true,show ¬ (6:Int)=1 by decide];unfold Dd
 cases volI p.vs o.to with
 |some _=>exact (bt_ (by decide)).symm
 |none=>exact dw_.symm
theorem mo_ (hp:Ai p=true)(hk:o.k=7):B9 p (AG p o.vol false (fun _ _=>.inr {p with vs:=p.vs.filter (fun v=>!(v.nm.toList==o.vol.toList))}))=Cj p (Ay p o):=by
 refine jF_ (by omega) (fun i v h1 h2=>?_);rw[hb_ h1 h2];simp only[hk,Zr,Zj,if_false,if_true,show ¬ (7:Int)=1 by decide,show ¬ (7:Int)=6 by decide];rw[dw_,h6_ (fun v:Vo=>v.nm.toList) o.vol.toList (bL_ hp).2.2.2.2 h1]
theorem nQ_ (hk:o.k=8):B9 p (AG p o.vol false (fun i y=>(if y.fx=true then .inl 6 else .inr {p with vs:=p.vs.set i {y with fx:=true}}:Int⊕Po)))=Cj p (Ay p o):=by
 refine jF_ (by omega) (fun i v h1 h2=>?_);rw[hb_ h1 h2];simp only[hk,Zr,Zj,if_false,if_true,show ¬ (8:Int)=1 by decide,show ¬ (8:Int)=6 by decide,show ¬ (8:Int)=7 by decide]
 cases v.fx
 ·exact dw_.symm
 ·exact (bt_ (by decide)).symm
theorem jG_ (hp:Ai p=true)(hk:o.k=4):B9 p (AG p o.vol true (fun i y=>BZ p i y (BL y o.file)))=Cj p (Ay p o):=by
 refine jF_ (by omega) (fun i v h1 h2=>?_);rw[hb_ h1 h2];simp only[hk,Zp,if_false,if_true,show ¬ (4:Int)=1 by decide,show ¬ (4:Int)=6 by decide,show ¬ (4:Int)=7 by decide,show ¬ (4:Int)=8 by decide];by_cases hfx:v.fx=true
 ·rw[if_pos hfx,if_pos hfx];exact (bt_ (by decide)).symm
 ·rw[if_neg hfx,if_neg hfx];have ha:=(iX_ (b0_ (bL_ hp).2.1 v (Zc h2)).1).1;unfold BL AO
  cases hi:itI v.its o.file with
  |none=>exact (bt_ (by decide)).symm
  |some k=>
   obtain⟨x,hx⟩:=oT_ hi;simp only[YO,hx,Option.map_some,BZ];rw[dw_,h6_ (fun v:It=>v.nm.toList) o.file.toList (nN_ ha) hi]
theorem nR_ (hp:Ai p=true)(ho:opB o=true)(hk:¬ o.k=9):B9 p (Dq p o.k o.vol o.file o.to o.into o.at' o.fr o.ln o.data)=Cj p (BQ p o):=by
 have ha:=h5_ ho;unfold opB inB at ho;unfold Dq BQ;rcases ha with h | h | h | h | h | h | h | h | h | h
 ·simp only[h,show ¬ ((1:Int)=2∨(1:Int)=3∨(1:Int)=5∨(1:Int)=10) by decide,if_true,if_false];exact mm_ h
 ·simp[h] at ho ⊢;exact lb_ hp h ho.1.1.2.1 ho.1.1.2.2 ho.1.2
 ·simp[h] at ho ⊢;exact nP_ hp h ho.1.2.1 ho.1.2.2
 ·simp[h];exact jG_ hp h
 ·simp[h] at ho ⊢;exact ml_ hp h ho.1.1.1.2.1 ho.1.1.1.2.2 ho.1.1.2.1 ho.1.2.1
 ·simp[h];exact mn_ h
 ·simp[h];exact mo_ hp h
 ·simp[h];exact nQ_ h
 ·exact absurd h hk
 ·simp[h] at ho ⊢;exact la_ hp h ho.1.1.2.1 ho.1.1.2.2 ho.1.2.1 ho.1.2.2
theorem ia_ (o:Ow):∀ l:List Ct,tot o (Cn l)=- tot o l
 |[]=>rfl
 |c::r=>by
  have ih:=ia_ o r;unfold Cn at ih ⊢;rw[YD];simp only[tot];rw[ih];split<;>omega
theorem oZ_ {l:List Ct}(h:Bi l):Bi (Cn l):=by
 intro c hc;obtain⟨d,hd,rfl⟩:=ZT.1 hc
 have:=h d hd
 simp only;omega
theorem o0_ (l:List Vo):AQ (AA l) (Cn (AA l))=[]:=by
 obtain⟨h1,h2,_⟩:=bR_ l;obtain⟨a1,a2,a3⟩:=eL_ h1 h2 (oZ_ h2);exact cS_ a1 YT a2 (fun c hc=>by cases hc) (fun o=>by rw[a3,ia_];simp only[tot];omega)
theorem lf_ (hp:Ai p=true):CB p=flushS p:=by
 unfold CB flushS;rw[(dv_ hp).1];rfl
theorem mp_ (hp:Ai p=true):A6 p (CB p)=flushS p:=by
 rw[lf_ hp];unfold A6;show ({flushS p with lt:=[]++AQ (AA p.vs) (Cn (AA p.vs))}:Po)=flushS p;rw[o0_];rfl
theorem i3_ (hk:o.k=9):Dq p o.k o.vol o.file o.to o.into o.at' o.fr o.ln o.data=.inr (CB p):=by
 unfold Dq;simp[hk]
theorem o1_ (hp:Ai p=true)(ho:opB o=true):B9 p (Dq p o.k o.vol o.file o.to o.into o.at' o.fr o.ln o.data)=opS p o:=by
 by_cases hk:o.k=9
 ·rw[i3_ hk];unfold B9 opS;simp only;rw[mp_ hp,le_ hp,if_pos ho,if_pos hk];rfl
 ·rw[nR_ hp ho hk];unfold Cj opS;rw[if_pos ho,if_neg hk]
end
section
open Go Go.RowKit Go.BigFrame Tryz
open Go.Maps (Keyed)
theorem fE_ {v:Vo}:∀ {l:List It},(∀ x∈l,x.ps.length<=1000)->(A0 v l).length<=1000*l.length
 |[],_=>by simp[A0]
 |x::r,h=>by
  have ih:=fE_ (v:=v) (l:=r) (fun y hy=>h y (by simp[hy]));have h1:=h x (by simp);have h2:=fw_ v.id x.nm x.ps;unfold A0 at ih ⊢;rw[ZF,ZE,Zw];omega
theorem fF_:∀ {l:List Vo},(∀ v∈l,v.its.length<=6∧∀ x∈v.its,x.ps.length<=1000)->(A7 l).length<=6000*l.length
 |[],_=>by simp[A7]
 |v::r,h=>by
  have ih:=fF_ (l:=r) (fun y hy=>h y (by simp[hy]));obtain⟨h1,h2⟩:=h v (by simp);have h3:=fE_ (v:=v) h2;rw[cx_,ZE,Zw,show Ei v=A0 v v.its from rfl];omega
theorem lg_ (B b pb po:Nat)(D:DataW Unit)(va:Option Addr)(vn:Nat)(vs:List Vo)(hpb:0<vn->va=some ⟨pb,po,none⟩)(w:World)(hO:w.ownsMap prog 9 (A5 pb) b vn D)(hV:DC D po vs)(hnd:(vs.map (·.nm.toList)).Nodup)(h2:Ba B w va vn vs)(ht:Ep vs)(hw:WfV vs):
  Calls prog 30 #[.map (some b)] w fun e w'=>(∃ a n cap,e=.returned (.slice a n cap)∧n<=42000∧Ad Ct.cs 4 46 w' w.heap.size a n cap (AA vs))∧Below w.heap.size w w':=by
 have qk:=@run_makeMap prog;have ha:Hid (vs.length=vn):=h2.len;have qf:=hO.lt;have qm:Maps.size D<=vn:=hO.size_le;obtain⟨t6,tv⟩:=ht;rw[ha.out] at t6;have hM:=AZ.made w;have hJ:(w.alloc (.map #[] 0)).ownsMap prog 9 (A5 pb) b vn D:=hO.alloc _;have hI:Below w.heap.size w (w.alloc (.map #[] 0)):=(Yg _ _).alloc (Zd _) _;have hS:(w.alloc (.map #[] 0)).heap.size=w.heap.size+1:=by simp
 have hY:∀ left o,0<=tot o (A7 (Bj left vs))∧tot o (A7 (Bj left vs))<=42000:=fun left o=>by
  have h1:=cy_ (fZ_ (Bj left vs)) o;have h2:=fF_ (l:=Bj left vs) (fun v hv=>by have:=tv v (YG.1 hv).1;exact⟨this.1,fun x hx=>(this.2 x hx).1⟩);have h3:(Bj left vs).length<=vs.length:=Yc _ _;have h4:=ha.out;omega
 go_enter func30,ntmps30
 go_wp2_with (first
  |(at_range;refine wpList_range_own _ rfl _ 75 rfl 9 89 keyed9 underlying75 _ b vn D rfl hJ ?_;intro w0 hb hC hu)
  |go_in)
 rw[hS] at hb hu ⊢;go_frame;have T0:AZ w0 w.heap.size 0 (fun _=>0):=hM.kept hC (by simp);have hf:Below w.heap.size w w0:=hI.grown hC (by omega) (fun j hj=>by cases hj);clear hM hJ hI hS hC hO
 go_loopw [11] (fun _ wr=>∃ (left:Lit->Bool) (cnt m:Nat),m+6000*cnt<=6000*vn∧(∀ kl,left kl=true->Maps.has D kl=true)∧wr.ranges prog 9 (A5 pb) b (w.heap.size+1) vn D left cnt∧AZ wr w.heap.size m (fun o=>tot o (A7 (Bj left vs)))∧w.heap.size+2<=wr.heap.size∧Below w.heap.size w wr)
  (fun _ wr=>wr.rangeLeft b (w.heap.size+1))
 case atStart=>
  refine⟨_,_,0,by omega,fun _ h=>h,hb,T0.congr (fun o=>?_),by omega,hf⟩;rw[hL_ (fun v hv=>by unfold BM;rw[hV.has];exact ZN.2 ⟨v,hv,by simp⟩)];rfl
 case round=>
  clear hb T0 hf hu;obtain⟨left,cnt,m,qj,hp,hG,T,qe,hB⟩:=hrel
  go_wp2_with (first
   |(at_next;refine wpList_next_ranges _ rfl _ rfl 9 keyed9 (A5 pb) Value.string (fun o:Nat=>Value.pointer (some ⟨pb,o,none⟩)) (fun key kl hk=>(by obtain⟨s,hs,_⟩:=f0_ hk;exact⟨s,hs⟩)) (fun v y h=>(by obtain⟨o,ho,_⟩:=eu_ h;exact⟨o,ho⟩)) b (w.heap.size+1) vn D left cnt rfl hG ?_ ?_)
   |go_in)
  ·intro qg h7;rw[iS_ h7] at T
   go_wp2_with fail
   refine (dG_ w.heap.size m _ wr T (by omega)).mono ?_;rintro e w4 ⟨⟨a2,n2,cap2,R,rfl,ql,R4,q1,q2,q3,q4⟩,hU⟩;have hR:R=AA vs:=g6_ q1 q2 q3 (fun o ho=>by rw[q4 o ho];simp[tot]) YT (fun c hc=>by simp at hc) (hO_ vs) (fun c hc=>by simp at hc) (hN_ hw);subst hR;have hW:=Aa hB hU;go_wp2;go_returns;exact⟨⟨a2,n2,cap2,rfl,by omega,R4.mono hB.size⟩,hW⟩
  ·intro s o kl y yp w1 cnt1 hl hQ hL hN hm h8 hD hu h0
   obtain rfl:kl=.string s.data.toList:=by
    obtain⟨s',e,e2⟩:=f0_ hl;injection e with e;rw[e,e2]
   obtain⟨i,v,hi,rfl,rfl⟩:=hP_ hV hnd (hp _ hQ) hL hN;have h6:i<vn:=by rw[<-ha.out];exact (Zb.1 hi).1
   have hz:=Zc hi;obtain⟨t1,t2⟩:=tv v hz;obtain⟨u1,u2⟩:=hw v hz;obtain⟨F,hr⟩:∃ F:Ow->Int,∀ o,F o=tot o (A7 (Bj left vs)):=⟨_,fun _=>rfl⟩;have hh:∀ o,F o+tot o (A0 v v.its)=tot o (A7 (Bj (fun z=>left z&&!z.sameKey (.string v.nm.data.toList)) vs)):=fun o=>by rw[hr];exact (gn_ (left:=left) (v:=v) hQ hnd hz o).symm
   have hF:∀ o,0<=F o∧F o<=42000:=fun o=>by rw[hr];exact hY left o
   have T1:AZ w1 w.heap.size m F:=(T.kept hD (by simp)).congr (fun o=>(hr o).symm);have hf:Below w.heap.size w w1:=hB.grown hD hB.size (fun j hj=>by cases hj;omega);obtain⟨b',o',x,qa,qn,qc,qb,hx,e0,e1,e2,e3,hP,_,_⟩:=b5_ h2 h6;obtain⟨rfl,rfl⟩:b'=pb∧o'=po:=by have:=hpb (by omega);rw[qb] at this;simpa using this
   obtain rfl:v=x:=by rw[hi] at hx;exact Zi hx
   have hK:Hid (v.its.length=qn):=hP.len;rw[hK.out] at t1;have hq:∀ kl,(left kl&&!kl.sameKey (.string v.nm.data.toList))=true->Maps.has D kl=true:=fun kl h=>hp kl (by simp at h;exact h.1);have hE:wr.rangeLeft b (w.heap.size+1)=cnt:=hG.left_eq;have e3':=Ab hf e3;obtain⟨wi,qd⟩:∃ x,x=wr:=⟨_,rfl⟩;subst qd;have hn:w.heap.size+2<=w1.heap.size:=by omega
   clear hl hL hN hD T hB hG hx hi e1 e2 e3 hr hu qe hz
   go_wp2_with fail
   go_loopw [20] (fun ix wq=>∃ (k:Nat),k<=qn∧ix=.int .i64 k∧AZ wq w.heap.size (m+1000*k) (fun o=>F o+tot o (A0 v (v.its.take k)))∧wq.ranges prog 9 (A5 b') b (w.heap.size+1) vn D (fun z=>left z&&!z.sameKey (.string v.nm.data.toList)) cnt1∧w.heap.size+2<=wq.heap.size∧Below w.heap.size w wq) (fun ix _=>qn-(intOf ix).toNat)
   case atStart=>exact⟨0,Zg _,rfl,T1.congr (fun o=>by simp[A0,tot]),hm,hn,hf⟩
   case round=>
    clear T1 hm hf hn e3' h0;obtain⟨k,hk,rfl,T2,he,hn,hg⟩:=hrel;by_cases hlk2:k<qn
    ·obtain⟨ib,io,x,pa,pn,pc,rfl,hx,c0,c1,hA,_,_,_⟩:=bO_ (hP.below hg) hlk2;have f0:=Ab hg e0;obtain⟨s1,_⟩:=t2 x (Zc hx);obtain⟨s2,s3⟩:=u2 x (Zc hx);rw[hA.len] at s1;have qh:(k:Int)<qn:=by omega
     have qi:(0:Int)<=k:=by omega
     have h5:Hid (A0 v (v.its.take (k+1))=A0 v (v.its.take k)++AS v.id x.nm x.ps):=fq_ hx
     have hZ:∀ o,0<=tot o (A0 v (v.its.take k))∧tot o (A0 v (v.its.take k))<=6000:=fun o=>by
      have h1:=cy_ (ju_ v (v.its.take k)) o;have h2:=fE_ (v:=v) (l:=v.its.take k) (fun y hy=>(t2 y (ZX hy)).1);have h3:(v.its.take k).length<=6:=by rw[Zz];omega
      omega
     clear hx;have X:=Blk.new wr #[.string x.nm,.slice pa pn pc] 134;have gW:wr.grownBy (wr.alloc (.cells #[.string x.nm,.slice pa pn pc] 134)) (some w.heap.size):=Yl wr _ (some w.heap.size);have T3:AZ (wr.alloc (.cells #[.string x.nm,.slice pa pn pc] 134)) w.heap.size (m+1000*k) (fun o=>F o+tot o (A0 v (v.its.take k))):=T2.kept (Yl wr _ none) (by simp);have f1:=Am (.cells #[.string x.nm,.slice pa pn pc] 134) f0;have hX:AM (wr.alloc (.cells #[.string x.nm,.slice pa pn pc] 134)) pa pn x.ps:=hA.below (by go_grown);clear T2 f0 hA
     go_wp2_with fail
     have x0:=X.cell 0;have x1:=X.cell 1;simp only[lgA,lgB,lgC] at x0 x1;generalize wr.alloc (.cells #[.string x.nm,.slice pa pn pc] 134)=W at *;have y0:W.drew.cell? ⟨wr.heap.size,0,none⟩=some (.string x.nm):=x0;have y1:W.drew.cell? ⟨wr.heap.size,1,none⟩=some (.slice pa pn pc):=x1;have y2:W.drew.cell? ⟨b',o'+i*4,none⟩=some (.int .i64 v.id):=f1;refine aE_ 6 (by kernel_rfl) (by kernel_rfl) ?_;simp only[ZP,Yx,ZR,YC]
     repeat still_step
     refine wpStill_nil ?_
     go_wp2_with fail
     refine (fi_ w.heap.size (m+1000*k) _ v.id x.nm pa pn pc x.ps W.drew T3 hX.drew u1 s2 s3 (by omega) (by omega) (fun o=>by have h1:=hF o;have h2:=hZ o;omega)).mono ?_;rintro e w3 ⟨rfl,T4,g4⟩;have g5:wr.grownBy w3 (some w.heap.size):=(gW.andThen (⟨rfl,rfl,rfl,Zd _,fun _ _ _=>rfl⟩:W.grownBy W.drew (some w.heap.size)) (fun j hj=>by cases hj;exact .inr rfl)).andThen g4 (fun j hj=>by cases hj;exact .inr rfl);have hH:=he.kept g5 (by simp only[ne_eq,Zo];omega) (by simp);have hT:Below w.heap.size w w3:=hg.grown g5 hg.size (fun j hj=>by cases hj;exact Zd _);have h9:w.heap.size+2<=w3.heap.size:=Zl hn g5.size;have T5:AZ w3 w.heap.size (m+1000*(k+1)) (fun o=>F o+tot o (A0 v (v.its.take (k+1)))):=(T4.mono (by omega)).congr (fun o=>by rw[h5.out,bn_];omega);go_wp2;go_roundw
     case rel=>exact⟨k+1,by omega,by go_num,T5,hH,h9,hT⟩
     case measure=>simp[intOf];omega
    ·obtain rfl:k=qn:=by omega
     rw[Zk (Zm hK.out)] at T2;go_wp2;go_roundw
     case rel=>exact⟨_,cnt1,m+1000*k,by omega,hq,he,T2.congr hh,hn,hg⟩
     case measure=>rw[he.left_eq,hE];exact h8
end
section
open Go Go.RowKit Go.BigFrame Tryz
variable{file:ByteArray}{its:List It}{rows:List VR}{l:List Vo}{B i:Nat}{p q:Po}{v:Value}{y:Vo}{w w':World}
theorem CN.wide (h:CN q):Ep q.vs:=⟨h.vn,fun v hv=>by
 obtain⟨_,_,_,h4,h5⟩:=h.g v hv;exact⟨h4,fun x hx=>⟨by have:=(ae_ (h5 x hx).2).1;omega,fun p hp=>cT_ ((ae_ (h5 x hx).2).2.1 p hp)⟩⟩⟩
theorem pT_ {p:Pt}(h:Ag p=true):(Lit.int .i64 p.a).wf=true:=by
 have h0:=cT_ h
 have h1:p.a<=400:=by
  unfold Ag at h;split at h
  ·rename_i h2;simp at h2;omega
  ·simp at h;omega
 exact Yz (by omega)
theorem CN.wf (h:CN q):WfV q.vs:=fun v hv=>by
 obtain⟨h1,h2,_,_,h5⟩:=h.g v hv;exact⟨Yz (by omega),fun x hx=>⟨by have:=cj_ (h5 x hx).1;unfold maxLen;omega,fun p hp=>pT_ ((ae_ (h5 x hx).2).2.1 p hp)⟩⟩
theorem CN.str (h:CN q):DB q.vs:=fun v hv=>by
 obtain⟨_,_,h3,h4,h5⟩:=h.g v hv;exact⟨by have:=cj_ h3;omega,by omega,fun x hx=>⟨by have:=cj_ (h5 x hx).1;omega,by have:=(ae_ (h5 x hx).2).1;omega⟩⟩
theorem CN.dim (h:CN q)(hd:AB p)(hn:(A6 p q).lt.length<=4194304):AB (A6 p q):=by
 obtain⟨z1,z2,z3,z4,z5,z6,z7,z8⟩:=hd;have h1:=h.el;have h2:=h.vn;have h3:=h.rl;refine⟨?_,h.es,?_,h.str,?_,h.rs,hn,?_⟩
 ·show q.ex.length<=_;omega
 ·show q.vs.length<=_;omega
 ·show q.rf.length<=_;omega
 ·intro c hc;rcases Zs.1 hc with hc | hc
  ·exact h.ls c hc
  ·exact g7_ (f8_ h.str) (mV_ (f8_ z4)) c hc
theorem cQ_ (hp:Ai p=true):∀ v∈p.vs,VG v∧v.its.length<=5:=fun v hv=>by
 obtain⟨_,h2,h3,_⟩:=bL_ hp;obtain⟨a1,a2,a3,a4⟩:=b0_ h2 v hv;simp only[itemsB,Zf,ZU] at a1;refine⟨⟨by omega,by omega,a2,by omega,fun x hx=>⟨hR_ a1.2 x hx,?_⟩⟩,a1.1⟩;obtain⟨s,hs⟩:=Option.isSome_iff_exists.1 (db_ a1.2 x hx);exact (fl_ hs).1
theorem ib_ (hp:Ai p=true)(hd:AB p):CN p:=by
 obtain⟨h1,_,_,h4,h5⟩:=bL_ hp;obtain⟨_,a2,a3⟩:=dv_ hp;exact⟨by omega,fun v hv=>(cQ_ hp v hv).1,h5,(cu_ h4).2.2.1,hd.2.1,(a0_ a2).1,hd.2.2.2.2.2.1,(br_ a3).1,hd.2.2.2.2.2.2.2⟩
theorem bY_ {s:ByteArray}{c:Bool}{f:Nat->Vo->Int⊕Po}(h:AG p s c f=.inr q):∃ i y,volI p.vs s=some i∧p.vs[i]?=some y∧f i y=.inr q:=by
 unfold AG at h;split at h
 ·cases h
 ·rename_i i hi;split at h
  ·cases h
  ·rename_i y hy;split at h
   ·cases h
   ·exact⟨i,y,hi,hy,h⟩
theorem eW_ {l m:List Pt}{at':Int}(h:Bu y file l at' m=.inr its):∃ ps,Ac ps=true∧its=A9 ⟨file,ps⟩ y.its:=by
 unfold Bu at h;split at h
 ·cases h
 ·rename_i ps hps;injection h with h;exact⟨ps,(nL_ hps).2.2.2.2.1,h.symm⟩
theorem hc_ {ps:List Pt}(hy:VG y)(h5:y.its.length<=5)(hf:nameB file=true)(hps:Ac ps=true):VG {y with its:=A9 ⟨file,ps⟩ y.its}:=by
 obtain⟨h1,h2,h3,_,h6⟩:=hy;refine⟨h1,h2,h3,?_,fun x hx=>?_⟩
 ·have:=kw_ ⟨file,ps⟩ y.its
  simp only;omega
 ·rcases kx_ hx with rfl | hx
  ·exact⟨hf,hps⟩
  ·exact h6 x hx
theorem eX_ {R:Int⊕List It}(hp:Ai p=true)(hd:AB p)(hy:p.vs[i]?=some y)(hR:∀ its,R=.inr its->VG {y with its:=its})(h:BZ p i y R=.inr q):CN q:=by
 have hb:=ib_ hp hd
 cases R with
 |inl c=>cases h
 |inr its=>
  injection h with h;subst h;exact hb.set (z:={y with its:=its}) hy rfl (hR its rfl) hb.el hb.es
theorem lh_ {name:ByteArray}(hp:Ai p=true)(hd:AB p)(hn:nameB name=true)(hi:its.length<=6∧∀ x∈its,nameB x.nm=true∧Ac x.ps=true)(h:Dd p name its=.inr q):CN q:=by
 have hb:=ib_ hp hd;obtain⟨v6,_,n1,_,_⟩:=bL_ hp;obtain⟨_,⟨n0,_⟩,_⟩:=aQ_ hp;unfold Dd at h;split at h
 ·cases h
 ·rename_i hno;injection h with h;subst h;refine⟨by simp;omega,fun v hv=>?_,?_,hb.el,hb.es,hb.rl,hb.rs,hb.ll,hb.ls⟩
  ·rcases Zs.1 hv with hv | hv
   ·exact hb.g v hv
   ·simp only[YP] at hv;subst hv;exact⟨n0,n1,hn,hi.1,hi.2⟩
  ·rw[List.map_append,Yf];refine⟨hb.nd,by simp,fun a ha b hc=>?_⟩;simp only[YD,List.map_nil,YP] at hc;subst hc;obtain⟨v,hv,rfl⟩:=ZT.1 ha;unfold volI at hno
   have:=YL.1 hno v hv
   simpa using this
theorem pU_ {o:Opr}(hp:Ai p=true)(hd:AB p)(ho:opB o=true)(h:Dq p o.k o.vol o.file o.to o.into o.at' o.fr o.ln o.data=.inr q):CN q:=by
 have hb:=ib_ hp hd;have hf:=h5_ ho;by_cases hk:o.k=9
 ·rw[i3_ hk] at h;injection h with h;subst h;have hr:=c6_ hp;rw[lf_ hp];refine⟨hb.vn,hb.g,hb.nd,?_,fun x hx=>hb.es x (YG.1 hx).1,(a0_ hr).1,g7_ hb.rs hb.ls,Zg _,fun c hc=>by cases hc⟩
  have:=Yc (fun e:Ex=>(AQ p.rf p.lt).any (fun c=>c.o.a==e.a)) p.ex
  have h2:=hb.el;show (p.ex.filter _).length<=_;omega
 unfold opB at ho;unfold Dq at h;rcases hf with e | e | e | e | e | e | e | e | e | e
 ·simp[e] at ho h;exact lh_ hp hd ho.1 ⟨by simp,fun x hx=>by cases hx⟩ h
 ·simp[e] at ho h;obtain⟨i,y,h1,h2,h3⟩:=bY_ h;have hy:=cQ_ hp y (Zc h2);unfold Cd at h3
  cases he:AV p.size p.ex o.data with
  |none=>rw[he] at h3;cases h3
  |some r=>
   obtain⟨L,a⟩:=r;rw[he] at h3;simp only at h3
   cases hl:Bu y o.file ((AO y o.file).getD []) o.at' [⟨a,0,o.data.size⟩] with
   |inl c=>rw[hl] at h3;cases h3
   |inr its=>
    rw[hl] at h3;injection h3 with h3;subst h3;obtain⟨ps,ha,rfl⟩:=eW_ hl
    have hE:L.length<=60∧BP L:=by
     have hj:=l6_ ho.1.2;have hh:=hb.el;unfold AV at he;split at he
     ·rename_i hc;obtain⟨x,_,hx⟩:=ZW.1 he;injection hx with hx _;subst hx;have hg:=hc.2.2;refine⟨by unfold Cs;simp;omega,fun z hz=>?_⟩;unfold Cs at hz;rcases Zs.1 hz with hz | hz
      ·rcases Zs.1 hz with hz | hz
       ·exact hb.es z (ZX hz)
       ·simp only[YP] at hz;subst hz;simp only;omega
      ·exact hb.es z (List.mem_of_mem_drop hz)
     ·cases he
    exact hb.set (z:={y with its:=A9 ⟨o.file,ps⟩ y.its}) h2 rfl (hc_ hy.1 hy.2 ho.1.1.1.2 ha) hE.1 hE.2
 ·simp[e] at ho h;obtain⟨i,y,h1,h2,h3⟩:=bY_ h;have hy:=cQ_ hp y (Zc h2);refine eX_ hp hd h2 (fun its hi=>?_) h3;unfold DT at hi;split at hi
  ·cases hi
  ·obtain⟨ps,ha,rfl⟩:=eW_ hi;exact hc_ hy.1 hy.2 ho.1.1.2 ha
 ·simp[e] at ho h;obtain⟨i,y,h1,h2,h3⟩:=bY_ h;have hy:=cQ_ hp y (Zc h2);refine eX_ hp hd h2 (fun its hi=>?_) h3;unfold BL at hi;split at hi
  ·cases hi
  ·injection hi with hi;subst hi;obtain⟨⟨a1,a2,a3,a4,a5⟩,_⟩:=hy;refine⟨a1,a2,a3,?_,fun x hx=>a5 x (YG.1 hx).1⟩
   have:=Yc (fun t:It=>!(t.nm.toList==o.file.toList)) y.its
   simp only;omega
 ·simp[e] at ho h;obtain⟨i,y,h1,h2,h3⟩:=bY_ h;have hy:=cQ_ hp y (Zc h2);refine eX_ hp hd h2 (fun its hi=>?_) h3;unfold Cz at hi;split at hi
  ·cases hi
  ·split at hi
   ·cases hi
   ·split at hi
    ·cases hi
    ·obtain⟨ps,ha,rfl⟩:=eW_ hi;exact hc_ hy.1 hy.2 ho.1.1.1.1.2 ha
 ·simp[e] at ho h;obtain⟨i,y,h1,h2,h3⟩:=bY_ h;obtain⟨⟨a1,a2,a3,a4,a5⟩,_⟩:=cQ_ hp y (Zc h2);exact lh_ hp hd ho.1.2 ⟨a4,a5⟩ h3
 ·simp[e] at ho h;obtain⟨i,y,h1,h2,h3⟩:=bY_ h;injection h3 with h3;subst h3;have hm:=Yc (fun v:Vo=>!(v.nm.toList==o.vol.toList)) p.vs;have h7:=hb.vn;refine⟨?_,fun v hv=>hb.g v (YG.1 hv).1,hb.nd.sublist (List.filter_sublist.map _),hb.el,hb.es,hb.rl,hb.rs,hb.ll,hb.ls⟩;show (p.vs.filter _).length<=_;omega
 ·simp[e] at ho h;obtain⟨i,y,h1,h2,h3⟩:=bY_ h;have hy:=cQ_ hp y (Zc h2);split at h3
  ·cases h3
  ·injection h3 with h3;subst h3;exact hb.set (z:={y with fx:=true}) h2 rfl hy.1 hb.el hb.es
 ·exact absurd e hk
 ·simp[e] at ho h;obtain⟨i,y,h1,h2,h3⟩:=bY_ h;have hy:=cQ_ hp y (Zc h2);refine eX_ hp hd h2 (fun its hi=>?_) h3;unfold Cc at hi;split at hi
  ·cases hi
  ·obtain⟨ps,ha,rfl⟩:=eW_ hi;exact hc_ hy.1 hy.2 ho.1.1.1.2 ha
def Ej:Value:=.agg #[.int .i64 0,.int .i64 0,.slice none 0 0,.slice none 0 0,.slice none 0 0,.slice none 0 0]
def Ie (S:Addr->Prop)(B:Nat)(e:Ending)(w':World):Int⊕Po->Prop
 |.inl c=>∃ a,S a∧e=.returned (.tuple #[Ej,BJ c a])
 |.inr q=>∃ v rows,e=.returned (.tuple #[v,.nilIface])∧BG B w' v q rows∧AB q
def G9 (p:Po):Int⊕Po->Int⊕Po
 |.inl c=>.inl c
 |.inr q=>if Ai (A6 p q)=true then .inr (A6 p q) else .inl 5
def GE (p:Po)(o:Opr):Int⊕Po:=G9 p (Dq p o.k o.vol o.file o.to o.into o.at' o.fr o.ln o.data)
theorem li_ (ep:Addr)(B0:Nat)(v:Value)(p:Po)(o:Opr)(w:World)(h:AF B0 w v p)(hd:AB p)(hp:Ai p=false)(hep:BC w 0 ep):
  Calls prog 20 #[v,.agg #[.int .i64 o.k,.string o.vol,.string o.file,.string o.to,.string o.into,.int .i64 o.at',.int .i64 o.fr,.int .i64 o.ln,.string o.data]] w fun e w'=>e=.returned (.tuple #[Ej,BJ 1 ep])∧Below w.heap.size w w':=by
 have hh:=h;obtain⟨ea,en,ec,va,vn,vc,ra,rn,rc,la,ln,lc,rfl,_⟩:=h;go_enter func20,ntmps20
 go_wp2_with fail
 refine (ch_ B0 _ p _ (hh.below (by go_grown)) hd).mono ?_;rintro e w1 ⟨rfl,he⟩;obtain⟨C,O,D,ha,hk⟩:=bx3 he;clear he;have hq:=hep.below ha;rw[hp];have hb:w1.drew.cell? ⟨0,0,none⟩=some (.iface 277 (.pointer (some ep))):=hq;have DD:Blk w1.drew (w.heap.size+2) #[.int .i64 0,.int .i64 0,.slice none 0 0,.slice none 0 0,.slice none 0 0,.slice none 0 0] 28:=D;have BB:Below w.heap.size w w1.drew:=ha.drew
 go_wp2_with fail
 have hj:(fun u:World=>u.cell? ⟨0,0,none⟩=some (.iface 277 (.pointer (some ep)))) w1.drew:=hb;refine aC_ (S:=(fun u:World=>u.cell? ⟨0,0,none⟩=some (.iface 277 (.pointer (some ep))))) 6 (by kernel_rfl) rfl ?_;generalize w1.drew=wd at DD BB hb hj ⊢;obtain⟨x0,x1,x2,x3,x4,x5⟩:=DD.six';obtain⟨f0,f1,f2,f3,f4,f5⟩:=fz6 DD;refine tk 0 ?_;refine tk 1 ?_;refine tk 2 ?_;refine tk 3 ?_;refine AW (i:=4) (by kernel_rfl) rfl (fun K hK=>?_);go_simp;obtain⟨W8,hf,W0,hg⟩:=AU DD (.int .i64 0) (.int .i64 0) (.slice none 0 0) (.slice none 0 0) (.slice none 0 0) (.slice none 0 0);rw[<-hf];clear hf;have hc:=hg.cell hb (by simp only[ne_eq,Zo];omega);refine hK.out _ _ hc (fun hHeld=>?_);clear hK K
 try simp only[Act.put,lsA,lsB,lsC]
 refine tk 5 ?_;refine wpAnyH_done (by kernel_rfl) ?_ _;go_wp2;refine YW (ad_ rfl _ W8 (w.heap.size+2) _ _ _ _ _ rfl W0 underlying28 rfl (by kernel_rfl) rfl) rfl ?_;exact⟨rfl,BB.grown hg BB.size (fun j e=>by cases e;omega)⟩
theorem fG_:∀ {l:List Ct} {c:Ct},Br l->c∈l->tot c.o l=c.n
 |[],_,_,h=>by cases h
 |y::r,c,hr,h=>by
  have h1:=(Ye.1 hr).1;simp only[tot];rcases Zn.1 h with rfl | h
  ·rw[a3_,if_pos rfl,cc_ h1];omega
  ·rw[dA_ (h1 c h),fG_ hr.of_cons h];simp
theorem m1_ (h:Ep l):∀ c∈AA l,0<=c.n∧c.n<=42000:=fun c hc=>by
 obtain⟨h1,_,h3⟩:=bR_ l;have e:=fG_ h1 hc;rw[h3] at e;have h4:=cy_ (fZ_ l) c.o;have h5:=fF_ (l:=l) (fun v hv=>⟨(h.2 v hv).1,fun x hx=>((h.2 v hv).2 x hx).1⟩);have h6:=h.1;omega
theorem qe_ {l:List Ct}{M:Int}(h:∀ c∈l,0<=c.n∧c.n<=M)(hr:Br l)(o:Ow):0<=tot o l∧(tot o l<=M∨tot o l=0):=by
 by_cases hc:∃ c∈l,c.o=o
 ·obtain⟨c,hm,rfl⟩:=hc;rw[fG_ hr hm];exact⟨(h c hm).1,.inl (h c hm).2⟩
 ·rw[bB_ (fun c hm e=>hc ⟨c,hm,e⟩)];exact⟨YB _,.inr rfl⟩
theorem hd_ (h:WfV l):WfC (AA l):=fun c hc=>by
 rcases eI_ hc with⟨d,hd,_⟩ | ⟨d,hd,e⟩
 ·cases hd
 ·rw[e];exact hN_ h d hd
theorem qf_ {l:List Ct}(h:WfC l):WfC (Cn l):=fun c hc=>by
 obtain⟨d,hd,rfl⟩:=ZT.1 hc;exact h d hd
theorem m2_ (h:AB p):HW p:=by
 obtain⟨z1,z2,z3,z4,z5,z6,z7,z8⟩:=h;exact⟨z1,z3,z5,z7,fun v hv=>⟨(z4 v hv).2.1,fun y hy=>((z4 v hv).2.2 y hy).2⟩⟩
theorem mq_ (ep:Addr)(B0:Nat)(v:Value)(p:Po)(o:Opr)(w:World)(h:AF B0 w v p)(hd:AB p)(hp:Ai p=true)(ho:opB o=false)(hso:BA o)(hep:BC w 1 ep):
  Calls prog 20 #[v,.agg #[.int .i64 o.k,.string o.vol,.string o.file,.string o.to,.string o.into,.int .i64 o.at',.int .i64 o.fr,.int .i64 o.ln,.string o.data]] w fun e w'=>e=.returned (.tuple #[Ej,BJ 2 ep])∧Below w.heap.size w w':=by
 have hk:=h;obtain⟨ea,en,ec,va,vn,vc,ra,rn,rc,la,ln,lc,rfl,_⟩:=h;go_enter func20,ntmps20
 go_wp2_with fail
 refine (ch_ B0 _ p _ (hk.below (by go_grown)) hd).mono ?_;rintro e w1 ⟨rfl,hg⟩;obtain⟨C,O,D,ha,hm⟩:=bx3 hg;clear hg;rw[hp];have o0:=O.cell 0;have o1:=O.cell 1;have o2:=O.cell 2;have o3:=O.cell 3;have o4:=O.cell 4;have o5:=O.cell 5;have o6:=O.cell 6;have o7:=O.cell 7;have o8:=O.cell 8;simp only[lgA,lgB,lgC] at o0 o1 o2 o3 o4 o5 o6 o7 o8
 go_wp2_with fail
 refine (iO_ o _ hso).mono ?_;rintro e w2 ⟨rfl,hb⟩;replace D:=D.below hb;have hq:=hep.below (Aa ha hb);have hc:=Aa ha hb;rw[ho];have he:w2.drew.cell? ⟨1,0,none⟩=some (.iface 277 (.pointer (some ep))):=hq;have DD:Blk w2.drew (w.heap.size+2) #[.int .i64 0,.int .i64 0,.slice none 0 0,.slice none 0 0,.slice none 0 0,.slice none 0 0] 28:=D;have BB:Below w.heap.size w w2.drew:=hc.drew
 go_wp2_with fail
 have hl:(fun u:World=>u.cell? ⟨1,0,none⟩=some (.iface 277 (.pointer (some ep)))) w2.drew:=he;refine aC_ (S:=(fun u:World=>u.cell? ⟨1,0,none⟩=some (.iface 277 (.pointer (some ep))))) 6 (by kernel_rfl) rfl ?_;generalize w2.drew=wd at DD BB he hl ⊢;obtain⟨x0,x1,x2,x3,x4,x5⟩:=DD.six';obtain⟨f0,f1,f2,f3,f4,f5⟩:=fz6 DD;refine tk 0 ?_;refine tk 1 ?_;refine tk 2 ?_;refine tk 3 ?_;refine AW (i:=4) (by kernel_rfl) rfl (fun K hK=>?_);go_simp;obtain⟨W8,hh,W0,hj⟩:=AU DD (.int .i64 0) (.int .i64 0) (.slice none 0 0) (.slice none 0 0) (.slice none 0 0) (.slice none 0 0);rw[<-hh];clear hh;have hf:=hj.cell he (by simp only[ne_eq,Zo];omega);refine hK.out _ _ hf (fun hHeld=>?_);clear hK K
 try simp only[Act.put,lsA,lsB,lsC]
 refine tk 5 ?_;refine wpAnyH_done (by kernel_rfl) ?_ _;go_wp2;refine YW (ad_ rfl _ W8 (w.heap.size+2) _ _ _ _ _ rfl W0 underlying28 rfl (by kernel_rfl) rfl) rfl ?_;exact⟨rfl,BB.grown hj BB.size (fun j e=>by cases e;omega)⟩
end
end Go.Proofs.YtdmeabghpchckaaGreatDoor
