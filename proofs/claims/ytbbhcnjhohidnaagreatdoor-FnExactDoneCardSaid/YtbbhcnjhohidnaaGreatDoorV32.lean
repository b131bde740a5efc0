/- Ops that are done when they are tried, by the model. -/
import Derived.Test.YtbbhcnjhohidnaaGreatDoorV31c
set_option maxHeartbeats 20000000
set_option maxRecDepth 100000
namespace Go.Proofs.YtbbhcnjhohidnaaGreatDoor
section
open Go Go.RowKit Go.BigFrame Tryz
variable{w w':World}
theorem nK_ (B0:Nat)(hB0:0<B0)(v:Value)(p:Po)(o:Opr)(w:World)(h:PoolAt B0 w v p)(hd:DimP p)(hso:StrO o):
  Calls prog 7 #[v,.agg #[.int .i64 o.k,.string o.vol,.string o.file,.string o.to,.string o.into,.int .i64 o.at',.int .i64 o.fr,.int .i64 o.ln,.string o.data]] w fun e w'=>(∃ v' c,e=.returned (.tuple #[v',.int .i64 c])∧c=(doneS p o).1∧PoolT w.heap.size w' v' (doneS p o).2∧DimP (doneS p o).2)∧Below w.heap.size w w':=by
 have hj:=h;obtain⟨ea,en,ec,va,vn,vc,ra,rn,rc,la,ln,lc,rfl,⟨h1,k1⟩,⟨h2,k2⟩,⟨h3,k3⟩,h4,k4⟩:=h;have hS:Hid (doneS p o=if poolB p=true then opS p o else (1,⟨0,0,[],[],[],[]⟩)):=by show _=_;simp[doneS]
 generalize doneS p o=R at *;go_enter func7,ntmps7
 go_wp2_with fail
 refine (ep_ B0 hB0 _ p _ (hj.below (by go_grown)) hd).mono ?_;rintro e w1 ⟨rfl,hk⟩;obtain⟨C,O,D,ha,hn⟩:=bx3 hk;clear hk
 cases hg:poolB p
 ·rw[hg,if_neg (by simp)] at hS;obtain⟨x0,x1,x2,x3,x4,x5⟩:=D.six';obtain⟨f0,f1,f2,f3,f4,f5⟩:=fz6 D;go_wp2;obtain⟨W8,hb,W0,hf⟩:=set6 D (.int .i64 0) (.int .i64 0) (.slice none 0 0) (.slice none 0 0) (.slice none 0 0) (.slice none 0 0);have B8:=ha.grown hf ha.size (fun j e=>by cases e;omega);rw[<-hb];clear hb;refine bodyPost_ret (ad_ rfl _ W8 (w.heap.size+2) _ _ _ _ _ rfl W0 underlying35 rfl (by kernel_rfl) rfl) rfl ?_;exact⟨⟨_,1,rfl,by rw[hS.out],by rw[hS.out];exact mi_ _ _,by rw[hS.out];exact k7_⟩,B8⟩
 ·rw[hg,if_pos rfl] at hS;obtain⟨c0,c1,c2,c3,c4,c5⟩:=C.six';have o0:=O.cell 0;have o1:=O.cell 1;have o2:=O.cell 2;have o3:=O.cell 3;have o4:=O.cell 4;have o5:=O.cell 5;have o6:=O.cell 6;have o7:=O.cell 7;have o8:=O.cell 8;simp only[lgA,lgB,lgC] at o0 o1 o2 o3 o4 o5 o6 o7 o8
  go_wp2_with fail
  refine (k6_ B0 hB0 _ p o _ (hj.below ha) hd hg hso).mono ?_;rintro e wk ⟨⟨v',c,rfl,hc,PT,hm⟩,hh⟩;have hl:=PT;obtain⟨ea',en',ec',va',vn',vc',ra',rn',rc',la',ln',lc',rows',rfl,_⟩:=PT;have Dk:=D.below hh;have he:=chain ha hh;have ho:=hh.size;replace hc:Hid (c=(opS p o).1):=hc;obtain⟨q,hq⟩:∃ q,(opS p o).2=q:=⟨_,rfl⟩;rw[hq] at hl hm ⊢;obtain⟨x0,x1,x2,x3,x4,x5⟩:=Dk.six';obtain⟨f0,f1,f2,f3,f4,f5⟩:=fz6 Dk;go_wp2;obtain⟨W8,hb,W0,hf⟩:=set6 Dk (.int .i64 q.size) (.int .i64 q.next) (.slice ea' en' ec') (.slice va' vn' vc') (.slice ra' rn' rc') (.slice la' ln' lc');have PF:=(hl.tyP hf (aa_ Dk)).mono (show w.heap.size<=w1.heap.size by omega);have B8:=he.grown hf he.size (fun j e=>by cases e;omega);rw[<-hb];clear hb;refine bodyPost_ret (ad_ rfl _ W8 (w.heap.size+2) _ _ _ _ _ rfl W0 underlying35 rfl (by kernel_rfl) rfl) rfl ?_;exact⟨⟨_,c,rfl,by rw[hS.out];exact hc.out,by rw[hS.out,hq];exact PF,by rw[hS.out,hq];exact hm⟩,B8⟩
end
section
open Go Go.RowKit
variable{t u:Int}{l:List Pt}
theorem fl_ {e:List Ex}{s:ByteArray}(h:contentO l e=some s):partsOkB l=true∧spaceOkB 400 e=true:=by
 unfold contentO at h;split at h
 ·assumption
 ·cases h
theorem g8_ (h:t<=u):∀ (l:List Pt) (st:Int),slp u t st l=[]
 |[],_=>rfl
 |p::r,st=>by rw[fo_ (by omega)];exact g8_ h r _
theorem mZ_ (h:u<=t):∀ (l:List Pt) (st:Int),(∀ p∈l,partOkB p=true)->sumN (slp u t st l)=max st (min t (st+sumN l))-max st (min u (st+sumN l))
 |[],st,_=>by simp only[slp,sumN];omega
 |p::r,st,hp=>by
  have hn:=av_ (hp p (by simp));have hr:∀ q∈r,partOkB q=true:=fun q hq=>hp q (by simp[hq]);have ha:=az_ r hr;have ih:=mZ_ h r (st+p.n) hr;by_cases hx:max (u-st) 0<min (t-st) p.n
  ·rw[eN_ rfl rfl hx];simp only[sumN,gf_,ih];omega
  ·rw[fo_ hx];simp only[sumN,ih];omega
theorem pR_ {p:Pt}(h:partOkB p=true):cutP p 0 p.n=p:=by
 obtain⟨a,f,n⟩:=p;by_cases ha:a=0
 ·simp[partOkB,ha] at h;simp[cutP,ha,h.1]
 ·simp[cutP,ha]
theorem g9_:∀ (l:List Pt) (st:Int),u<=st->st+sumN l<=t->(∀ p∈l,partOkB p=true)->slp u t st l=l
 |[],_,_,_,_=>rfl
 |p::r,st,hu,ht,hp=>by
  have ha:=hp p (by simp);have hn:=av_ ha;have hr:∀ q∈r,partOkB q=true:=fun q hq=>hp q (by simp[hq]);have hb:=az_ r hr;simp only[sumN] at ht;rw[eN_ (x:=0) (y:=p.n) (by omega) (by omega) (by omega),pR_ ha,g9_ r _ (by omega) (by omega) hr]
theorem eJ_ (h:partsOkB l=true)(u t:Int):partsOkB (slp u t 0 l)=true:=by
 have h1:=b8_ h u t;have h2:=(hT_ u t l 0 (fun p hp=>av_ ((ae_ h).2.1 p hp))).2.2.1;have h3:=(ae_ h).1;simp only[partsOkB,Zf,ZU];exact⟨by omega,h1⟩
theorem slices (h:partsOkB l=true)(h0:0<=u)(h1:u<=t)(h2:t<=sumN l):sliceO l u t=some (slp u t 0 l):=by
 have:=oC_ l u t
 unfold sliceO;rw[this,if_pos ⟨h,h0,by omega,h1,h2⟩,fD_ (b8_ h u t)]
theorem nL_ {m o:List Pt}(h:laidO l t m=some o):partsOkB l=true∧0<=t∧t<=100∧partsOkB m=true∧partsOkB o=true∧o=joinL [] (laidL l t m):=by
 rw[mT_] at h;unfold laidS at h;split at h
 ·rename_i hh;obtain rfl:=Zi h;exact⟨hh.1.1,hh.1.2.1,hh.1.2.2.1,hh.1.2.2.2,hh.2,du_ hh.1.1⟩
 ·cases h
end
section
open Go Go.RowKit Go.BigFrame
variable{α:Type}{file s vol:ByteArray}{at' size:Int}{x:It}{e e':List Ex}{l m:List Pt}{vs:List Vo}{i:Nat}{o:Opr}{p q:Po}{v:Vo}
def finR (p:Po):Int⊕Po->Int×Po
 |.inl c=>(c,p)
 |.inr q=>if poolB (lateS p q)=true then (0,lateS p q) else (5,p)
def finS (p:Po)(r:Int×Po):Int×Po:=if r.1=0 then (if poolB (lateS p r.2)=true then (0,lateS p r.2) else (5,p)) else (r.1,p)
theorem bt_ {c:Int}(h:c≠0):finS p (c,q)=(c,p):=by unfold finS;rw[if_neg h]
theorem dw_:finS p (0,q)=finR p (.inr q):=by unfold finS finR;rw[if_pos rfl]
theorem mj_ (hl:partsOkB l=true)(hm:partsOkB m=true)(h0:0<=at')(h1:at'<=100):laidO l at' m=if partsOkB (laidJ l at' m)=true then some (laidJ l at' m) else none:=by
 rw[mT_];unfold laidS;by_cases h:partsOkB (laidJ l at' m)=true
 ·rw[if_pos ⟨⟨hl,h0,h1,hm⟩,h⟩,if_pos h]
 ·rw[if_neg (fun hc=>h hc.2),if_neg h]
theorem dY_ (h1:volI vs vol=some i)(h2:vs[i]?=some v):partsO vs vol file=fileO v file:=by
 unfold partsO fileO;rw[h1];simp only[Option.bind_some,h2]
theorem mk_:partsO vs vol file=((volI vs vol).bind (fun j=>vs[j]?)).bind (fun v=>fileO v file):=by
 unfold partsO fileO
 cases volI vs vol with
 |none=>rfl
 |some i=>cases vs[i]?<;>rfl
theorem k8_ (x:It):∀ (l:List It) (st:List It×Bool),(st.2=true->x∈st.1)->((l.foldl (setS x) st).2=true->x∈(l.foldl (setS x) st).1)
 |[],_,h=>h
 |y::r,st,h=>by
  rw[List.foldl_cons];refine k8_ x r _ (fun hd=>?_);simp only[setS] at hd ⊢;rw[Zs];obtain⟨a,d⟩:=st
  cases d
  ·simp only[Bool.false_or] at hd;simp[hd]
  ·left;simpa using h rfl
theorem oR_ (x:It)(l:List It):x∈setI x l:=by
 unfold setI setE;split
 ·rename_i h;exact k8_ x l ([],false) (fun h=>by cases h) h
 ·simp
theorem nM_ (hv:v∈q.vs)(hx:x∈v.its)(hb:¬ partsOkB x.ps=true):poolB q=false:=by
 cases h:poolB q with
 |false=>rfl
 |true=>
  exfalso;obtain⟨_,h2,_⟩:=bL_ h;have h3:=(b0_ h2 v hv).1;simp only[itemsB,Zf,ZU] at h3;have h4:=db_ h3.2 x hx;obtain⟨s,hs⟩:=Option.isSome_iff_exists.1 h4;exact hb (fl_ hs).1
theorem k9_ {E:List Ex}(hv:p.vs[i]?=some v)(file:ByteArray)(hl:partsOkB l=true)(hm:partsOkB m=true)(h0:0<=at')(h1:at'<=100):
  finR p (setVW p i v (match laidR v file l at' m with | .inl c=>.inl c | .inr its=>.inr (E,its)))=finS p (0,{p with ex:=E,vs:=p.vs.set i {v with its:=setI ⟨file,laidJ l at' m⟩ v.its}}):=by
 unfold laidR;rw[mj_ hl hm h0 h1,dw_];by_cases h:partsOkB (laidJ l at' m)=true
 ·rw[if_pos h];rfl
 ·rw[if_neg h];have hi:=(Zb.1 hv).1;have hb:poolB (lateS p {p with ex:=E,vs:=p.vs.set i {v with its:=setI ⟨file,laidJ l at' m⟩ v.its}})=false:=nM_ (v:={v with its:=setI ⟨file,laidJ l at' m⟩ v.its}) (x:=⟨file,laidJ l at' m⟩) (List.mem_set hi _) (oR_ _ _) h;simp only[finR,setVW,hb,Zj,if_false]
theorem qd_ (p:Po)(i:Nat)(v:Vo)(R:Int⊕List It):setV p i v R=setVW p i v (match R with | .inl c=>.inl c | .inr its=>.inr (p.ex,its)):=by
 cases R<;>rfl
theorem gA_ (hv:p.vs[i]?=some v)(file:ByteArray)(hl:partsOkB l=true)(hm:partsOkB m=true)(h0:0<=at')(h1:at'<=100):
  finR p (setV p i v (laidR v file l at' m))=finS p (0,{p with vs:=p.vs.set i {v with its:=setI ⟨file,laidJ l at' m⟩ v.its}}):=by
 rw[qd_];exact k9_ hv file hl hm h0 h1
theorem oS_ {s:Int}(hl:partsOkB l=true)(h0:0<=s):laidJ (slp 0 (min s (sumN l)) 0 l) s []=if s > sumN l then laidJ l (sumN l) [⟨0,0,s-sumN l⟩] else joinL [] (slp 0 s 0 l):=by
 have hb:=(ae_ hl).2.1;have hr:=eJ_ hl 0 (min s (sumN l));have hn:=az_ l hb;by_cases h:s > sumN l
 ·have e:slp 0 (min s (sumN l)) 0 l=l:=g9_ l 0 (by omega) (by omega) hb;rw[if_pos h,e,du_ hl,du_ hl];congr 1;unfold laidL;rw[e,if_pos h,if_neg (by omega),g8_ (by simp only[sumN];omega),g9_ l 0 (by omega) (by omega) hb,g8_ (by simp only[sumN];omega)];simp
 ·have hs:min s (sumN l)=s:=by omega
  rw[if_neg h,hs];rw[hs] at hr;have ha:sumN (slp 0 s 0 l)=s:=by rw[mZ_ (by omega) l 0 hb];omega
  rw[du_ hr];congr 1;have e5:slp (min (s+sumN []) s) s 0 (slp 0 s 0 l)=[]:=g8_ (by simp only[sumN];omega) _ _;have e6:slp 0 (min s s) 0 (slp 0 s 0 l)=slp 0 s 0 l:=g9_ _ 0 (by omega) (by rw[ha];omega) (ae_ hr).2.1;unfold laidL;rw[ha,if_neg (by omega),e5,e6];simp
theorem h6_ (f:α->List UInt8)(s:List UInt8):∀ {l:List α} {k:Nat},(l.map f).Nodup->l.findIdx? (fun x=>f x==s)=some k->l.filter (fun x=>!(f x==s))=l.take k++l.drop (k+1)
 |[],_,_,h=>by cases h
 |x::r,k,hn,h=>by
  rw[List.map_cons,List.nodup_cons] at hn;rw[List.findIdx?_cons] at h;by_cases hx:(f x==s)=true
  ·rw[if_pos hx] at h;obtain rfl:=Zi h
   have hr:r.filter (fun x=>!(f x==s))=r:=by
    rw[List.filter_eq_self];intro y hy
    have:f x=s:=by simpa using hx
    have ha:f y≠s:=fun e=>hn.1 (by rw[this,<-e];exact List.mem_map_of_mem hy);simpa using ha
   rw[ZH,hx];simpa using hr
  ·rw[if_neg hx] at h
   cases hk:r.findIdx? (fun x=>f x==s) with
   |none=>rw[hk] at h;cases h
   |some j=>
    rw[hk] at h;obtain rfl:=Zi h;have hb:(f x==s)=false:=by simpa using hx
    rw[ZH,hb];simpa using h6_ f s hn.2 hk
theorem nN_ {l:List It}(h:RisI l):(l.map (·.nm.toList)).Nodup:=by
 rw[List.nodup_iff_pairwise_ne,List.pairwise_map];exact h.imp (fun {a b} ha e=>by rw[e,cn_] at ha;cases ha)
theorem i1_ (h:volI vs s=some i):∃ v,vs[i]?=some v:=by
 unfold volI at h
 have:=(ZA.1 h).1
 exact⟨vs[i],by simp[this]⟩
theorem oT_ {l:List It}(h:itI l s=some i):∃ v,l[i]?=some v:=by
 unfold itI at h
 have:=(ZA.1 h).1
 exact⟨l[i],by simp[this]⟩
theorem ha_ {F:Nat->Vo->Int⊕Po}{nm fl:ByteArray}(e1:(if o.k=5 then o.to else o.vol)=nm)(e2:(if o.k=5 then o.into else o.file)=fl)(hF:∀ (i:Nat) (v:Vo),volI p.vs nm=some i->p.vs[i]?=some v->finR p (F i v)=finS p (if (partsS p o).1=0 then (0,{p with ex:=(partsS p o).2.1,vs:=p.vs.set i {v with its:=setI ⟨fl,(partsS p o).2.2⟩ v.its}}) else ((partsS p o).1,p))):finR p (onVol p nm true F)=finS p (fileS p o):=by
 unfold onVol fileS;simp only[e1,e2]
 cases h1:volI p.vs nm with
 |none=>exact (bt_ (by decide)).symm
 |some i=>
  simp only
  cases h2:p.vs[i]? with
  |none=>exact (bt_ (by decide)).symm
  |some v=>
   simp only[Zp];by_cases h3:v.fx=true
   ·rw[if_pos h3,if_pos h3];exact (bt_ (by decide)).symm
   ·rw[if_neg h3,if_neg h3];exact hF i v h1 h2
theorem nO_ (hk:o.k=10):partsS p o=(match partsO p.vs o.vol o.file with | none=>(3,p.ex,[]) | some q=>(0,p.ex,laidJ q o.at' [⟨0,0,o.ln⟩])):=by
 unfold partsS;simp[hk];rfl
theorem oU_ (hk:o.k=3):partsS p o=(match partsO p.vs o.vol o.file with | none=>(3,p.ex,[]) | some q=>if o.ln > sumN q then (0,p.ex,laidJ q (sumN q) [⟨0,0,o.ln-sumN q⟩]) else (0,p.ex,joinL [] (slp 0 o.ln 0 q))):=by
 unfold partsS;simp[hk];rfl
theorem oV_ (hk:o.k=2):partsS p o=(match placedO p.size p.ex o.data with | none=>(5,p.ex,[]) | some (l,a)=>(0,l,laidJ ((partsO p.vs o.vol o.file).getD []) o.at' [⟨a,0,o.data.size⟩])):=by
 unfold partsS;simp[hk];rfl
theorem oW_ (hk:o.k=5):partsS p o=(match partsO p.vs o.vol o.file with | none=>(3,p.ex,[]) | some src=>if o.fr+o.ln > sumN src then (3,p.ex,[]) else (0,p.ex,laidJ ((partsO p.vs o.to o.into).getD []) o.at' (joinL [] (slp o.fr (o.fr+o.ln) 0 src)))):=by
 unfold partsS;simp[hk];rfl
theorem la_ (hp:poolB p=true)(hk:o.k=10)(h0:0<=o.at')(h1:o.at'<=100)(l0:1<=o.ln)(l1:o.ln<=100):finR p (onVol p o.vol true (fun i y=>setV p i y (punchR y o.file o.at' o.ln)))=finS p (fileS p o):=by
 refine ha_ (if_neg (by omega)) (if_neg (by omega)) (fun i v hi hv=>?_);have ha:=dY_ (file:=o.file) hi hv;rw[nO_ hk,ha];unfold punchR
 cases hf:fileO v o.file with
 |none=>exact (bt_ (by decide)).symm
 |some q=>
  have hq:=(bb_ hp (ha.trans hf)).1;have hm:partsOkB [⟨0,0,o.ln⟩]=true:=by simp[partsOkB,pgo,partOkB];omega
  exact gA_ hv o.file hq hm h0 h1
theorem nP_ (hp:poolB p=true)(hk:o.k=3)(l0:0<=o.ln)(l1:o.ln<=100):finR p (onVol p o.vol true (fun i y=>setV p i y (cutR y o.file o.ln)))=finS p (fileS p o):=by
 refine ha_ (if_neg (by omega)) (if_neg (by omega)) (fun i v hi hv=>?_);have ha:=dY_ (file:=o.file) hi hv;rw[oU_ hk,ha];unfold cutR
 cases hf:fileO v o.file with
 |none=>exact (bt_ (by decide)).symm
 |some q=>
  have hq:=(bb_ hp (ha.trans hf)).1;have hn:=az_ q (ae_ hq).2.1;have hl:lenB q=sumN q:=by unfold lenB;rw[if_pos hq]
  simp only;rw[hl,slices hq (Int.le_refl 0) (by omega) (by omega),Option.getD_some,gA_ hv o.file (eJ_ hq _ _) rfl l0 l1,oS_ hq l0];by_cases h:o.ln > sumN q
  ·simp only[if_pos h,if_true]
  ·simp only[if_neg h,if_true]
theorem lb_ (hp:poolB p=true)(hk:o.k=2)(h0:0<=o.at')(h1:o.at'<=100)(hd:dataOkB o.data=true):finR p (onVol p o.vol true (fun i y=>setVW p i y (writeR p.size p.ex y o.file o.at' o.data)))=finS p (fileS p o):=by
 refine ha_ (if_neg (by omega)) (if_neg (by omega)) (fun i v hi hv=>?_);have hb:=dY_ (file:=o.file) hi hv;rw[oV_ hk,hb];unfold writeR
 cases hc:placedO p.size p.ex o.data with
 |none=>exact (bt_ (by decide)).symm
 |some r=>
  obtain⟨L,a⟩:=r;have hq:partsOkB ((fileO v o.file).getD [])=true:=by rw[<-hb];exact bH_ hp
  have ha:=gw_ hc;have he:=bl_ hd;have hf:=l6_ hd
  have hm:partsOkB [⟨a,0,o.data.size⟩]=true:=by
   have h0:(a==0)=false:=ZV.2 (by omega);simp[partsOkB,pgo,partOkB,h0];omega
  exact k9_ hv o.file hq hm h0 h1
theorem ml_ (hp:poolB p=true)(hk:o.k=5)(h0:0<=o.at')(h1:o.at'<=100)(f0:0<=o.fr)(l0:1<=o.ln):finR p (onVol p o.to true (fun i y=>setV p i y (copyR p.vs y o.into o.at' o.vol o.file o.fr (o.fr+o.ln))))=finS p (fileS p o):=by
 refine ha_ (if_pos hk) (if_pos hk) (fun i v hi hv=>?_);have ha:=dY_ (file:=o.into) hi hv;have hq:partsOkB ((fileO v o.into).getD [])=true:=by rw[<-ha];exact bH_ hp
 rw[oW_ hk,ha];unfold copyR;have hb:=mk_ (vs:=p.vs) (vol:=o.vol) (file:=o.file)
 cases hu:(volI p.vs o.vol).bind (fun j=>p.vs[j]?) with
 |none=>
  rw[hu] at hb;rw[hb];exact (bt_ (by decide)).symm
 |some u=>
  rw[hu,Option.bind_some] at hb;rw[hb];simp only
  cases hf:fileO u o.file with
  |none=>exact (bt_ (by decide)).symm
  |some q=>
   have hr:=(bb_ hp (hb.trans hf)).1;simp only;by_cases h:o.fr+o.ln > sumN q
   ·have hs:sliceO q o.fr (o.fr+o.ln)=none:=by unfold sliceO;rw[if_neg (fun hc=>by omega)]
    rw[hs,if_pos h];exact (bt_ (by decide)).symm
   ·rw[slices hr f0 (by omega) (by omega),if_neg h];simp only[if_true];rw[fD_ (b8_ hr _ _)];exact gA_ hv o.into hq (eJ_ hr _ _) h0 h1
theorem mm_ (hk:o.k=1):finR p (addR p o.vol [])=finS p (volS p o):=by
 unfold addR volS
 cases h1:volI p.vs o.vol with
 |none=>simp only[hk,if_true];exact dw_.symm
 |some i=>
  obtain⟨v,hv⟩:=i1_ h1;simp only[hv,hk,if_true];exact (bt_ (by decide)).symm
theorem jF_ {b:Bool}{F:Nat->Vo->Int⊕Po}(hk:¬ o.k=1)(hF:∀ (i:Nat) (v:Vo),volI p.vs o.vol=some i->p.vs[i]?=some v->finR p (if (b&&v.fx)=true then .inl 6 else F i v)=finS p (volS p o)):finR p (onVol p o.vol b F)=finS p (volS p o):=by
 unfold onVol
 cases h1:volI p.vs o.vol with
 |none=>
  unfold volS;rw[h1];simp only[if_neg hk];exact (bt_ (by decide)).symm
 |some i=>
  obtain⟨v,hv⟩:=i1_ h1;simp only[hv];exact hF i v h1 hv
theorem hb_ (h1:volI p.vs o.vol=some i)(h2:p.vs[i]?=some v):volS p o=(if o.k=1 then ((4:Int),p)
      else if o.k=6 then (match volI p.vs o.to with | some _=>(4,p) | none=>(0,{p with vs:=p.vs++[⟨p.next,o.to,false,v.its⟩],next:=p.next+1}))
      else if o.k=7 then (0,{p with vs:=p.vs.take i++p.vs.drop (i+1)})
      else if o.k=8 then (if v.fx=true then (6,p) else (0,{p with vs:=p.vs.set i {v with fx:=true}}))
      else if o.k=4 then (if v.fx=true then (6,p) else match itI v.its o.file with | none=>(3,p) | some k=>(0,{p with vs:=p.vs.set i {v with its:=v.its.take k++v.its.drop (k+1)}}))
      else (0,p)):=by
 unfold volS;rw[h1];simp only[h2];rfl
theorem mn_ (hk:o.k=6):finR p (onVol p o.vol false (fun _ y=>addR p o.to y.its))=finS p (volS p o):=by
 refine jF_ (by omega) (fun i v h1 h2=>?_);rw[hb_ h1 h2];simp only[hk,Zr,Zj,if_false,if_true,show ¬ (6:Int)=1 by decide];unfold addR
 cases volI p.vs o.to with
 |some _=>exact (bt_ (by decide)).symm
 |none=>exact dw_.symm
theorem mo_ (hp:poolB p=true)(hk:o.k=7):finR p (onVol p o.vol false (fun _ _=>.inr {p with vs:=p.vs.filter (fun v=>!(v.nm.toList==o.vol.toList))}))=finS p (volS p o):=by
 refine jF_ (by omega) (fun i v h1 h2=>?_);rw[hb_ h1 h2];simp only[hk,Zr,Zj,if_false,if_true,show ¬ (7:Int)=1 by decide,show ¬ (7:Int)=6 by decide];rw[dw_,h6_ (fun v:Vo=>v.nm.toList) o.vol.toList (bL_ hp).2.2.2.2 h1]
theorem nQ_ (hk:o.k=8):finR p (onVol p o.vol false (fun i y=>(if y.fx=true then .inl 6 else .inr {p with vs:=p.vs.set i {y with fx:=true}}:Int⊕Po)))=finS p (volS p o):=by
 refine jF_ (by omega) (fun i v h1 h2=>?_);rw[hb_ h1 h2];simp only[hk,Zr,Zj,if_false,if_true,show ¬ (8:Int)=1 by decide,show ¬ (8:Int)=6 by decide,show ¬ (8:Int)=7 by decide]
 cases v.fx
 ·exact dw_.symm
 ·exact (bt_ (by decide)).symm
theorem jG_ (hp:poolB p=true)(hk:o.k=4):finR p (onVol p o.vol true (fun i y=>setV p i y (unlinkR y o.file)))=finS p (volS p o):=by
 refine jF_ (by omega) (fun i v h1 h2=>?_);rw[hb_ h1 h2];simp only[hk,Zp,if_false,if_true,show ¬ (4:Int)=1 by decide,show ¬ (4:Int)=6 by decide,show ¬ (4:Int)=7 by decide,show ¬ (4:Int)=8 by decide];by_cases hfx:v.fx=true
 ·rw[if_pos hfx,if_pos hfx];exact (bt_ (by decide)).symm
 ·rw[if_neg hfx,if_neg hfx];have ha:=(iX_ (b0_ (bL_ hp).2.1 v (Zc h2)).1).1;unfold unlinkR fileO
  cases hi:itI v.its o.file with
  |none=>exact (bt_ (by decide)).symm
  |some k=>
   obtain⟨x,hx⟩:=oT_ hi;simp only[Option.bind_some,hx,Option.map_some,setV];rw[dw_,h6_ (fun v:It=>v.nm.toList) o.file.toList (nN_ ha) hi]
theorem nR_ (hp:poolB p=true)(ho:opB o=true)(hk:¬ o.k=9):finR p (carR p o.k o.vol o.file o.to o.into o.at' o.fr o.ln o.data)=finS p (triedS p o):=by
 have ha:=h5_ ho;unfold opB inB at ho;unfold carR triedS;rcases ha with h | h | h | h | h | h | h | h | h | h
 ·simp only[h,show ¬ ((1:Int)=2∨(1:Int)=3∨(1:Int)=5∨(1:Int)=10) by decide,if_true,if_false];exact mm_ h
 ·simp[h] at ho ⊢;exact lb_ hp h ho.1.1.2.1 ho.1.1.2.2 ho.1.2
 ·simp[h] at ho ⊢;exact nP_ hp h ho.1.2.1 ho.1.2.2
 ·simp[h];exact jG_ hp h
 ·simp[h] at ho ⊢;exact ml_ hp h ho.1.1.1.2.1 ho.1.1.1.2.2 ho.1.1.2.1 ho.1.2.1
 ·simp[h];exact mn_ h
 ·simp[h];exact mo_ hp h
 ·simp[h];exact nQ_ h
 ·exact absurd h hk
 ·simp[h] at ho ⊢;exact la_ hp h ho.1.1.2.1 ho.1.1.2.2 ho.1.2.1 ho.1.2.2
theorem oX_ {p q:Ct}(h:eqCt p q=true):p=q:=by
 unfold eqCt at h;simp only[Zf,beq_iff_eq] at h;obtain⟨o,n⟩:=p;obtain⟨o',n'⟩:=q;simp only at h;rw[aM_.1 h.1,h.2]
theorem i2_:∀ {l m:List Ct},eqCts l m=true->l=m
 |[],[],_=>rfl
 |[],_::_,h=>by simp[eqCts] at h
 |_::_,[],h=>by simp[eqCts] at h
 |x::r,y::s,h=>by
  simp only[eqCts,Zf] at h;rw[oX_ h.1,i2_ h.2]
theorem nS_ (h:poolB p=true):sumC p.rf p.lt=walkL p.vs:=by
 have h1:=(dv_ h).1;simp only[poolB,Zf] at h;have h2:=h.1.2;rw[h1] at h2;exact i2_ h2
theorem pS_:∀ {l:List Ex} {n m:Int},m<=n->xgo size n l=true->xgo size m l=true
 |[],_,_,_,_=>rfl
 |e::r,n,m,h,hx=>by
  simp only[xgo,Zf,ZU] at hx ⊢;exact⟨⟨⟨hx.1.1.1,by omega⟩,hx.1.2⟩,hx.2⟩
theorem h7_ (f:Ex->Bool):∀ {l:List Ex} {n:Int},xgo size n l=true->xgo size n (l.filter f)=true
 |[],_,_=>rfl
 |e::r,n,hx=>by
  simp only[xgo,Zf,ZU] at hx;have ih:=h7_ f hx.2;rw[ZH];split
  ·simp only[xgo,Zf,ZU];exact⟨hx.1,ih⟩
  ·exact pS_ (by have:=hx.1.1.2;omega) ih
theorem ga_ (f:Ex->Bool){l:List Ex}(h:spaceOkB size l=true):spaceOkB size (l.filter f)=true:=by
 simp only[spaceOkB,Zf,ZU] at h ⊢
 have:=Yc f l
 exact⟨⟨h.1.1,by omega⟩,h7_ f h.2⟩
theorem fm_ {f:Ex->Bool}{a:Int}:∀ {l:List Ex},(∀ x∈l,x.a=a->f x=true)->dataAtB a (l.filter f)=dataAtB a l
 |[],_=>rfl
 |e::r,h=>by
  have ih:=fm_ (f:=f) (a:=a) (l:=r) (fun x hx=>h x (by simp[hx]));rw[ZH];by_cases hf:f e=true
  ·rw[if_pos hf];simp only[dataAtB,ih]
  ·rw[if_neg hf,ih];have ha:(e.a==a)=false:=ZV.2 (fun he=>hf (h e (by simp) he));simp only[dataAtB,ha,Zj,if_false]
theorem h8_ {f:Ex->Bool}:∀ (l:List Pt) (acc:ByteArray),(∀ q∈l,q.a≠0->∀ x∈e,x.a=q.a->f x=true)->cgo (e.filter f) acc l=cgo e acc l
 |[],_,_=>rfl
 |q::r,acc,h=>by
  have hq:pieceO (e.filter f) q=pieceO e q:=by
   unfold pieceO;by_cases h0:q.a=0
   ·simp[h0]
   ·rw[fm_ (h q (by simp) h0)]
  unfold cgo;rw[hq]
  cases pieceO e q with
  |none=>rfl
  |some d=>exact h8_ r _ (fun z hz=>h z (by simp[hz]))
theorem h9_ {f:Ex->Bool}{ps:List Pt}(hs:spaceOkB 400 e=true)(h:∀ q∈ps,q.a≠0->∀ x∈e,x.a=q.a->f x=true):contentO ps (e.filter f)=contentO ps e:=by
 unfold contentO;rw[h8_ ps _ h];simp only[hs,ga_ f hs,and_true]
theorem lc_:∀ {l:List It} {q:Option It},(∀ x∈l,contentO x.ps e'=contentO x.ps e)->igo e' q l=igo e q l
 |[],_,_=>rfl
 |x::r,q,h=>by
  simp only[igo];rw[h x (by simp),lc_ (fun y hy=>h y (by simp[hy]))]
theorem ld_ {next:Int}:∀ {l:List Vo} {last:Int},(∀ v∈l,∀ x∈v.its,contentO x.ps e'=contentO x.ps e)->vgo next e' last l=vgo next e last l
 |[],_,_=>rfl
 |v::r,last,h=>by
  simp only[vgo,itemsB];rw[lc_ (h v (by simp)),ld_ (fun y hy=>h y (by simp[hy]))]
theorem m0_:∀ {l:List Ct} {c:Ct},(∀ x∈l,x.n=1)->c∈l->1<=tot c.o l
 |[],_,_,h=>by cases h
 |y::r,c,h1,h=>by
  have h0:=(cy_ (l:=r) (fun x hx=>h1 x (by simp[hx])) c.o).1;have hy:=h1 y (by simp);simp only[tot];rcases Zn.1 h with rfl | h
  ·rw[a3_,if_pos rfl];omega
  ·have:=m0_ (fun x hx=>h1 x (by simp[hx])) h
   split<;>omega
theorem bR_ (l:List Vo):Rising (walkL l)∧NoZero (walkL l)∧∀ o,tot o (walkL l)=tot o (allCs l):=by
 obtain⟨h1,h2,h3⟩:=eL_ (l:=[]) (more:=allCs l) List.Pairwise.nil (fun c hc=>by cases hc) (hO_ l);exact⟨h1,h2,fun o=>by rw[walkL,h3];simp[tot]⟩
theorem oY_ {l:List Vo}{q:Pt}(hv:v∈l)(hx:x∈v.its)(hq:q∈x.ps)(h0:q.a≠0):∃ c∈walkL l,c.o=⟨q.a,v.id,x.nm⟩:=by
 have hm:(⟨⟨q.a,v.id,x.nm⟩,1⟩:Ct)∈allCs l:=ZL.2 ⟨v,hv,ZL.2 ⟨x,hx,ZT.2 ⟨q,List.mem_filter.2 ⟨hq,by simp[h0]⟩,rfl⟩⟩⟩;have h1:=m0_ (fZ_ l) hm;rw[<-(bR_ l).2.2] at h1;by_cases hc:∃ c∈walkL l,c.o=⟨q.a,v.id,x.nm⟩
 ·exact hc
 ·exfalso
  have:=bB_ (o:=⟨q.a,v.id,x.nm⟩) (l:=walkL l) (fun c hm e=>hc ⟨c,hm,e⟩)
  simp only at h1;omega
theorem iy_ (hp:poolB p=true)(hv:v∈p.vs)(hx:x∈v.its):contentO x.ps (flushS p).ex=contentO x.ps p.ex:=by
 refine h9_ (iI_ (aQ_ hp).1) (fun q hq h0 e _ he=>?_);obtain⟨c,hc,ho⟩:=oY_ hv hx hq h0;rw[nS_ hp];exact ZN.2 ⟨c,hc,by rw[ho,he];simp⟩
theorem le_ (hp:poolB p=true):poolB (flushS p)=true:=by
 have hr:=c6_ hp;have hf:=(dv_ hp).1;have hb:=ld_ (next:=p.next) (last:=0) (l:=p.vs) (e:=p.ex) (e':=(flushS p).ex) (fun v hv x hx=>iy_ hp hv hx);have he:=hp;simp only[poolB,volsB,Zf,ZU] at hp ⊢;obtain⟨⟨⟨⟨⟨⟨h1,h2⟩,h3⟩,h4⟩,h5⟩,h6⟩,h7⟩:=hp;refine⟨⟨⟨⟨⟨⟨ga_ _ h1,h2⟩,h3⟩,h4.1,?_⟩,h5⟩,?_⟩,?_⟩
 ·exact hb.trans h4.2
 ·have e:flushedO (flushS p).rf (flushS p).lt=some (sumC p.rf p.lt):=by
   show flushedO (sumC p.rf p.lt) []=_;unfold flushedO;rw[if_pos ⟨hr,rfl⟩];exact if_pos hr
  rw[hf] at h6;rw[e];exact h6
 ·simp only[addrB,Zf,List.all_eq_true] at h7 ⊢;refine⟨fun x hx=>?_,fun c hc=>?_⟩
  ·have:=(List.mem_filter.1 hx).2
   obtain⟨c,hc,e⟩:=ZN.1 this;exact ZN.2 ⟨c,List.mem_append_left _ hc,e⟩
  ·have ha:c∈sumC p.rf p.lt:=by
    rcases Zs.1 hc with h | h
    ·exact h
    ·cases h
   obtain⟨d,hd,e⟩:∃ d∈p.rf++p.lt,c.o=d.o:=by
    rcases eI_ ha with⟨d,hd,e⟩ | ⟨d,hd,e⟩
    ·exact⟨d,List.mem_append_left _ hd,e⟩
    ·exact⟨d,List.mem_append_right _ hd,e⟩
   obtain⟨x,hx,e2⟩:=ZN.1 (h7.2 d hd);refine ZN.2 ⟨x,List.mem_filter.2 ⟨hx,ZN.2 ⟨c,ha,?_⟩⟩,?_⟩
   ·have:x.a=d.o.a:=by simpa using e2
    rw[e,this];simp
   ·rw[e];exact e2
theorem ia_ (o:Ow):∀ l:List Ct,tot o (negC l)=- tot o l
 |[]=>rfl
 |c::r=>by
  have ih:=ia_ o r;unfold negC at ih ⊢;rw[List.map_cons];simp only[tot];rw[ih];split<;>omega
theorem oZ_ {l:List Ct}(h:NoZero l):NoZero (negC l):=by
 intro c hc;obtain⟨d,hd,rfl⟩:=ZT.1 hc
 have:=h d hd
 simp only;omega
theorem o0_ (l:List Vo):sumC (walkL l) (negC (walkL l))=[]:=by
 obtain⟨h1,h2,_⟩:=bR_ l;obtain⟨a1,a2,a3⟩:=eL_ h1 h2 (oZ_ h2);exact cS_ a1 List.Pairwise.nil a2 (fun c hc=>by cases hc) (fun o=>by rw[a3,ia_];simp only[tot];omega)
theorem lf_ (hp:poolB p=true):flushP p=flushS p:=by
 unfold flushP flushS;rw[(dv_ hp).1];rfl
theorem mp_ (hp:poolB p=true):lateS p (flushP p)=flushS p:=by
 rw[lf_ hp];unfold lateS;show ({flushS p with lt:=[]++sumC (walkL p.vs) (negC (walkL p.vs))}:Po)=flushS p;rw[o0_];rfl
theorem i3_ (hk:o.k=9):carR p o.k o.vol o.file o.to o.into o.at' o.fr o.ln o.data=.inr (flushP p):=by
 unfold carR;simp[hk]
theorem o1_ (hp:poolB p=true)(ho:opB o=true):finR p (carR p o.k o.vol o.file o.to o.into o.at' o.fr o.ln o.data)=opS p o:=by
 by_cases hk:o.k=9
 ·rw[i3_ hk];unfold finR opS;simp only;rw[mp_ hp,le_ hp,if_pos ho,if_pos hk];rfl
 ·rw[nR_ hp ho hk];unfold finS opS;rw[if_pos ho,if_neg hk]
end
section
open Go Go.RowKit Go.BigFrame Tryz
open Go.Maps (Keyed)
theorem fE_ {v:Vo}:∀ {l:List It},(∀ x∈l,x.ps.length<=1000)->(itsCs v l).length<=1000*l.length
 |[],_=>by simp[itsCs]
 |x::r,h=>by
  have ih:=fE_ (v:=v) (l:=r) (fun y hy=>h y (by simp[hy]));have h1:=h x (by simp);have h2:=fw_ v.id x.nm x.ps;unfold itsCs at ih ⊢;rw[ZF,ZE,Zw];omega
theorem fF_:∀ {l:List Vo},(∀ v∈l,v.its.length<=6∧∀ x∈v.its,x.ps.length<=1000)->(allCs l).length<=6000*l.length
 |[],_=>by simp[allCs]
 |v::r,h=>by
  have ih:=fF_ (l:=r) (fun y hy=>h y (by simp[hy]));obtain⟨h1,h2⟩:=h v (by simp);have h3:=fE_ (v:=v) h2;rw[cx_,ZE,Zw,show volCs v=itsCs v v.its from rfl];omega
theorem lg_ (B b pb po:Nat)(D:DataW Unit)(va:Option Addr)(vn:Nat)(vs:List Vo)(hpb:0<vn->va=some ⟨pb,po,none⟩)(w:World)(hO:w.ownsMap prog 9 (ptrElem pb) b vn D)(hV:VMap D po vs)(hnd:(vs.map (·.nm.toList)).Nodup)(h2:VsAt B w va vn vs)(ht:WideV vs)(hw:WfV vs):
  Calls prog 71 #[.map (some b)] w fun e w'=>(∃ a n cap,e=.returned (.slice a n cap)∧n<=42000∧ResAt Ct.cs 4 107 w' w.heap.size a n cap (walkL vs))∧Below w.heap.size w w':=by
 have qk:=@run_makeMap prog;have hb:Hid (vs.length=vn):=h2.len;have qh:=hO.lt;have qg:Maps.size D<=vn:=hO.size_le;obtain⟨t6,tv⟩:=ht;rw[hb.out] at t6;have hL:=TlAt.made w;have hN:(w.alloc (.map #[] 0)).ownsMap prog 9 (ptrElem pb) b vn D:=hO.alloc _;have hJ:Below w.heap.size w (w.alloc (.map #[] 0)):=(Below.refl _ _).alloc (Zd _) _;have hQ:(w.alloc (.map #[] 0)).heap.size=w.heap.size+1:=by simp
 have hY:∀ left o,0<=tot o (allCs (doneV left vs))∧tot o (allCs (doneV left vs))<=42000:=fun left o=>by
  have h1:=cy_ (fZ_ (doneV left vs)) o;have h2:=fF_ (l:=doneV left vs) (fun v hv=>by have:=tv v (List.mem_filter.1 hv).1;exact⟨this.1,fun x hx=>(this.2 x hx).1⟩);have h3:(doneV left vs).length<=vs.length:=Yc _ _;have h4:=hb.out;omega
 go_enter func71,ntmps71
 go_wp2_with (first
  |(at_range;refine wpList_range_own _ rfl _ 122 rfl 9 178 keyed9 underlying122 _ b vn D rfl hN ?_;intro w0 he hH hr)
  |go_in)
 rw[hQ] at he hr ⊢;go_frame;have T0:TlAt w0 w.heap.size 0 (fun _=>0):=hL.kept hH (by simp);have hf:Below w.heap.size w w0:=hJ.grown hH (by omega) (fun j hj=>by cases hj);clear hL hN hJ hQ hH hO
 go_loopw [11] (fun _ wr=>∃ (left:Lit->Bool) (cnt m:Nat),m+6000*cnt<=6000*vn∧(∀ kl,left kl=true->Maps.has D kl=true)∧wr.ranges prog 9 (ptrElem pb) b (w.heap.size+1) vn D left cnt∧TlAt wr w.heap.size m (fun o=>tot o (allCs (doneV left vs)))∧w.heap.size+2<=wr.heap.size∧Below w.heap.size w wr)
  (fun _ wr=>wr.rangeLeft b (w.heap.size+1))
 case atStart=>
  refine⟨_,_,0,by omega,fun _ h=>h,he,T0.congr (fun o=>?_),by omega,hf⟩;rw[hL_ (fun v hv=>by unfold keyV;rw[hV.has];exact ZN.2 ⟨v,hv,by simp⟩)];rfl
 case round=>
  clear he T0 hf hr;obtain⟨left,cnt,m,qf,hq,hE,T,qd,hB⟩:=hrel
  go_wp2_with (first
   |(at_next;refine wpList_next_ranges _ rfl _ rfl 9 keyed9 (ptrElem pb) Value.string (fun o:Nat=>Value.pointer (some ⟨pb,o,none⟩)) (fun key kl hk=>(by obtain⟨s,hs,_⟩:=f0_ hk;exact⟨s,hs⟩)) (fun v y h=>(by obtain⟨o,ho,_⟩:=eu_ h;exact⟨o,ho⟩)) b (w.heap.size+1) vn D left cnt rfl hE ?_ ?_)
   |go_in)
  ·intro qi h6;rw[iS_ h6] at T
   go_wp2_with fail
   refine (dG_ w.heap.size m _ wr T (by omega)).mono ?_;rintro e w4 ⟨⟨a2,n2,cap2,R,rfl,qj,R4,q1,q2,q3,q4⟩,h0⟩;have hR:R=walkL vs:=g6_ q1 q2 q3 (fun o ho=>by rw[q4 o ho];simp[tot]) List.Pairwise.nil (fun c hc=>by simp at hc) (hO_ vs) (fun c hc=>by simp at hc) (hN_ hw);subst hR;have qe:=chain hB h0;go_wp2;go_returns;exact⟨⟨a2,n2,cap2,rfl,by omega,R4.mono hB.size⟩,qe⟩
  ·intro s o kl y yp w1 cnt1 hh hM hK hI hg hT hD hr hZ
   obtain rfl:kl=.string s.data.toList:=by
    obtain⟨s',e,e2⟩:=f0_ hh;injection e with e;rw[e,e2]
   obtain⟨i,v,hi,rfl,rfl⟩:=hP_ hV hnd (hq _ hM) hK hI;have hX:i<vn:=by rw[<-hb.out];exact (Zb.1 hi).1
   have hu:=Zc hi;obtain⟨t1,t2⟩:=tv v hu;obtain⟨u1,u2⟩:=hw v hu;obtain⟨F,hz⟩:∃ F:Ow->Int,∀ o,F o=tot o (allCs (doneV left vs)):=⟨_,fun _=>rfl⟩;have hn:∀ o,F o+tot o (itsCs v v.its)=tot o (allCs (doneV (fun z=>left z&&!z.sameKey (.string v.nm.data.toList)) vs)):=fun o=>by rw[hz];exact (gn_ (left:=left) (v:=v) hM hnd hu o).symm
   have hF:∀ o,0<=F o∧F o<=42000:=fun o=>by rw[hz];exact hY left o
   have T1:TlAt w1 w.heap.size m F:=(T.kept hD (by simp)).congr (fun o=>(hz o).symm);have hf:Below w.heap.size w w1:=hB.grown hD hB.size (fun j hj=>by cases hj;omega);obtain⟨b',o',x,qa,qn,qc,h8,hx,e0,e1,e2,e3,hP,_,_⟩:=b5_ h2 hX;obtain⟨rfl,rfl⟩:b'=pb∧o'=po:=by have:=hpb (by omega);rw[h8] at this;simpa using this
   obtain rfl:v=x:=by rw[hi] at hx;exact Zi hx
   have hS:Hid (v.its.length=qn):=hP.len;rw[hS.out] at t1;have hp:∀ kl,(left kl&&!kl.sameKey (.string v.nm.data.toList))=true->Maps.has D kl=true:=fun kl h=>hq kl (by simp at h;exact h.1);have hG:wr.rangeLeft b (w.heap.size+1)=cnt:=hE.left_eq;have e3':=bcell hf e3;obtain⟨wi,h9⟩:∃ x,x=wr:=⟨_,rfl⟩;subst h9;have hm:w.heap.size+2<=w1.heap.size:=by omega
   clear hh hK hI hD T hB hE hx hi e1 e2 e3 hz hr qd hu
   go_wp2_with fail
   go_loopw [20] (fun ix wq=>∃ (k:Nat),k<=qn∧ix=.int .i64 k∧TlAt wq w.heap.size (m+1000*k) (fun o=>F o+tot o (itsCs v (v.its.take k)))∧wq.ranges prog 9 (ptrElem b') b (w.heap.size+1) vn D (fun z=>left z&&!z.sameKey (.string v.nm.data.toList)) cnt1∧w.heap.size+2<=wq.heap.size∧Below w.heap.size w wq) (fun ix _=>qn-(intOf ix).toNat)
   case atStart=>exact⟨0,Zg _,rfl,T1.congr (fun o=>by simp[itsCs,tot]),hg,hm,hf⟩
   case round=>
    clear T1 hg hf hm e3' hZ;obtain⟨k,hk,rfl,T2,ha,hm,hl⟩:=hrel;by_cases hlk2:k<qn
    ·obtain⟨ib,io,x,pa,pn,pc,rfl,hx,c0,c1,hA,_,_,_⟩:=bO_ (hP.below hl) hlk2;have f0:=bcell hl e0;obtain⟨s1,_⟩:=t2 x (Zc hx);obtain⟨s2,s3⟩:=u2 x (Zc hx);rw[hA.len] at s1;have qm:(k:Int)<qn:=by omega
     have ql:(0:Int)<=k:=by omega
     have hW:Hid (itsCs v (v.its.take (k+1))=itsCs v (v.its.take k)++partCs v.id x.nm x.ps):=fq_ hx
     have h7:∀ o,0<=tot o (itsCs v (v.its.take k))∧tot o (itsCs v (v.its.take k))<=6000:=fun o=>by
      have h1:=cy_ (ju_ v (v.its.take k)) o;have h2:=fE_ (v:=v) (l:=v.its.take k) (fun y hy=>(t2 y (ZX hy)).1);have h3:(v.its.take k).length<=6:=by rw[Zz];omega
      omega
     clear hx;have X:=Blk.new wr #[.string x.nm,.slice pa pn pc] 156;have gW:wr.grownBy (wr.alloc (.cells #[.string x.nm,.slice pa pn pc] 156)) (some w.heap.size):=World.grownBy_alloc wr _ (some w.heap.size);have T3:TlAt (wr.alloc (.cells #[.string x.nm,.slice pa pn pc] 156)) w.heap.size (m+1000*k) (fun o=>F o+tot o (itsCs v (v.its.take k))):=T2.kept (World.grownBy_alloc wr _ none) (by simp);have f1:=acell (.cells #[.string x.nm,.slice pa pn pc] 156) f0;have hU:PtsAt (wr.alloc (.cells #[.string x.nm,.slice pa pn pc] 156)) pa pn x.ps:=hA.below (by go_grown);clear T2 f0 hA
     go_wp2_with fail
     have x0:=X.cell 0;have x1:=X.cell 1;simp only[lgA,lgB,lgC] at x0 x1;generalize wr.alloc (.cells #[.string x.nm,.slice pa pn pc] 156)=W at *;have y0:W.drew.cell? ⟨wr.heap.size,0,none⟩=some (.string x.nm):=x0;have y1:W.drew.cell? ⟨wr.heap.size,1,none⟩=some (.slice pa pn pc):=x1;have y2:W.drew.cell? ⟨b',o'+i*4,none⟩=some (.int .i64 v.id):=f1;refine aE_ 6 (by kernel_rfl) (by kernel_rfl) ?_;simp only[ZP,List.take_zero,ZR,List.drop_zero]
     repeat still_step
     refine wpStill_nil ?_
     go_wp2_with fail
     refine (fi_ w.heap.size (m+1000*k) _ v.id x.nm pa pn pc x.ps W.drew T3 hU.drew u1 s2 s3 (by omega) (by omega) (fun o=>by have h1:=hF o;have h2:=h7 o;omega)).mono ?_;rintro e w3 ⟨rfl,T4,g4⟩;have g5:wr.grownBy w3 (some w.heap.size):=(gW.andThen (⟨rfl,rfl,rfl,Zd _,fun _ _ _=>rfl⟩:W.grownBy W.drew (some w.heap.size)) (fun j hj=>by cases hj;exact .inr rfl)).andThen g4 (fun j hj=>by cases hj;exact .inr rfl);have hC:=ha.kept g5 (by simp only[ne_eq,Zo];omega) (by simp);have qb:Below w.heap.size w w3:=hl.grown g5 hl.size (fun j hj=>by cases hj;exact Zd _);have h5:w.heap.size+2<=w3.heap.size:=Zl hm g5.size;have T5:TlAt w3 w.heap.size (m+1000*(k+1)) (fun o=>F o+tot o (itsCs v (v.its.take (k+1)))):=(T4.mono (by omega)).congr (fun o=>by rw[hW.out,bn_];omega);go_wp2;go_roundw
     case rel=>exact⟨k+1,by omega,by go_num,T5,hC,h5,qb⟩
     case measure=>simp[intOf];omega
    ·obtain rfl:k=qn:=by omega
     rw[Zk (Zm hS.out)] at T2;go_wp2;go_roundw
     case rel=>exact⟨_,cnt1,m+1000*k,by omega,hp,ha,T2.congr hn,hm,hl⟩
     case measure=>rw[ha.left_eq,hG];exact hT
end
section
open Go Go.RowKit Go.BigFrame Tryz
variable{α:Type}{file:ByteArray}{its:List It}{l:List Vo}{i:Nat}{p q:Po}{v:Value}{y:Vo}
def VG (v:Vo):Prop:=1<=v.id∧v.id<=1000000000∧nameB v.nm=true∧v.its.length<=6∧∀ x∈v.its,nameB x.nm=true∧partsOkB x.ps=true
structure CarQ (q:Po):Prop where
 vn:q.vs.length<=7
 g:∀ v∈q.vs,VG v
 nd:(q.vs.map (·.nm.toList)).Nodup
 el:q.ex.length<=60
 es:Strs q.ex
 rl:q.rf.length<=200
 rs:StrC q.rf
 ll:q.lt.length<=200
 ls:StrC q.lt
theorem CarQ.wide (h:CarQ q):WideV q.vs:=⟨h.vn,fun v hv=>by
 obtain⟨_,_,_,h4,h5⟩:=h.g v hv;exact⟨h4,fun x hx=>⟨by have:=(ae_ (h5 x hx).2).1;omega,fun p hp=>cT_ ((ae_ (h5 x hx).2).2.1 p hp)⟩⟩⟩
theorem pT_ {p:Pt}(h:partOkB p=true):(Lit.int .i64 p.a).wf=true:=by
 have h0:=cT_ h
 have h1:p.a<=400:=by
  unfold partOkB at h;split at h
  ·rename_i h2;simp at h2;omega
  ·simp at h;omega
 exact WalkArith.wf_i64 (by omega)
theorem CarQ.wf (h:CarQ q):WfV q.vs:=fun v hv=>by
 obtain⟨h1,h2,_,_,h5⟩:=h.g v hv;exact⟨WalkArith.wf_i64 (by omega),fun x hx=>⟨by have:=cj_ (h5 x hx).1;unfold maxLen;omega,fun p hp=>pT_ ((ae_ (h5 x hx).2).2.1 p hp)⟩⟩
theorem CarQ.str (h:CarQ q):StrV q.vs:=fun v hv=>by
 obtain⟨_,_,h3,h4,h5⟩:=h.g v hv;exact⟨by have:=cj_ h3;omega,by omega,fun x hx=>⟨by have:=cj_ (h5 x hx).1;omega,by have:=(ae_ (h5 x hx).2).1;omega⟩⟩
theorem CarQ.dim (h:CarQ q)(hd:DimP p)(hn:(lateS p q).lt.length<=4194304):DimP (lateS p q):=by
 obtain⟨z1,z2,z3,z4,z5,z6,z7,z8⟩:=hd;have h1:=h.el;have h2:=h.vn;have h3:=h.rl;refine⟨?_,h.es,?_,h.str,?_,h.rs,hn,?_⟩
 ·show q.ex.length<=_;omega
 ·show q.vs.length<=_;omega
 ·show q.rf.length<=_;omega
 ·intro c hc;rcases Zs.1 hc with hc | hc
  ·exact h.ls c hc
  ·exact g7_ (f8_ h.str) (mV_ (f8_ z4)) c hc
theorem cQ_ (hp:poolB p=true):∀ v∈p.vs,VG v∧v.its.length<=5:=fun v hv=>by
 obtain⟨_,h2,h3,_⟩:=bL_ hp;obtain⟨a1,a2,a3,a4⟩:=b0_ h2 v hv;simp only[itemsB,Zf,ZU] at a1;refine⟨⟨by omega,by omega,a2,by omega,fun x hx=>⟨hR_ a1.2 x hx,?_⟩⟩,a1.1⟩;obtain⟨s,hs⟩:=Option.isSome_iff_exists.1 (db_ a1.2 x hx);exact (fl_ hs).1
theorem ib_ (hp:poolB p=true)(hd:DimP p):CarQ p:=by
 obtain⟨h1,_,_,h4,h5⟩:=bL_ hp;obtain⟨_,a2,a3⟩:=dv_ hp;exact⟨by omega,fun v hv=>(cQ_ hp v hv).1,h5,(cu_ h4).2.2.1,hd.2.1,(a0_ a2).1,hd.2.2.2.2.2.1,(br_ a3).1,hd.2.2.2.2.2.2.2⟩
theorem o2_ {l:List α}{a:α}(h:l[i]?=some a):l.set i a=l:=by
 refine List.ext_getElem? (fun j=>?_);rw[List.getElem?_set];split
 ·rename_i e;subst e;rw[h,if_pos (Zb.1 h).1]
 ·rfl
theorem CarQ.set (h:CarQ q){z:Vo}(hy:q.vs[i]?=some y)(hn:z.nm=y.nm)(hz:VG z){E:List Ex}(he:E.length<=60)(hs:Strs E):CarQ {q with ex:=E,vs:=q.vs.set i z}:=by
 refine⟨by rw[List.length_set];exact h.vn,fun v hv=>?_,?_,he,hs,h.rl,h.rs,h.ll,h.ls⟩
 ·rcases List.mem_or_eq_of_mem_set hv with hv | rfl
  ·exact h.g v hv
  ·exact hz
 ·rw[List.map_set,o2_]
  ·exact h.nd
  ·rw[List.getElem?_map,hy,hn];rfl
theorem bY_ {s:ByteArray}{c:Bool}{f:Nat->Vo->Int⊕Po}(h:onVol p s c f=.inr q):∃ i y,volI p.vs s=some i∧p.vs[i]?=some y∧f i y=.inr q:=by
 unfold onVol at h;split at h
 ·cases h
 ·rename_i i hi;split at h
  ·cases h
  ·rename_i y hy;split at h
   ·cases h
   ·exact⟨i,y,hi,hy,h⟩
theorem eW_ {l m:List Pt}{at':Int}(h:laidR y file l at' m=.inr its):∃ ps,partsOkB ps=true∧its=setI ⟨file,ps⟩ y.its:=by
 unfold laidR at h;split at h
 ·cases h
 ·rename_i ps hps;injection h with h;exact⟨ps,(nL_ hps).2.2.2.2.1,h.symm⟩
theorem hc_ {ps:List Pt}(hy:VG y)(h5:y.its.length<=5)(hf:nameB file=true)(hps:partsOkB ps=true):VG {y with its:=setI ⟨file,ps⟩ y.its}:=by
 obtain⟨h1,h2,h3,_,h6⟩:=hy;refine⟨h1,h2,h3,?_,fun x hx=>?_⟩
 ·have:=kw_ ⟨file,ps⟩ y.its
  simp only;omega
 ·rcases kx_ hx with rfl | hx
  ·exact⟨hf,hps⟩
  ·exact h6 x hx
theorem eX_ {R:Int⊕List It}(hp:poolB p=true)(hd:DimP p)(hy:p.vs[i]?=some y)(hR:∀ its,R=.inr its->VG {y with its:=its})(h:setV p i y R=.inr q):CarQ q:=by
 have hb:=ib_ hp hd
 cases R with
 |inl c=>cases h
 |inr its=>
  injection h with h;subst h;exact hb.set (z:={y with its:=its}) hy rfl (hR its rfl) hb.el hb.es
theorem lh_ {name:ByteArray}(hp:poolB p=true)(hd:DimP p)(hn:nameB name=true)(hi:its.length<=6∧∀ x∈its,nameB x.nm=true∧partsOkB x.ps=true)(h:addR p name its=.inr q):CarQ q:=by
 have hb:=ib_ hp hd;obtain⟨v6,_,n1,_,_⟩:=bL_ hp;obtain⟨_,⟨n0,_⟩,_⟩:=aQ_ hp;unfold addR at h;split at h
 ·cases h
 ·rename_i hno;injection h with h;subst h;refine⟨by simp;omega,fun v hv=>?_,?_,hb.el,hb.es,hb.rl,hb.rs,hb.ll,hb.ls⟩
  ·rcases Zs.1 hv with hv | hv
   ·exact hb.g v hv
   ·simp only[List.mem_singleton] at hv;subst hv;exact⟨n0,n1,hn,hi.1,hi.2⟩
  ·rw[List.map_append,Yf];refine⟨hb.nd,by simp,fun a ha b hc=>?_⟩;simp only[List.map_cons,List.map_nil,List.mem_singleton] at hc;subst hc;obtain⟨v,hv,rfl⟩:=ZT.1 ha;unfold volI at hno
   have:=List.findIdx?_eq_none_iff.1 hno v hv
   simpa using this
end
end Go.Proofs.YtbbhcnjhohidnaaGreatDoor
