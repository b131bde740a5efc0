/- Ground. -/
import Derived.Test.YtahenegmbmnmjaaGreatDoorU30
import Derived.Test.YtahenegmbmnmjaaGreatDoorU31
import Derived.Test.YtahenegmbmnmjaaGreatDoorU33
import Derived.Test.YtahenegmbmnmjaaGreatDoorU34
set_option maxHeartbeats 20000000
set_option maxRecDepth 100000
namespace Go.Proofs.YtahenegmbmnmjaaGreatDoor
section
open Go Go.RowKit Go.BigFrame Tryz
variable{B n r:Nat}{a:Option Addr}{w w':World}
theorem h5_ {o:Opr}(h:opB o=true):o.k=1∨o.k=2∨o.k=3∨o.k=4∨o.k=5∨o.k=6∨o.k=7∨o.k=8∨o.k=9∨o.k=10:=by
 unfold opB at h
 repeat' split at h
 all_goals first | omega | cases h
theorem k6_ (B0:Nat)(hB0:0<B0)(v:Value)(p:Po)(o:Opr)(w:World)(h:AG B0 w v p)(hd:AC p)(hp:Ai p=true)(hso:BC o):
  Calls prog 53 #[v,.agg #[.int .i64 o.k,.string o.vol,.string o.file,.string o.to,.string o.into,.int .i64 o.at',.int .i64 o.fr,.int .i64 o.ln,.string o.data]] w fun e w'=>(∃ v' c,e=.returned (.tuple #[v',.int .i64 c])∧c=(opS p o).1∧Am w.heap.size w' v' (opS p o).2∧AC (opS p o).2)∧Below w.heap.size w w':=by
 cases hf:opB o with
 |false=>exact gz_ B0 hB0 v p o w h hd hp hso hf
 |true=>
  rcases h5_ hf with hk | hk | hk | hk | hk | hk | hk | hk | hk | hk
  ·by_cases hy:(Az p o).1=0
   ·exact bk_ B0 hB0 v p o w h hd hp hso hf (by omega) hy
   ·exact bu_ B0 hB0 v p o w h hd hp hso hf (by omega) hy
  ·by_cases hy:(Ap p o).1=0
   ·exact bI_ B0 hB0 v p o w h hd hp hso hf (by omega) hy
   ·exact bN_ B0 hB0 v p o w h hd hp hso hf (by omega) hy
  ·by_cases hy:(Ap p o).1=0
   ·exact bI_ B0 hB0 v p o w h hd hp hso hf (by omega) hy
   ·exact bN_ B0 hB0 v p o w h hd hp hso hf (by omega) hy
  ·by_cases hy:(Az p o).1=0
   ·exact bk_ B0 hB0 v p o w h hd hp hso hf (by omega) hy
   ·exact bu_ B0 hB0 v p o w h hd hp hso hf (by omega) hy
  ·by_cases hy:(Ap p o).1=0
   ·exact bI_ B0 hB0 v p o w h hd hp hso hf (by omega) hy
   ·exact bN_ B0 hB0 v p o w h hd hp hso hf (by omega) hy
  ·by_cases hy:(Az p o).1=0
   ·exact bk_ B0 hB0 v p o w h hd hp hso hf (by omega) hy
   ·exact bu_ B0 hB0 v p o w h hd hp hso hf (by omega) hy
  ·by_cases hy:(Az p o).1=0
   ·exact bk_ B0 hB0 v p o w h hd hp hso hf (by omega) hy
   ·exact bu_ B0 hB0 v p o w h hd hp hso hf (by omega) hy
  ·by_cases hy:(Az p o).1=0
   ·exact bk_ B0 hB0 v p o w h hd hp hso hf (by omega) hy
   ·exact bu_ B0 hB0 v p o w h hd hp hso hf (by omega) hy
  ·exact f9_ B0 hB0 v p o w h hd hp hso hf hk
  ·by_cases hy:(Ap p o).1=0
   ·exact bI_ B0 hB0 v p o w h hd hp hso hf (by omega) hy
   ·exact bN_ B0 hB0 v p o w h hd hp hso hf (by omega) hy
theorem mi_ (B:Nat)(w:World):Am B w (.agg #[.int .i64 0,.int .i64 0,.slice none 0 0,.slice none 0 0,.slice none 0 0,.slice none 0 0]) ⟨0,0,[],[],[],[]⟩:=⟨_,_,_,_,_,_,_,_,_,_,_,_,[],rfl,aB_,⟨aB_,Ay.nil _ _⟩,aB_,aB_,fun x y h=>by cases h⟩
theorem k7_:AC ⟨0,0,[],[],[],[]⟩:=⟨Zg _,(fun e he=>by cases he),Zg _,(fun e he=>by cases he),Zg _,(fun e he=>by cases he),Zg _,(fun e he=>by cases he)⟩
theorem nK_ (B0:Nat)(hB0:0<B0)(v:Value)(p:Po)(o:Opr)(w:World)(h:AG B0 w v p)(hd:AC p)(hso:BC o):
  Calls prog 16 #[v,.agg #[.int .i64 o.k,.string o.vol,.string o.file,.string o.to,.string o.into,.int .i64 o.at',.int .i64 o.fr,.int .i64 o.ln,.string o.data]] w fun e w'=>(∃ v' c,e=.returned (.tuple #[v',.int .i64 c])∧c=(Br p o).1∧Am w.heap.size w' v' (Br p o).2∧AC (Br p o).2)∧Below w.heap.size w w':=by
 have hl:=h;obtain⟨ea,en,ec,va,vn,vc,ra,rn,rc,la,ln,lc,rfl,⟨h1,k1⟩,⟨h2,k2⟩,⟨h3,k3⟩,h4,k4⟩:=h;have hS:Hid (Br p o=if Ai p=true then opS p o else (1,⟨0,0,[],[],[],[]⟩)):=by show _=_;simp[Br]
 generalize Br p o=R at *;go_enter func16,ntmps16
 go_wp2_with fail
 refine (ep_ B0 hB0 _ p _ (hl.below (by go_grown)) hd).mono ?_;rintro e w1 ⟨rfl,hk⟩;obtain⟨C,O,D,ha,hn⟩:=bx3 hk;clear hk
 cases hh:Ai p
 ·rw[hh,if_neg (by simp)] at hS;obtain⟨x0,x1,x2,x3,x4,x5⟩:=D.six';obtain⟨f0,f1,f2,f3,f4,f5⟩:=fz6 D;go_wp2;obtain⟨W8,he,W0,hf⟩:=AV D (.int .i64 0) (.int .i64 0) (.slice none 0 0) (.slice none 0 0) (.slice none 0 0) (.slice none 0 0);have B8:=ha.grown hf ha.size (fun j e=>by cases e;omega);rw[<-he];clear he;refine YW (ad_ rfl _ W8 (w.heap.size+2) _ _ _ _ _ rfl W0 underlying35 rfl (by kernel_rfl) rfl) rfl ?_;exact⟨⟨_,1,rfl,by rw[hS.out],by rw[hS.out];exact mi_ _ _,by rw[hS.out];exact k7_⟩,B8⟩
 ·rw[hh,if_pos rfl] at hS;obtain⟨c0,c1,c2,c3,c4,c5⟩:=C.six';have o0:=O.cell 0;have o1:=O.cell 1;have o2:=O.cell 2;have o3:=O.cell 3;have o4:=O.cell 4;have o5:=O.cell 5;have o6:=O.cell 6;have o7:=O.cell 7;have o8:=O.cell 8;simp only[lgA,lgB,lgC] at o0 o1 o2 o3 o4 o5 o6 o7 o8
  go_wp2_with fail
  refine (k6_ B0 hB0 _ p o _ (hl.below ha) hd hh hso).mono ?_;rintro e wk ⟨⟨v',c,rfl,hc,PT,hm⟩,hg⟩;have hj:=PT;obtain⟨ea',en',ec',va',vn',vc',ra',rn',rc',la',ln',lc',rows',rfl,_⟩:=PT;have Dk:=D.below hg;have hb:=Aa ha hg;have ho:=hg.size;replace hc:Hid (c=(opS p o).1):=hc;obtain⟨q,hq⟩:∃ q,(opS p o).2=q:=⟨_,rfl⟩;rw[hq] at hj hm ⊢;obtain⟨x0,x1,x2,x3,x4,x5⟩:=Dk.six';obtain⟨f0,f1,f2,f3,f4,f5⟩:=fz6 Dk;go_wp2;obtain⟨W8,he,W0,hf⟩:=AV Dk (.int .i64 q.size) (.int .i64 q.next) (.slice ea' en' ec') (.slice va' vn' vc') (.slice ra' rn' rc') (.slice la' ln' lc');have PF:=(hj.tyP hf (aa_ Dk)).mono (show w.heap.size<=w1.heap.size by omega);have B8:=hb.grown hf hb.size (fun j e=>by cases e;omega);rw[<-he];clear he;refine YW (ad_ rfl _ W8 (w.heap.size+2) _ _ _ _ _ rfl W0 underlying35 rfl (by kernel_rfl) rfl) rfl ?_;exact⟨⟨_,c,rfl,by rw[hS.out];exact hc.out,by rw[hS.out,hq];exact PF,by rw[hS.out,hq];exact hm⟩,B8⟩
def BX (w:World)(a:Option Addr)(n:Nat):Prop:=∀ i,i<n->∃ b o,∃ v:Int,a=some ⟨b,o,none⟩∧0<=v∧v<=255∧w.cell? ⟨b,o+i,none⟩=some (.int .u8 v)
def Rd (w:World)(B:Nat):Prop:=∃ a n cap p,∃ t:TypeId,Blk w B #[.slice a n cap,.int .i64 ((p:Nat):Int)] t∧p<=n∧n<=1048576∧BX w a n∧∀ ad,0<n->a=some ad->ad.block<B
theorem BX.below (h:BX w a n)(hb:Below w.heap.size w w'):BX w' a n:=fun i hi=>by
 obtain⟨b,o,v,ha,h0,h1,hc⟩:=h i hi;exact⟨b,o,v,ha,h0,h1,Ab hb hc⟩
theorem BX.grown (h:BX w a n)(hg:w.grownBy w' (some r))(hr:∀ ad,0<n->a=some ad->ad.block≠r):BX w' a n:=fun i hi=>by
 obtain⟨b,o,v,ha,h0,h1,hc⟩:=h i hi;exact⟨b,o,v,ha,h0,h1,hg.cell hc (by have:=hr _ (by omega) ha;simpa using this)⟩
theorem Rd.below (h:Rd w B)(hb:Below w.heap.size w w'):Rd w' B:=by
 obtain⟨a,n,cap,p,t,h1,h2,h3,h4,h5⟩:=h;exact⟨a,n,cap,p,t,h1.below hb,h2,h3,h4.below hb,h5⟩
theorem Rd.grown (h:Rd w B)(hg:w.grownBy w' (some r))(hr:B<r):Rd w' B:=by
 obtain⟨a,n,cap,p,t,h1,h2,h3,h4,h5⟩:=h;exact⟨a,n,cap,p,t,h1.grown hg (by omega),h2,h3,h4.grown hg (fun ad h0 ha=>by have:=h5 ad h0 ha;omega),h5⟩
theorem Rd.lt (h:Rd w B):B<w.heap.size:=by
 obtain⟨a,n,cap,p,t,h1,_⟩:=h;exact h1.lt
end
section
open Go Go.RowKit
variable{t u:Int}{l:List Pt}
theorem fl_ {e:List Ex}{s:ByteArray}(h:Ak l e=some s):Ac l=true∧Ao 400 e=true:=by
 unfold Ak at h;split at h
 ·assumption
 ·cases h
theorem g8_ (h:t<=u):∀ (l:List Pt) (st:Int),slp u t st l=[]
 |[],_=>rfl
 |p::r,st=>by rw[fo_ (by omega)];exact g8_ h r _
theorem mZ_ (h:u<=t):∀ (l:List Pt) (st:Int),(∀ p∈l,Ag p=true)->Af (slp u t st l)=max st (min t (st+Af l))-max st (min u (st+Af l))
 |[],st,_=>by simp only[slp,Af];omega
 |p::r,st,hp=>by
  have hn:=av_ (hp p (by simp));have hr:∀ q∈r,Ag q=true:=fun q hq=>hp q (by simp[hq]);have ha:=az_ r hr;have ih:=mZ_ h r (st+p.n) hr;by_cases hx:max (u-st) 0<min (t-st) p.n
  ·rw[eN_ rfl rfl hx];simp only[Af,gf_,ih];omega
  ·rw[fo_ hx];simp only[Af,ih];omega
theorem pR_ {p:Pt}(h:Ag p=true):Be p 0 p.n=p:=by
 obtain⟨a,f,n⟩:=p;by_cases ha:a=0
 ·simp[Ag,ha] at h;simp[Be,ha,h.1]
 ·simp[Be,ha]
theorem g9_:∀ (l:List Pt) (st:Int),u<=st->st+Af l<=t->(∀ p∈l,Ag p=true)->slp u t st l=l
 |[],_,_,_,_=>rfl
 |p::r,st,hu,ht,hp=>by
  have ha:=hp p (by simp);have hn:=av_ ha;have hr:∀ q∈r,Ag q=true:=fun q hq=>hp q (by simp[hq]);have hb:=az_ r hr;simp only[Af] at ht;rw[eN_ (x:=0) (y:=p.n) (by omega) (by omega) (by omega),pR_ ha,g9_ r _ (by omega) (by omega) hr]
theorem eJ_ (h:Ac l=true)(u t:Int):Ac (slp u t 0 l)=true:=by
 have h1:=b8_ h u t;have h2:=(hT_ u t l 0 (fun p hp=>av_ ((ae_ h).2.1 p hp))).2.2.1;have h3:=(ae_ h).1;simp only[Ac,Zf,ZU];exact⟨by omega,h1⟩
theorem ET (h:Ac l=true)(h0:0<=u)(h1:u<=t)(h2:t<=Af l):AZ l u t=some (slp u t 0 l):=by
 have:=oC_ l u t
 unfold AZ;rw[this,if_pos ⟨h,h0,by omega,h1,h2⟩,fD_ (b8_ h u t)]
theorem nL_ {m o:List Pt}(h:BQ l t m=some o):Ac l=true∧0<=t∧t<=100∧Ac m=true∧Ac o=true∧o=Al [] (Bq l t m):=by
 rw[mT_] at h;unfold F7 at h;split at h
 ·rename_i hh;obtain rfl:=Zi h;exact⟨hh.1.1,hh.1.2.1,hh.1.2.2.1,hh.1.2.2.2,hh.2,du_ hh.1.1⟩
 ·cases h
end
section
open Go Go.RowKit Go.BigFrame
variable{α:Type}{file s vol:ByteArray}{at' size:Int}{x:It}{e e':List Ex}{l m:List Pt}{vs:List Vo}{i:Nat}{o:Opr}{p q:Po}{v:Vo}
def Cf (p:Po):Int⊕Po->Int×Po
 |.inl c=>(c,p)
 |.inr q=>if Ai (A7 p q)=true then (0,A7 p q) else (5,p)
def Co (p:Po)(r:Int×Po):Int×Po:=if r.1=0 then (if Ai (A7 p r.2)=true then (0,A7 p r.2) else (5,p)) else (r.1,p)
theorem bt_ {c:Int}(h:c≠0):Co p (c,q)=(c,p):=by unfold Co;rw[if_neg h]
theorem dw_:Co p (0,q)=Cf p (.inr q):=by unfold Co Cf;rw[if_pos rfl]
theorem mj_ (hl:Ac l=true)(hm:Ac m=true)(h0:0<=at')(h1:at'<=100):BQ l at' m=if Ac (AI l at' m)=true then some (AI l at' m) else none:=by
 rw[mT_];unfold F7;by_cases h:Ac (AI l at' m)=true
 ·rw[if_pos ⟨⟨hl,h0,h1,hm⟩,h⟩,if_pos h]
 ·rw[if_neg (fun hc=>h hc.2),if_neg h]
theorem dY_ (h1:volI vs vol=some i)(h2:vs[i]?=some v):Ar vs vol file=AP v file:=by
 unfold Ar AP;rw[h1];simp only[YO,h2]
theorem mk_:Ar vs vol file=((volI vs vol).bind (fun j=>vs[j]?)).bind (fun v=>AP v file):=by
 unfold Ar AP
 cases volI vs vol with
 |none=>rfl
 |some i=>cases vs[i]?<;>rfl
theorem k8_ (x:It):∀ (l:List It) (st:List It×Bool),(st.2=true->x∈st.1)->((l.foldl (Bi x) st).2=true->x∈(l.foldl (Bi x) st).1)
 |[],_,h=>h
 |y::r,st,h=>by
  rw[YE];refine k8_ x r _ (fun hd=>?_);simp only[Bi] at hd ⊢;rw[Zs];obtain⟨a,d⟩:=st
  cases d
  ·simp only[Bool.false_or] at hd;simp[hd]
  ·left;simpa using h rfl
theorem oR_ (x:It)(l:List It):x∈Ba x l:=by
 unfold Ba DW;split
 ·rename_i h;exact k8_ x l ([],false) (fun h=>by cases h) h
 ·simp
theorem nM_ (hv:v∈q.vs)(hx:x∈v.its)(hb:¬ Ac x.ps=true):Ai q=false:=by
 cases h:Ai q with
 |false=>rfl
 |true=>
  exfalso;obtain⟨_,h2,_⟩:=bL_ h;have h3:=(b0_ h2 v hv).1;simp only[itemsB,Zf,ZU] at h3;have h4:=db_ h3.2 x hx;obtain⟨s,hs⟩:=Option.isSome_iff_exists.1 h4;exact hb (fl_ hs).1
theorem k9_ {E:List Ex}(hv:p.vs[i]?=some v)(file:ByteArray)(hl:Ac l=true)(hm:Ac m=true)(h0:0<=at')(h1:at'<=100):
  Cf p (Dv p i v (match Bw v file l at' m with | .inl c=>.inl c | .inr its=>.inr (E,its)))=Co p (0,{p with ex:=E,vs:=p.vs.set i {v with its:=Ba ⟨file,AI l at' m⟩ v.its}}):=by
 unfold Bw;rw[mj_ hl hm h0 h1,dw_];by_cases h:Ac (AI l at' m)=true
 ·rw[if_pos h];rfl
 ·rw[if_neg h];have hi:=(Zb.1 hv).1;have hb:Ai (A7 p {p with ex:=E,vs:=p.vs.set i {v with its:=Ba ⟨file,AI l at' m⟩ v.its}})=false:=nM_ (v:={v with its:=Ba ⟨file,AI l at' m⟩ v.its}) (x:=⟨file,AI l at' m⟩) (List.mem_set hi _) (oR_ _ _) h;simp only[Cf,Dv,hb,Zj,if_false]
theorem qd_ (p:Po)(i:Nat)(v:Vo)(R:Int⊕List It):B7 p i v R=Dv p i v (match R with | .inl c=>.inl c | .inr its=>.inr (p.ex,its)):=by
 cases R<;>rfl
theorem gA_ (hv:p.vs[i]?=some v)(file:ByteArray)(hl:Ac l=true)(hm:Ac m=true)(h0:0<=at')(h1:at'<=100):
  Cf p (B7 p i v (Bw v file l at' m))=Co p (0,{p with vs:=p.vs.set i {v with its:=Ba ⟨file,AI l at' m⟩ v.its}}):=by
 rw[qd_];exact k9_ hv file hl hm h0 h1
theorem oS_ {s:Int}(hl:Ac l=true)(h0:0<=s):AI (slp 0 (min s (Af l)) 0 l) s []=if s > Af l then AI l (Af l) [⟨0,0,s-Af l⟩] else Al [] (slp 0 s 0 l):=by
 have hb:=(ae_ hl).2.1;have hr:=eJ_ hl 0 (min s (Af l));have hn:=az_ l hb;by_cases h:s > Af l
 ·have e:slp 0 (min s (Af l)) 0 l=l:=g9_ l 0 (by omega) (by omega) hb;rw[if_pos h,e,du_ hl,du_ hl];congr 1;unfold Bq;rw[e,if_pos h,if_neg (by omega),g8_ (by simp only[Af];omega),g9_ l 0 (by omega) (by omega) hb,g8_ (by simp only[Af];omega)];simp
 ·have hs:min s (Af l)=s:=by omega
  rw[if_neg h,hs];rw[hs] at hr;have ha:Af (slp 0 s 0 l)=s:=by rw[mZ_ (by omega) l 0 hb];omega
  rw[du_ hr];congr 1;have e5:slp (min (s+Af []) s) s 0 (slp 0 s 0 l)=[]:=g8_ (by simp only[Af];omega) _ _;have e6:slp 0 (min s s) 0 (slp 0 s 0 l)=slp 0 s 0 l:=g9_ _ 0 (by omega) (by rw[ha];omega) (ae_ hr).2.1;unfold Bq;rw[ha,if_neg (by omega),e5,e6];simp
theorem h6_ (f:α->List UInt8)(s:List UInt8):∀ {l:List α} {k:Nat},(l.map f).Nodup->l.findIdx? (fun x=>f x==s)=some k->l.filter (fun x=>!(f x==s))=l.take k++l.drop (k+1)
 |[],_,_,h=>by cases h
 |x::r,k,hn,h=>by
  rw[YD,List.nodup_cons] at hn;rw[List.findIdx?_cons] at h;by_cases hx:(f x==s)=true
  ·rw[if_pos hx] at h;obtain rfl:=Zi h
   have hr:r.filter (fun x=>!(f x==s))=r:=by
    rw[YA];intro y hy
    have:f x=s:=by simpa using hx
    have ha:f y≠s:=fun e=>hn.1 (by rw[this,<-e];exact List.mem_map_of_mem hy);simpa using ha
   rw[ZH,hx];simpa using hr
  ·rw[if_neg hx] at h
   cases hk:r.findIdx? (fun x=>f x==s) with
   |none=>rw[hk] at h;cases h
   |some j=>
    rw[hk] at h;obtain rfl:=Zi h;have hb:(f x==s)=false:=by simpa using hx
    rw[ZH,hb];simpa using h6_ f s hn.2 hk
theorem nN_ {l:List It}(h:E6 l):(l.map (·.nm.toList)).Nodup:=by
 rw[List.nodup_iff_pairwise_ne,List.pairwise_map];exact h.imp (fun {a b} ha e=>by rw[e,cn_] at ha;cases ha)
theorem i1_ (h:volI vs s=some i):∃ v,vs[i]?=some v:=by
 unfold volI at h
 have:=(ZA.1 h).1
 exact⟨vs[i],by simp[this]⟩
theorem oT_ {l:List It}(h:itI l s=some i):∃ v,l[i]?=some v:=by
 unfold itI at h
 have:=(ZA.1 h).1
 exact⟨l[i],by simp[this]⟩
theorem ha_ {F:Nat->Vo->Int⊕Po}{nm fl:ByteArray}(e1:(if o.k=5 then o.to else o.vol)=nm)(e2:(if o.k=5 then o.into else o.file)=fl)(hF:∀ (i:Nat) (v:Vo),volI p.vs nm=some i->p.vs[i]?=some v->Cf p (F i v)=Co p (if (Aj p o).1=0 then (0,{p with ex:=(Aj p o).2.1,vs:=p.vs.set i {v with its:=Ba ⟨fl,(Aj p o).2.2⟩ v.its}}) else ((Aj p o).1,p))):Cf p (AH p nm true F)=Co p (Ap p o):=by
 unfold AH Ap;simp only[e1,e2]
 cases h1:volI p.vs nm with
 |none=>exact (bt_ (by decide)).symm
 |some i=>
  simp only
  cases h2:p.vs[i]? with
  |none=>exact (bt_ (by decide)).symm
  |some v=>
   simp only[Zp];by_cases h3:v.fx=true
   ·rw[if_pos h3,if_pos h3];exact (bt_ (by decide)).symm
   ·rw[if_neg h3,if_neg h3];exact hF i v h1 h2
theorem nO_ (hk:o.k=10):Aj p o=(match Ar p.vs o.vol o.file with | none=>(3,p.ex,[]) | some q=>(0,p.ex,AI q o.at' [⟨0,0,o.ln⟩])):=by
 unfold Aj;simp[hk];rfl
theorem oU_ (hk:o.k=3):Aj p o=(match Ar p.vs o.vol o.file with | none=>(3,p.ex,[]) | some q=>if o.ln > Af q then (0,p.ex,AI q (Af q) [⟨0,0,o.ln-Af q⟩]) else (0,p.ex,Al [] (slp 0 o.ln 0 q))):=by
 unfold Aj;simp[hk];rfl
theorem oV_ (hk:o.k=2):Aj p o=(match AW p.size p.ex o.data with | none=>(5,p.ex,[]) | some (l,a)=>(0,l,AI ((Ar p.vs o.vol o.file).getD []) o.at' [⟨a,0,o.data.size⟩])):=by
 unfold Aj;simp[hk];rfl
theorem oW_ (hk:o.k=5):Aj p o=(match Ar p.vs o.vol o.file with | none=>(3,p.ex,[]) | some src=>if o.fr+o.ln > Af src then (3,p.ex,[]) else (0,p.ex,AI ((Ar p.vs o.to o.into).getD []) o.at' (Al [] (slp o.fr (o.fr+o.ln) 0 src)))):=by
 unfold Aj;simp[hk];rfl
theorem la_ (hp:Ai p=true)(hk:o.k=10)(h0:0<=o.at')(h1:o.at'<=100)(l0:1<=o.ln)(l1:o.ln<=100):Cf p (AH p o.vol true (fun i y=>B7 p i y (Ci y o.file o.at' o.ln)))=Co p (Ap p o):=by
 refine ha_ (if_neg (by omega)) (if_neg (by omega)) (fun i v hi hv=>?_);have ha:=dY_ (file:=o.file) hi hv;rw[nO_ hk,ha];unfold Ci
 cases hf:AP v o.file with
 |none=>exact (bt_ (by decide)).symm
 |some q=>
  have hq:=(bb_ hp (ha.trans hf)).1;have hm:Ac [⟨0,0,o.ln⟩]=true:=by simp[Ac,pgo,Ag];omega
  exact gA_ hv o.file hq hm h0 h1
theorem nP_ (hp:Ai p=true)(hk:o.k=3)(l0:0<=o.ln)(l1:o.ln<=100):Cf p (AH p o.vol true (fun i y=>B7 p i y (Ef y o.file o.ln)))=Co p (Ap p o):=by
 refine ha_ (if_neg (by omega)) (if_neg (by omega)) (fun i v hi hv=>?_);have ha:=dY_ (file:=o.file) hi hv;rw[oU_ hk,ha];unfold Ef
 cases hf:AP v o.file with
 |none=>exact (bt_ (by decide)).symm
 |some q=>
  have hq:=(bb_ hp (ha.trans hf)).1;have hn:=az_ q (ae_ hq).2.1;have hl:Ch q=Af q:=by unfold Ch;rw[if_pos hq]
  simp only;rw[hl,ET hq (YB 0) (by omega) (by omega),Yw,gA_ hv o.file (eJ_ hq _ _) rfl l0 l1,oS_ hq l0];by_cases h:o.ln > Af q
  ·simp only[if_pos h,if_true]
  ·simp only[if_neg h,if_true]
theorem lb_ (hp:Ai p=true)(hk:o.k=2)(h0:0<=o.at')(h1:o.at'<=100)(hd:As o.data=true):Cf p (AH p o.vol true (fun i y=>Dv p i y (Cj p.size p.ex y o.file o.at' o.data)))=Co p (Ap p o):=by
 refine ha_ (if_neg (by omega)) (if_neg (by omega)) (fun i v hi hv=>?_);have hb:=dY_ (file:=o.file) hi hv;rw[oV_ hk,hb];unfold Cj
 cases hc:AW p.size p.ex o.data with
 |none=>exact (bt_ (by decide)).symm
 |some r=>
  obtain⟨L,a⟩:=r;have hq:Ac ((AP v o.file).getD [])=true:=by rw[<-hb];exact bH_ hp
  have ha:=gw_ hc;have he:=bl_ hd;have hf:=l6_ hd
  have hm:Ac [⟨a,0,o.data.size⟩]=true:=by
   have h0:(a==0)=false:=ZV.2 (by omega);simp[Ac,pgo,Ag,h0];omega
  exact k9_ hv o.file hq hm h0 h1
theorem ml_ (hp:Ai p=true)(hk:o.k=5)(h0:0<=o.at')(h1:o.at'<=100)(f0:0<=o.fr)(l0:1<=o.ln):Cf p (AH p o.to true (fun i y=>B7 p i y (CF p.vs y o.into o.at' o.vol o.file o.fr (o.fr+o.ln))))=Co p (Ap p o):=by
 refine ha_ (if_pos hk) (if_pos hk) (fun i v hi hv=>?_);have ha:=dY_ (file:=o.into) hi hv;have hq:Ac ((AP v o.into).getD [])=true:=by rw[<-ha];exact bH_ hp
 rw[oW_ hk,ha];unfold CF;have hb:=mk_ (vs:=p.vs) (vol:=o.vol) (file:=o.file)
 cases hu:(volI p.vs o.vol).bind (fun j=>p.vs[j]?) with
 |none=>
  rw[hu] at hb;rw[hb];exact (bt_ (by decide)).symm
 |some u=>
  rw[hu,YO] at hb;rw[hb];simp only
  cases hf:AP u o.file with
  |none=>exact (bt_ (by decide)).symm
  |some q=>
   have hr:=(bb_ hp (hb.trans hf)).1;simp only;by_cases h:o.fr+o.ln > Af q
   ·have hs:AZ q o.fr (o.fr+o.ln)=none:=by unfold AZ;rw[if_neg (fun hc=>by omega)]
    rw[hs,if_pos h];exact (bt_ (by decide)).symm
   ·rw[ET hr f0 (by omega) (by omega),if_neg h];simp only[if_true];rw[fD_ (b8_ hr _ _)];exact gA_ hv o.into hq (eJ_ hr _ _) h0 h1
theorem mm_ (hk:o.k=1):Cf p (Do p o.vol [])=Co p (Az p o):=by
 unfold Do Az
 cases h1:volI p.vs o.vol with
 |none=>simp only[hk,if_true];exact dw_.symm
 |some i=>
  obtain⟨v,hv⟩:=i1_ h1;simp only[hv,hk,if_true];exact (bt_ (by decide)).symm
theorem jF_ {b:Bool}{F:Nat->Vo->Int⊕Po}(hk:¬ o.k=1)(hF:∀ (i:Nat) (v:Vo),volI p.vs o.vol=some i->p.vs[i]?=some v->Cf p (if (b&&v.fx)=true then .inl 6 else F i v)=Co p (Az p o)):Cf p (AH p o.vol b F)=Co p (Az p o):=by
 unfold AH
 cases h1:volI p.vs o.vol with
 |none=>
  unfold Az;rw[h1];simp only[if_neg hk];exact (bt_ (by decide)).symm
 |some i=>
  obtain⟨v,hv⟩:=i1_ h1;simp only[hv];exact hF i v h1 hv
theorem hb_ (h1:volI p.vs o.vol=some i)(h2:p.vs[i]?=some v):Az p o=(if o.k=1 then ((4:Int),p)
      else if o.k=6 then (match volI p.vs o.to with | some _=>(4,p) | none=>(0,{p with vs:=p.vs++[⟨p.next,o.to,false,v.its⟩],next:=p.next+1}))
      else if o.k=7 then (0,{p with vs:=p.vs.take i++p.vs.drop (i+1)})
      else if o.k=8 then (if v.fx=true then (6,p) else (0,{p with vs:=p.vs.set i {v with fx:=true}}))
      else if o.k=4 then (if v.fx=true then (6,p) else match itI v.its o.file with | none=>(3,p) | some k=>(0,{p with vs:=p.vs.set i {v with its:=v.its.take k++v.its.drop (k+1)}}))
      else (0,p)):=by
 unfold Az;rw[h1];simp only[h2];rfl
theorem mn_ (hk:o.k=6):Cf p (AH p o.vol false (fun _ y=>Do p o.to y.its))=Co p (Az p o):=by
 refine jF_ (by omega) (fun i v h1 h2=>?_);rw[hb_ h1 h2];simp only[hk,Zr,Zj,if_false,if_true,show ¬ (6:Int)=1 by decide];unfold Do
 cases volI p.vs o.to with
 |some _=>exact (bt_ (by decide)).symm
 |none=>exact dw_.symm
theorem mo_ (hp:Ai p=true)(hk:o.k=7):Cf p (AH p o.vol false (fun _ _=>.inr {p with vs:=p.vs.filter (fun v=>!(v.nm.toList==o.vol.toList))}))=Co p (Az p o):=by
 refine jF_ (by omega) (fun i v h1 h2=>?_);rw[hb_ h1 h2];simp only[hk,Zr,Zj,if_false,if_true,show ¬ (7:Int)=1 by decide,show ¬ (7:Int)=6 by decide];rw[dw_,h6_ (fun v:Vo=>v.nm.toList) o.vol.toList (bL_ hp).2.2.2.2 h1]
theorem nQ_ (hk:o.k=8):Cf p (AH p o.vol false (fun i y=>(if y.fx=true then .inl 6 else .inr {p with vs:=p.vs.set i {y with fx:=true}}:Int⊕Po)))=Co p (Az p o):=by
 refine jF_ (by omega) (fun i v h1 h2=>?_);rw[hb_ h1 h2];simp only[hk,Zr,Zj,if_false,if_true,show ¬ (8:Int)=1 by decide,show ¬ (8:Int)=6 by decide,show ¬ (8:Int)=7 by decide]
 cases v.fx
 ·exact dw_.symm
 ·exact (bt_ (by decide)).symm
theorem jG_ (hp:Ai p=true)(hk:o.k=4):Cf p (AH p o.vol true (fun i y=>B7 p i y (BO y o.file)))=Co p (Az p o):=by
 refine jF_ (by omega) (fun i v h1 h2=>?_);rw[hb_ h1 h2];simp only[hk,Zp,if_false,if_true,show ¬ (4:Int)=1 by decide,show ¬ (4:Int)=6 by decide,show ¬ (4:Int)=7 by decide,show ¬ (4:Int)=8 by decide];by_cases hfx:v.fx=true
 ·rw[if_pos hfx,if_pos hfx];exact (bt_ (by decide)).symm
 ·rw[if_neg hfx,if_neg hfx];have ha:=(iX_ (b0_ (bL_ hp).2.1 v (Zc h2)).1).1;unfold BO AP
  cases hi:itI v.its o.file with
  |none=>exact (bt_ (by decide)).symm
  |some k=>
   obtain⟨x,hx⟩:=oT_ hi;simp only[YO,hx,Option.map_some,B7];rw[dw_,h6_ (fun v:It=>v.nm.toList) o.file.toList (nN_ ha) hi]
theorem nR_ (hp:Ai p=true)(ho:opB o=true)(hk:¬ o.k=9):Cf p (Dy p o.k o.vol o.file o.to o.into o.at' o.fr o.ln o.data)=Co p (BT p o):=by
 have ha:=h5_ ho;unfold opB inB at ho;unfold Dy BT;rcases ha with h | h | h | h | h | h | h | h | h | h
 ·simp only[h,show ¬ ((1:Int)=2∨(1:Int)=3∨(1:Int)=5∨(1:Int)=10) by decide,if_true,if_false];exact mm_ h
 ·simp[h] at ho ⊢;exact lb_ hp h ho.1.1.2.1 ho.1.1.2.2 ho.1.2
 ·simp[h] at ho ⊢;exact nP_ hp h ho.1.2.1 ho.1.2.2
 ·simp[h];exact jG_ hp h
 ·simp[h] at ho ⊢;exact ml_ hp h ho.1.1.1.2.1 ho.1.1.1.2.2 ho.1.1.2.1 ho.1.2.1
 ·simp[h];exact mn_ h
 ·simp[h];exact mo_ hp h
 ·simp[h];exact nQ_ h
 ·exact absurd h hk
 ·simp[h] at ho ⊢;exact la_ hp h ho.1.1.2.1 ho.1.1.2.2 ho.1.2.1 ho.1.2.2
theorem oX_ {p q:Ct}(h:FS p q=true):p=q:=by
 unfold FS at h;simp only[Zf,beq_iff_eq] at h;obtain⟨o,n⟩:=p;obtain⟨o',n'⟩:=q;simp only at h;rw[aM_.1 h.1,h.2]
theorem i2_:∀ {l m:List Ct},Bo l m=true->l=m
 |[],[],_=>rfl
 |[],_::_,h=>by simp[Bo] at h
 |_::_,[],h=>by simp[Bo] at h
 |x::r,y::s,h=>by
  simp only[Bo,Zf] at h;rw[oX_ h.1,i2_ h.2]
theorem nS_ (h:Ai p=true):AR p.rf p.lt=AB p.vs:=by
 have h1:=(dv_ h).1;simp only[Ai,Zf] at h;have h2:=h.1.2;rw[h1] at h2;exact i2_ h2
theorem pS_:∀ {l:List Ex} {n m:Int},m<=n->xgo size n l=true->xgo size m l=true
 |[],_,_,_,_=>rfl
 |e::r,n,m,h,hx=>by
  simp only[xgo,Zf,ZU] at hx ⊢;exact⟨⟨⟨hx.1.1.1,by omega⟩,hx.1.2⟩,hx.2⟩
theorem h7_ (f:Ex->Bool):∀ {l:List Ex} {n:Int},xgo size n l=true->xgo size n (l.filter f)=true
 |[],_,_=>rfl
 |e::r,n,hx=>by
  simp only[xgo,Zf,ZU] at hx;have ih:=h7_ f hx.2;rw[ZH];split
  ·simp only[xgo,Zf,ZU];exact⟨hx.1,ih⟩
  ·exact pS_ (by have:=hx.1.1.2;omega) ih
theorem ga_ (f:Ex->Bool){l:List Ex}(h:Ao size l=true):Ao size (l.filter f)=true:=by
 simp only[Ao,Zf,ZU] at h ⊢
 have:=Yc f l
 exact⟨⟨h.1.1,by omega⟩,h7_ f h.2⟩
theorem fm_ {f:Ex->Bool}{a:Int}:∀ {l:List Ex},(∀ x∈l,x.a=a->f x=true)->AM a (l.filter f)=AM a l
 |[],_=>rfl
 |e::r,h=>by
  have ih:=fm_ (f:=f) (a:=a) (l:=r) (fun x hx=>h x (by simp[hx]));rw[ZH];by_cases hf:f e=true
  ·rw[if_pos hf];simp only[AM,ih]
  ·rw[if_neg hf,ih];have ha:(e.a==a)=false:=ZV.2 (fun he=>hf (h e (by simp) he));simp only[AM,ha,Zj,if_false]
theorem h8_ {f:Ex->Bool}:∀ (l:List Pt) (acc:ByteArray),(∀ q∈l,q.a≠0->∀ x∈e,x.a=q.a->f x=true)->cgo (e.filter f) acc l=cgo e acc l
 |[],_,_=>rfl
 |q::r,acc,h=>by
  have hq:pieceO (e.filter f) q=pieceO e q:=by
   unfold pieceO;by_cases h0:q.a=0
   ·simp[h0]
   ·rw[fm_ (h q (by simp) h0)]
  unfold cgo;rw[hq]
  cases pieceO e q with
  |none=>rfl
  |some d=>exact h8_ r _ (fun z hz=>h z (by simp[hz]))
theorem h9_ {f:Ex->Bool}{ps:List Pt}(hs:Ao 400 e=true)(h:∀ q∈ps,q.a≠0->∀ x∈e,x.a=q.a->f x=true):Ak ps (e.filter f)=Ak ps e:=by
 unfold Ak;rw[h8_ ps _ h];simp only[hs,ga_ f hs,and_true]
theorem lc_:∀ {l:List It} {q:Option It},(∀ x∈l,Ak x.ps e'=Ak x.ps e)->igo e' q l=igo e q l
 |[],_,_=>rfl
 |x::r,q,h=>by
  simp only[igo];rw[h x (by simp),lc_ (fun y hy=>h y (by simp[hy]))]
theorem ld_ {next:Int}:∀ {l:List Vo} {last:Int},(∀ v∈l,∀ x∈v.its,Ak x.ps e'=Ak x.ps e)->vgo next e' last l=vgo next e last l
 |[],_,_=>rfl
 |v::r,last,h=>by
  simp only[vgo,itemsB];rw[lc_ (h v (by simp)),ld_ (fun y hy=>h y (by simp[hy]))]
theorem m0_:∀ {l:List Ct} {c:Ct},(∀ x∈l,x.n=1)->c∈l->1<=tot c.o l
 |[],_,_,h=>by cases h
 |y::r,c,h1,h=>by
  have h0:=(cy_ (l:=r) (fun x hx=>h1 x (by simp[hx])) c.o).1;have hy:=h1 y (by simp);simp only[tot];rcases Zn.1 h with rfl | h
  ·rw[a3_,if_pos rfl];omega
  ·have:=m0_ (fun x hx=>h1 x (by simp[hx])) h
   split<;>omega
theorem bR_ (l:List Vo):Bu (AB l)∧Bj (AB l)∧∀ o,tot o (AB l)=tot o (A8 l):=by
 obtain⟨h1,h2,h3⟩:=eL_ (l:=[]) (more:=A8 l) YT (fun c hc=>by cases hc) (hO_ l);exact⟨h1,h2,fun o=>by rw[AB,h3];simp[tot]⟩
theorem oY_ {l:List Vo}{q:Pt}(hv:v∈l)(hx:x∈v.its)(hq:q∈x.ps)(h0:q.a≠0):∃ c∈AB l,c.o=⟨q.a,v.id,x.nm⟩:=by
 have hm:(⟨⟨q.a,v.id,x.nm⟩,1⟩:Ct)∈A8 l:=ZL.2 ⟨v,hv,ZL.2 ⟨x,hx,ZT.2 ⟨q,YG.2 ⟨hq,by simp[h0]⟩,rfl⟩⟩⟩;have h1:=m0_ (fZ_ l) hm;rw[<-(bR_ l).2.2] at h1;by_cases hc:∃ c∈AB l,c.o=⟨q.a,v.id,x.nm⟩
 ·exact hc
 ·exfalso
  have:=bB_ (o:=⟨q.a,v.id,x.nm⟩) (l:=AB l) (fun c hm e=>hc ⟨c,hm,e⟩)
  simp only at h1;omega
theorem iy_ (hp:Ai p=true)(hv:v∈p.vs)(hx:x∈v.its):Ak x.ps (flushS p).ex=Ak x.ps p.ex:=by
 refine h9_ (iI_ (aQ_ hp).1) (fun q hq h0 e _ he=>?_);obtain⟨c,hc,ho⟩:=oY_ hv hx hq h0;rw[nS_ hp];exact ZN.2 ⟨c,hc,by rw[ho,he];simp⟩
theorem le_ (hp:Ai p=true):Ai (flushS p)=true:=by
 have hr:=c6_ hp;have hf:=(dv_ hp).1;have hb:=ld_ (next:=p.next) (last:=0) (l:=p.vs) (e:=p.ex) (e':=(flushS p).ex) (fun v hv x hx=>iy_ hp hv hx);have he:=hp;simp only[Ai,CQ,Zf,ZU] at hp ⊢;obtain⟨⟨⟨⟨⟨⟨h1,h2⟩,h3⟩,h4⟩,h5⟩,h6⟩,h7⟩:=hp;refine⟨⟨⟨⟨⟨⟨ga_ _ h1,h2⟩,h3⟩,h4.1,?_⟩,h5⟩,?_⟩,?_⟩
 ·exact hb.trans h4.2
 ·have e:Aq (flushS p).rf (flushS p).lt=some (AR p.rf p.lt):=by
   show Aq (AR p.rf p.lt) []=_;unfold Aq;rw[if_pos ⟨hr,rfl⟩];exact if_pos hr
  rw[hf] at h6;rw[e];exact h6
 ·simp only[Ck,Zf,List.all_eq_true] at h7 ⊢;refine⟨fun x hx=>?_,fun c hc=>?_⟩
  ·have:=(YG.1 hx).2
   obtain⟨c,hc,e⟩:=ZN.1 this;exact ZN.2 ⟨c,Yu _ hc,e⟩
  ·have ha:c∈AR p.rf p.lt:=by
    rcases Zs.1 hc with h | h
    ·exact h
    ·cases h
   obtain⟨d,hd,e⟩:∃ d∈p.rf++p.lt,c.o=d.o:=by
    rcases eI_ ha with⟨d,hd,e⟩ | ⟨d,hd,e⟩
    ·exact⟨d,Yu _ hd,e⟩
    ·exact⟨d,Ym _ hd,e⟩
   obtain⟨x,hx,e2⟩:=ZN.1 (h7.2 d hd);refine ZN.2 ⟨x,YG.2 ⟨hx,ZN.2 ⟨c,ha,?_⟩⟩,?_⟩
   ·have:x.a=d.o.a:=by simpa using e2
    rw[e,this];simp
   ·rw[e];exact e2
theorem ia_ (o:Ow):∀ l:List Ct,tot o (Cs l)=- tot o l
 |[]=>rfl
 |c::r=>by
  have ih:=ia_ o r;unfold Cs at ih ⊢;rw[YD];simp only[tot];rw[ih];split<;>omega
theorem oZ_ {l:List Ct}(h:Bj l):Bj (Cs l):=by
 intro c hc;obtain⟨d,hd,rfl⟩:=ZT.1 hc
 have:=h d hd
 simp only;omega
theorem o0_ (l:List Vo):AR (AB l) (Cs (AB l))=[]:=by
 obtain⟨h1,h2,_⟩:=bR_ l;obtain⟨a1,a2,a3⟩:=eL_ h1 h2 (oZ_ h2);exact cS_ a1 YT a2 (fun c hc=>by cases hc) (fun o=>by rw[a3,ia_];simp only[tot];omega)
theorem lf_ (hp:Ai p=true):CG p=flushS p:=by
 unfold CG flushS;rw[(dv_ hp).1];rfl
theorem mp_ (hp:Ai p=true):A7 p (CG p)=flushS p:=by
 rw[lf_ hp];unfold A7;show ({flushS p with lt:=[]++AR (AB p.vs) (Cs (AB p.vs))}:Po)=flushS p;rw[o0_];rfl
theorem i3_ (hk:o.k=9):Dy p o.k o.vol o.file o.to o.into o.at' o.fr o.ln o.data=.inr (CG p):=by
 unfold Dy;simp[hk]
theorem o1_ (hp:Ai p=true)(ho:opB o=true):Cf p (Dy p o.k o.vol o.file o.to o.into o.at' o.fr o.ln o.data)=opS p o:=by
 by_cases hk:o.k=9
 ·rw[i3_ hk];unfold Cf opS;simp only;rw[mp_ hp,le_ hp,if_pos ho,if_pos hk];rfl
 ·rw[nR_ hp ho hk];unfold Co opS;rw[if_pos ho,if_neg hk]
end
section
open Go Go.RowKit Go.BigFrame Tryz
open Go.Maps (Keyed)
theorem fE_ {v:Vo}:∀ {l:List It},(∀ x∈l,x.ps.length<=1000)->(A3 v l).length<=1000*l.length
 |[],_=>by simp[A3]
 |x::r,h=>by
  have ih:=fE_ (v:=v) (l:=r) (fun y hy=>h y (by simp[hy]));have h1:=h x (by simp);have h2:=fw_ v.id x.nm x.ps;unfold A3 at ih ⊢;rw[ZF,ZE,Zw];omega
theorem fF_:∀ {l:List Vo},(∀ v∈l,v.its.length<=6∧∀ x∈v.its,x.ps.length<=1000)->(A8 l).length<=6000*l.length
 |[],_=>by simp[A8]
 |v::r,h=>by
  have ih:=fF_ (l:=r) (fun y hy=>h y (by simp[hy]));obtain⟨h1,h2⟩:=h v (by simp);have h3:=fE_ (v:=v) h2;rw[cx_,ZE,Zw,show Et v=A3 v v.its from rfl];omega
theorem lg_ (B b pb po:Nat)(D:DataW Unit)(va:Option Addr)(vn:Nat)(vs:List Vo)(hpb:0<vn->va=some ⟨pb,po,none⟩)(w:World)(hO:w.ownsMap prog 9 (A6 pb) b vn D)(hV:DT D po vs)(hnd:(vs.map (·.nm.toList)).Nodup)(h2:Bb B w va vn vs)(ht:EB vs)(hw:WfV vs):
  Calls prog 86 #[.map (some b)] w fun e w'=>(∃ a n cap,e=.returned (.slice a n cap)∧n<=42000∧Ae Ct.cs 4 80 w' w.heap.size a n cap (AB vs))∧Below w.heap.size w w':=by
 have qk:=@run_makeMap prog;have ha:Hid (vs.length=vn):=h2.len;have qf:=hO.lt;have qm:Maps.size D<=vn:=hO.size_le;obtain⟨t6,tv⟩:=ht;rw[ha.out] at t6;have hM:=A0.made w;have hJ:(w.alloc (.map #[] 0)).ownsMap prog 9 (A6 pb) b vn D:=hO.alloc _;have hI:Below w.heap.size w (w.alloc (.map #[] 0)):=(Yg _ _).alloc (Zd _) _;have hS:(w.alloc (.map #[] 0)).heap.size=w.heap.size+1:=by simp
 have hY:∀ left o,0<=tot o (A8 (Bk left vs))∧tot o (A8 (Bk left vs))<=42000:=fun left o=>by
  have h1:=cy_ (fZ_ (Bk left vs)) o;have h2:=fF_ (l:=Bk left vs) (fun v hv=>by have:=tv v (YG.1 hv).1;exact⟨this.1,fun x hx=>(this.2 x hx).1⟩);have h3:(Bk left vs).length<=vs.length:=Yc _ _;have h4:=ha.out;omega
 go_enter func86,ntmps86
 go_wp2_with (first
  |(at_range;refine wpList_range_own _ rfl _ 131 rfl 9 122 keyed9 underlying131 _ b vn D rfl hJ ?_;intro w0 hb hC hu)
  |go_in)
 rw[hS] at hb hu ⊢;go_frame;have T0:A0 w0 w.heap.size 0 (fun _=>0):=hM.kept hC (by simp);have hf:Below w.heap.size w w0:=hI.grown hC (by omega) (fun j hj=>by cases hj);clear hM hJ hI hS hC hO
 go_loopw [11] (fun _ wr=>∃ (left:Lit->Bool) (cnt m:Nat),m+6000*cnt<=6000*vn∧(∀ kl,left kl=true->Maps.has D kl=true)∧wr.ranges prog 9 (A6 pb) b (w.heap.size+1) vn D left cnt∧A0 wr w.heap.size m (fun o=>tot o (A8 (Bk left vs)))∧w.heap.size+2<=wr.heap.size∧Below w.heap.size w wr)
  (fun _ wr=>wr.rangeLeft b (w.heap.size+1))
 case atStart=>
  refine⟨_,_,0,by omega,fun _ h=>h,hb,T0.congr (fun o=>?_),by omega,hf⟩;rw[hL_ (fun v hv=>by unfold BP;rw[hV.has];exact ZN.2 ⟨v,hv,by simp⟩)];rfl
 case round=>
  clear hb T0 hf hu;obtain⟨left,cnt,m,qj,hp,hG,T,qe,hB⟩:=hrel
  go_wp2_with (first
   |(at_next;refine wpList_next_ranges _ rfl _ rfl 9 keyed9 (A6 pb) Value.string (fun o:Nat=>Value.pointer (some ⟨pb,o,none⟩)) (fun key kl hk=>(by obtain⟨s,hs,_⟩:=f0_ hk;exact⟨s,hs⟩)) (fun v y h=>(by obtain⟨o,ho,_⟩:=eu_ h;exact⟨o,ho⟩)) b (w.heap.size+1) vn D left cnt rfl hG ?_ ?_)
   |go_in)
  ·intro qg h7;rw[iS_ h7] at T
   go_wp2_with fail
   refine (dG_ w.heap.size m _ wr T (by omega)).mono ?_;rintro e w4 ⟨⟨a2,n2,cap2,R,rfl,ql,R4,q1,q2,q3,q4⟩,hU⟩;have hR:R=AB vs:=g6_ q1 q2 q3 (fun o ho=>by rw[q4 o ho];simp[tot]) YT (fun c hc=>by simp at hc) (hO_ vs) (fun c hc=>by simp at hc) (hN_ hw);subst hR;have hW:=Aa hB hU;go_wp2;go_returns;exact⟨⟨a2,n2,cap2,rfl,by omega,R4.mono hB.size⟩,hW⟩
  ·intro s o kl y yp w1 cnt1 hl hQ hL hN hm h8 hD hu h0
   obtain rfl:kl=.string s.data.toList:=by
    obtain⟨s',e,e2⟩:=f0_ hl;injection e with e;rw[e,e2]
   obtain⟨i,v,hi,rfl,rfl⟩:=hP_ hV hnd (hp _ hQ) hL hN;have h6:i<vn:=by rw[<-ha.out];exact (Zb.1 hi).1
   have hz:=Zc hi;obtain⟨t1,t2⟩:=tv v hz;obtain⟨u1,u2⟩:=hw v hz;obtain⟨F,hr⟩:∃ F:Ow->Int,∀ o,F o=tot o (A8 (Bk left vs)):=⟨_,fun _=>rfl⟩;have hh:∀ o,F o+tot o (A3 v v.its)=tot o (A8 (Bk (fun z=>left z&&!z.sameKey (.string v.nm.data.toList)) vs)):=fun o=>by rw[hr];exact (gn_ (left:=left) (v:=v) hQ hnd hz o).symm
   have hF:∀ o,0<=F o∧F o<=42000:=fun o=>by rw[hr];exact hY left o
   have T1:A0 w1 w.heap.size m F:=(T.kept hD (by simp)).congr (fun o=>(hr o).symm);have hf:Below w.heap.size w w1:=hB.grown hD hB.size (fun j hj=>by cases hj;omega);obtain⟨b',o',x,qa,qn,qc,qb,hx,e0,e1,e2,e3,hP,_,_⟩:=b5_ h2 h6;obtain⟨rfl,rfl⟩:b'=pb∧o'=po:=by have:=hpb (by omega);rw[qb] at this;simpa using this
   obtain rfl:v=x:=by rw[hi] at hx;exact Zi hx
   have hK:Hid (v.its.length=qn):=hP.len;rw[hK.out] at t1;have hq:∀ kl,(left kl&&!kl.sameKey (.string v.nm.data.toList))=true->Maps.has D kl=true:=fun kl h=>hp kl (by simp at h;exact h.1);have hE:wr.rangeLeft b (w.heap.size+1)=cnt:=hG.left_eq;have e3':=Ab hf e3;obtain⟨wi,qd⟩:∃ x,x=wr:=⟨_,rfl⟩;subst qd;have hn:w.heap.size+2<=w1.heap.size:=by omega
   clear hl hL hN hD T hB hG hx hi e1 e2 e3 hr hu qe hz
   go_wp2_with fail
   go_loopw [20] (fun ix wq=>∃ (k:Nat),k<=qn∧ix=.int .i64 k∧A0 wq w.heap.size (m+1000*k) (fun o=>F o+tot o (A3 v (v.its.take k)))∧wq.ranges prog 9 (A6 b') b (w.heap.size+1) vn D (fun z=>left z&&!z.sameKey (.string v.nm.data.toList)) cnt1∧w.heap.size+2<=wq.heap.size∧Below w.heap.size w wq) (fun ix _=>qn-(intOf ix).toNat)
   case atStart=>exact⟨0,Zg _,rfl,T1.congr (fun o=>by simp[A3,tot]),hm,hn,hf⟩
   case round=>
    clear T1 hm hf hn e3' h0;obtain⟨k,hk,rfl,T2,he,hn,hg⟩:=hrel;by_cases hlk2:k<qn
    ·obtain⟨ib,io,x,pa,pn,pc,rfl,hx,c0,c1,hA,_,_,_⟩:=bO_ (hP.below hg) hlk2;have f0:=Ab hg e0;obtain⟨s1,_⟩:=t2 x (Zc hx);obtain⟨s2,s3⟩:=u2 x (Zc hx);rw[hA.len] at s1;have qh:(k:Int)<qn:=by omega
     have qi:(0:Int)<=k:=by omega
     have h5:Hid (A3 v (v.its.take (k+1))=A3 v (v.its.take k)++AT v.id x.nm x.ps):=fq_ hx
     have hZ:∀ o,0<=tot o (A3 v (v.its.take k))∧tot o (A3 v (v.its.take k))<=6000:=fun o=>by
      have h1:=cy_ (ju_ v (v.its.take k)) o;have h2:=fE_ (v:=v) (l:=v.its.take k) (fun y hy=>(t2 y (ZX hy)).1);have h3:(v.its.take k).length<=6:=by rw[Zz];omega
      omega
     clear hx;have X:=Blk.new wr #[.string x.nm,.slice pa pn pc] 125;have gW:wr.grownBy (wr.alloc (.cells #[.string x.nm,.slice pa pn pc] 125)) (some w.heap.size):=Yl wr _ (some w.heap.size);have T3:A0 (wr.alloc (.cells #[.string x.nm,.slice pa pn pc] 125)) w.heap.size (m+1000*k) (fun o=>F o+tot o (A3 v (v.its.take k))):=T2.kept (Yl wr _ none) (by simp);have f1:=Ah (.cells #[.string x.nm,.slice pa pn pc] 125) f0;have hX:AN (wr.alloc (.cells #[.string x.nm,.slice pa pn pc] 125)) pa pn x.ps:=hA.below (by go_grown);clear T2 f0 hA
     go_wp2_with fail
     have x0:=X.cell 0;have x1:=X.cell 1;simp only[lgA,lgB,lgC] at x0 x1;generalize wr.alloc (.cells #[.string x.nm,.slice pa pn pc] 125)=W at *;have y0:W.drew.cell? ⟨wr.heap.size,0,none⟩=some (.string x.nm):=x0;have y1:W.drew.cell? ⟨wr.heap.size,1,none⟩=some (.slice pa pn pc):=x1;have y2:W.drew.cell? ⟨b',o'+i*4,none⟩=some (.int .i64 v.id):=f1;refine aE_ 6 (by kernel_rfl) (by kernel_rfl) ?_;simp only[ZP,Yx,ZR,YC]
     repeat still_step
     refine wpStill_nil ?_
     go_wp2_with fail
     refine (fi_ w.heap.size (m+1000*k) _ v.id x.nm pa pn pc x.ps W.drew T3 hX.drew u1 s2 s3 (by omega) (by omega) (fun o=>by have h1:=hF o;have h2:=hZ o;omega)).mono ?_;rintro e w3 ⟨rfl,T4,g4⟩;have g5:wr.grownBy w3 (some w.heap.size):=(gW.andThen (⟨rfl,rfl,rfl,Zd _,fun _ _ _=>rfl⟩:W.grownBy W.drew (some w.heap.size)) (fun j hj=>by cases hj;exact .inr rfl)).andThen g4 (fun j hj=>by cases hj;exact .inr rfl);have hH:=he.kept g5 (by simp only[ne_eq,Zo];omega) (by simp);have hT:Below w.heap.size w w3:=hg.grown g5 hg.size (fun j hj=>by cases hj;exact Zd _);have h9:w.heap.size+2<=w3.heap.size:=Zl hn g5.size;have T5:A0 w3 w.heap.size (m+1000*(k+1)) (fun o=>F o+tot o (A3 v (v.its.take (k+1)))):=(T4.mono (by omega)).congr (fun o=>by rw[h5.out,bn_];omega);go_wp2;go_roundw
     case rel=>exact⟨k+1,by omega,by go_num,T5,hH,h9,hT⟩
     case measure=>simp[intOf];omega
    ·obtain rfl:k=qn:=by omega
     rw[Zk (Zm hK.out)] at T2;go_wp2;go_roundw
     case rel=>exact⟨_,cnt1,m+1000*k,by omega,hq,he,T2.congr hh,hn,hg⟩
     case measure=>rw[he.left_eq,hE];exact h8
end
section
open Go Go.RowKit Go.BigFrame Tryz
variable{α:Type}{file:ByteArray}{its:List It}{l:List Vo}{i:Nat}{p q:Po}{v:Value}{y:Vo}
def VG (v:Vo):Prop:=1<=v.id∧v.id<=1000000000∧nameB v.nm=true∧v.its.length<=6∧∀ x∈v.its,nameB x.nm=true∧Ac x.ps=true
structure CW (q:Po):Prop where
 vn:q.vs.length<=7
 g:∀ v∈q.vs,VG v
 nd:(q.vs.map (·.nm.toList)).Nodup
 el:q.ex.length<=60
 es:BS q.ex
 rl:q.rf.length<=200
 rs:By q.rf
 ll:q.lt.length<=200
 ls:By q.lt
theorem CW.wide (h:CW q):EB q.vs:=⟨h.vn,fun v hv=>by
 obtain⟨_,_,_,h4,h5⟩:=h.g v hv;exact⟨h4,fun x hx=>⟨by have:=(ae_ (h5 x hx).2).1;omega,fun p hp=>cT_ ((ae_ (h5 x hx).2).2.1 p hp)⟩⟩⟩
theorem pT_ {p:Pt}(h:Ag p=true):(Lit.int .i64 p.a).wf=true:=by
 have h0:=cT_ h
 have h1:p.a<=400:=by
  unfold Ag at h;split at h
  ·rename_i h2;simp at h2;omega
  ·simp at h;omega
 exact Yz (by omega)
theorem CW.wf (h:CW q):WfV q.vs:=fun v hv=>by
 obtain⟨h1,h2,_,_,h5⟩:=h.g v hv;exact⟨Yz (by omega),fun x hx=>⟨by have:=cj_ (h5 x hx).1;unfold maxLen;omega,fun p hp=>pT_ ((ae_ (h5 x hx).2).2.1 p hp)⟩⟩
theorem CW.str (h:CW q):DS q.vs:=fun v hv=>by
 obtain⟨_,_,h3,h4,h5⟩:=h.g v hv;exact⟨by have:=cj_ h3;omega,by omega,fun x hx=>⟨by have:=cj_ (h5 x hx).1;omega,by have:=(ae_ (h5 x hx).2).1;omega⟩⟩
theorem CW.dim (h:CW q)(hd:AC p)(hn:(A7 p q).lt.length<=4194304):AC (A7 p q):=by
 obtain⟨z1,z2,z3,z4,z5,z6,z7,z8⟩:=hd;have h1:=h.el;have h2:=h.vn;have h3:=h.rl;refine⟨?_,h.es,?_,h.str,?_,h.rs,hn,?_⟩
 ·show q.ex.length<=_;omega
 ·show q.vs.length<=_;omega
 ·show q.rf.length<=_;omega
 ·intro c hc;rcases Zs.1 hc with hc | hc
  ·exact h.ls c hc
  ·exact g7_ (f8_ h.str) (mV_ (f8_ z4)) c hc
theorem cQ_ (hp:Ai p=true):∀ v∈p.vs,VG v∧v.its.length<=5:=fun v hv=>by
 obtain⟨_,h2,h3,_⟩:=bL_ hp;obtain⟨a1,a2,a3,a4⟩:=b0_ h2 v hv;simp only[itemsB,Zf,ZU] at a1;refine⟨⟨by omega,by omega,a2,by omega,fun x hx=>⟨hR_ a1.2 x hx,?_⟩⟩,a1.1⟩;obtain⟨s,hs⟩:=Option.isSome_iff_exists.1 (db_ a1.2 x hx);exact (fl_ hs).1
theorem ib_ (hp:Ai p=true)(hd:AC p):CW p:=by
 obtain⟨h1,_,_,h4,h5⟩:=bL_ hp;obtain⟨_,a2,a3⟩:=dv_ hp;exact⟨by omega,fun v hv=>(cQ_ hp v hv).1,h5,(cu_ h4).2.2.1,hd.2.1,(a0_ a2).1,hd.2.2.2.2.2.1,(br_ a3).1,hd.2.2.2.2.2.2.2⟩
theorem o2_ {l:List α}{a:α}(h:l[i]?=some a):l.set i a=l:=by
 refine List.ext_getElem? (fun j=>?_);rw[List.getElem?_set];split
 ·rename_i e;subst e;rw[h,if_pos (Zb.1 h).1]
 ·rfl
theorem CW.set (h:CW q){z:Vo}(hy:q.vs[i]?=some y)(hn:z.nm=y.nm)(hz:VG z){E:List Ex}(he:E.length<=60)(hs:BS E):CW {q with ex:=E,vs:=q.vs.set i z}:=by
 refine⟨by rw[List.length_set];exact h.vn,fun v hv=>?_,?_,he,hs,h.rl,h.rs,h.ll,h.ls⟩
 ·rcases List.mem_or_eq_of_mem_set hv with hv | rfl
  ·exact h.g v hv
  ·exact hz
 ·rw[List.map_set,o2_]
  ·exact h.nd
  ·rw[List.getElem?_map,hy,hn];rfl
theorem bY_ {s:ByteArray}{c:Bool}{f:Nat->Vo->Int⊕Po}(h:AH p s c f=.inr q):∃ i y,volI p.vs s=some i∧p.vs[i]?=some y∧f i y=.inr q:=by
 unfold AH at h;split at h
 ·cases h
 ·rename_i i hi;split at h
  ·cases h
  ·rename_i y hy;split at h
   ·cases h
   ·exact⟨i,y,hi,hy,h⟩
theorem eW_ {l m:List Pt}{at':Int}(h:Bw y file l at' m=.inr its):∃ ps,Ac ps=true∧its=Ba ⟨file,ps⟩ y.its:=by
 unfold Bw at h;split at h
 ·cases h
 ·rename_i ps hps;injection h with h;exact⟨ps,(nL_ hps).2.2.2.2.1,h.symm⟩
theorem hc_ {ps:List Pt}(hy:VG y)(h5:y.its.length<=5)(hf:nameB file=true)(hps:Ac ps=true):VG {y with its:=Ba ⟨file,ps⟩ y.its}:=by
 obtain⟨h1,h2,h3,_,h6⟩:=hy;refine⟨h1,h2,h3,?_,fun x hx=>?_⟩
 ·have:=kw_ ⟨file,ps⟩ y.its
  simp only;omega
 ·rcases kx_ hx with rfl | hx
  ·exact⟨hf,hps⟩
  ·exact h6 x hx
theorem eX_ {R:Int⊕List It}(hp:Ai p=true)(hd:AC p)(hy:p.vs[i]?=some y)(hR:∀ its,R=.inr its->VG {y with its:=its})(h:B7 p i y R=.inr q):CW q:=by
 have hb:=ib_ hp hd
 cases R with
 |inl c=>cases h
 |inr its=>
  injection h with h;subst h;exact hb.set (z:={y with its:=its}) hy rfl (hR its rfl) hb.el hb.es
end
end Go.Proofs.YtahenegmbmnmjaaGreatDoor
