/- Texts of pools, read and written; what is drawn. -/
import Derived.Test.YtkkjdbfalpjhfaaGreatDoorU14
import Derived.Test.YtkkjdbfalpjhfaaGreatDoorU29
set_option maxHeartbeats 20000000
set_option maxRecDepth 100000
namespace Go.Proofs.YtkkjdbfalpjhfaaGreatDoor
open Go Tryz
theorem Co (b:ByteArray):bA b.data.toList=b:=by cases b;simp[bA]
theorem Da:∀ (a b:By) (k:Nat),Lib.decFrom k (a++b)=(Lib.decFrom k a).bind fun m=>Lib.decFrom m b
 |[],b,k=>rfl
 |x::a,b,k=>by
  simp only[YF,Lib.decFrom]
  cases Lib.digitVal x with
  |none=>rfl
  |some d=>exact Da a b _
theorem Hk {d:Nat}(h:d<10):Lib.digitVal (UInt8.ofNat (48+d))=some d:=by
 have e:(UInt8.ofNat (48+d)).toNat=48+d:=by simp;omega
 unfold Lib.digitVal
 rw[e,if_pos (by omega)]
 simp
theorem Cv (n:Nat):Lib.decFrom 0 (Lib.decDigits n)=some n:=by
 induction n using Nat.strongRecOn with
 |_ n ih=>
  rw[Lib.decDigits]
  split
  ·next h=>simp only[Lib.decFrom,Hk h];simp
  ·next h=>
   rw[Da,ih (n / 10) (by omega)]
   simp only[YO,Lib.decFrom,Hk (show n % 10<10 by omega)]
   congr 1
   omega
theorem FR (n:Nat):Lib.decDigits n≠[]:=by
 rw[Lib.decDigits]
 split<;>simp
theorem Hj {n:Nat}(h:(Lib.decDigits n).head?=some 48):n=0:=by
 induction n using Nat.strongRecOn with
 |_ n ih=>
  rw[Lib.decDigits] at h
  split at h
  ·next hn=>
   simp at h
   have:=congrArg UInt8.toNat h
   simp at this
   omega
  ·next hn=>
   obtain⟨x,l,hx⟩:∃ x l,Lib.decDigits (n / 10)=x::l:=by
    cases hc:Lib.decDigits (n / 10) with
    |nil=>exact absurd hc (FR _)
    |cons x l=>exact⟨x,l,rfl⟩
   have:=ih (n / 10) (by omega) (by rw[hx] at h ⊢;simpa using h)
   omega
def numP (s:By):Option Int:=
 match s with
 |45::t=>if t.length<1∨10<t.length∨t.head?=some 48 then none else (Lib.decFrom 0 t).map fun (n:Nat)=>-(n:Int)
 |t=>if t.length<1∨10<t.length∨(t.head?=some 48∧1<t.length) then none else (Lib.decFrom 0 t).map fun (n:Nat)=>(n:Int)
def AG (n:Int):Prop:=-10000000000<n∧n<10000000000
theorem GN (m:Nat):∀ k,k<10 ^ (m+1)->(Lib.decDigits k).length<=m+1:=by
 induction m with
 |zero=>intro k h;rw[Lib.decDigits,dif_pos (by omega)];simp
 |succ m ih=>
  intro k h
  rw[Lib.decDigits]
  split
  ·simp
  ·have:=ih (k / 10) (by rw[Nat.pow_succ] at h;omega)
   simp;omega
theorem FQ (n:Nat):∃ d r,Lib.decDigits n=UInt8.ofNat (48+d)::r∧d<10:=by
 induction n using Nat.strongRecOn with
 |_ n ih=>
  rw[Lib.decDigits]
  split
  ·next h=>exact⟨n,[],rfl,h⟩
  ·next h=>
   obtain⟨d,r,e,hd⟩:=ih (n / 10) (by omega)
   exact⟨d,r++[UInt8.ofNat (48+n % 10)],by rw[e];rfl,hd⟩
theorem Kg {d:Nat}(h:d<10):UInt8.ofNat (48+d)≠45:=fun e=>by
 have:=congrArg UInt8.toNat e
 simp at this
 omega
theorem FZ {t:By}(h:t.head?≠some 45):numP t=if t.length<1∨10<t.length∨(t.head?=some 48∧1<t.length) then none else (Lib.decFrom 0 t).map fun (n:Nat)=>(n:Int):=by
 unfold numP
 split
 ·simp at h
 ·rfl
theorem Bc {n:Int}(h:AG n):numP (Lib.itoa n)=some n:=by
 obtain⟨h1,h2⟩:=h
 unfold Lib.itoa
 split
 ·next hn=>
  obtain⟨k,rfl⟩:∃ k:Nat,n=-(k:Int):=⟨n.natAbs,by omega⟩
  have e:(-(k:Int)).natAbs=k:=by omega
  rw[e]
  unfold numP
  simp only
  have l1:=GN 9 k (by omega)
  have l2:=List.length_pos_iff.2 (FR k)
  rw[if_neg,Cv]
  ·rfl
  ·rintro (h | h | h)
   ·omega
   ·omega
   ·have:=Hj h;omega
 ·next hn=>
  obtain⟨k,rfl⟩:∃ k:Nat,n=(k:Int):=⟨n.toNat,by omega⟩
  have e:(k:Int).toNat=k:=by omega
  rw[e]
  have l1:=GN 9 k (by omega)
  have l2:=List.length_pos_iff.2 (FR k)
  rw[FZ,if_neg,Cv]
  ·rfl
  ·rintro (h | h | ⟨h,h'⟩)
   ·omega
   ·omega
   ·have:=Hj h
    subst this
    rw[show Lib.decDigits 0=[48] by rw[Lib.decDigits];simp] at h'
    simp at h'
  ·obtain⟨d,r,e,hd⟩:=FQ k
   rw[e]
   simp only[List.head?_cons,ne_eq,Zo]
   exact Kg hd
def cutB (c:UInt8):By->Option (By×By)
 |[]=>none
 |x::l=>if x=c then some ([],l) else (cutB c l).map fun q=>(x::q.1,q.2)
theorem B5 {c:UInt8}:∀ {a:By} (b:By),c∉a->cutB c (a++c::b)=some (a,b)
 |[],b,_=>by simp[cutB]
 |x::a,b,h=>by
  have h1:¬ x=c:=fun e=>h (by simp[e])
  have h2:c∉a:=fun e=>h (by simp[e])
  simp[cutB,h1,B5 b h2]
def AU:Nat->By->List By
 |0,l=>[l]
 |k+1,l=>match cutB 32 l with
  |none=>[l]
  |some q=>q.1::AU k q.2
def joW:List By->By
 |[]=>[]
 |[a]=>a
 |a::b::l=>a++32::joW (b::l)
theorem F7:∀ (ws:List By) (x:By),(∀ w∈ws,(32:UInt8)∉w)->AU ws.length (joW (ws++[x]))=ws++[x]
 |[],x,_=>rfl
 |w::ws,x,h=>by
  have ih:=F7 ws x (fun w' hw=>h w' (by simp[hw]))
  have h1:joW (w::ws++[x])=w++32::joW (ws++[x]):=by
   cases ws with
   |nil=>rfl
   |cons a l=>rfl
  rw[h1,Zw,AU,B5 _ (h w (by simp))]
  simp[ih]
def ahP (wd l:By):Bool:=(wd++[32]).isPrefixOf l
theorem GG {wd l:By}:ahP wd l=true↔∃ r,l=wd++32::r:=by
 unfold ahP
 rw[List.isPrefixOf_iff_prefix]
 constructor
 ·rintro⟨r,rfl⟩;exact⟨r,by simp⟩
 ·rintro⟨r,rfl⟩;exact⟨r,by simp⟩
theorem JN {wd l:By}(h:ahP wd l=true)(hw:wd≠[]):l.head?=wd.head?:=by
 obtain⟨r,rfl⟩:=GG.1 h
 cases wd with
 |nil=>exact absurd rfl hw
 |cons x t=>rfl
theorem Ew (wd x:By)(l:List By):ahP wd (joW (wd::x::l))=true:=GG.2 ⟨_,rfl⟩
def CT (ls:List By):By:=ls.flatMap (·++[10])
def lnsB:Nat->By->Option (List By)
 |0,s=>if s=[] then some [] else none
 |k+1,s=>if s=[] then some [] else match cutB 10 s with
  |none=>none
  |some q=>(lnsB k q.2).map (q.1::·)
theorem Hs:∀ {k:Nat} {ls:List By},(∀ l∈ls,(10:UInt8)∉l)->(CT ls).length<=k->lnsB k (CT ls)=some ls
 |0,[],_,_=>rfl
 |k+1,[],_,_=>rfl
 |0,l::ls,_,h=>by simp[CT] at h
 |k+1,l::ls,h,hk=>by
  have e:CT (l::ls)=l++10::CT ls:=by simp[CT]
  rw[e] at hk
  simp only[ZE,Zw] at hk
  rw[e,lnsB,if_neg (by simp),B5 _ (h l (by simp))]
  simp[Hs (k:=k) (ls:=ls) (fun l' hl=>h l' (by simp[hl])) (by omega)]
theorem EC (a b:List By):CT (a++b)=CT a++CT b:=by simp[CT]
theorem CM (a:By)(b:List By):CT (a::b)=a++[10]++CT b:=by simp[CT]
theorem C0:∀ (l:List ByteArray),CE l=joW (l.map (·.data.toList))
 |[]=>rfl
 |[a]=>Cx a
 |a::b::l=>by
  rw[B3,C0 (b::l)]
  simp[joW]
def Bu:By:=[112,111,111,108]
def exK:By:=[101,120,116,101,110,116]
def Cm:By:=[118,111,108,117,109,101]
def Bt:By:=[102,105,108,101]
def partK:By:=[112,97,114,116]
def Cl:By:=[114,101,102]
def Bp:By:=[108,97,116,101]
def B7 (s:By):Option Bool:=if s=[48] then some false else if s=[49] then some true else none
def exP (l:By):Option Ex:=match AU 2 l with
 |[_,a,d]=>(numP a).map fun n=>⟨n,bA d⟩
 |_=>none
def ptP (l:By):Option Pt:=match AU 3 l with
 |[_,a,f,n]=>(numP a).bind fun a=>(numP f).bind fun f=>(numP n).map fun n=>⟨a,f,n⟩
 |_=>none
def fileP (l:By):Option ByteArray:=match AU 1 l with
 |[_,a]=>some (bA a)
 |_=>none
def voP (l:By):Option (Int×ByteArray×Bool):=match AU 3 l with
 |[_,i,nm,f]=>(numP i).bind fun i=>(B7 f).map fun f=>(i,bA nm,f)
 |_=>none
def ctP (l:By):Option Ct:=match AU 4 l with
 |[_,a,v,f,n]=>(numP a).bind fun a=>(numP v).bind fun v=>(numP n).map fun n=>⟨⟨a,v,bA f⟩,n⟩
 |_=>none
def hdP (l:By):Option (Int×Int):=match AU 2 l with
 |[_,a,b]=>(numP a).bind fun a=>(numP b).map fun b=>(a,b)
 |_=>none
def manyP {α:Type}(wd:By)(f:By->Option α):List By->Option (List α×List By)
 |[]=>some ([],[])
 |l::r=>if ahP wd l then (f l).bind fun x=>(manyP wd f r).map fun q=>(x::q.1,q.2) else some ([],l::r)
def itemsP:Nat->List By->Option (List It×List By)
 |0,ls=>some ([],ls)
 |_+1,[]=>some ([],[])
 |k+1,l::r=>if ahP Bt l then (fileP l).bind fun nm=>(manyP partK ptP r).bind fun q=>(itemsP k q.2).map fun s=>(⟨nm,q.1⟩::s.1,s.2) else some ([],l::r)
def volsP:Nat->List By->Option (List Vo×List By)
 |0,ls=>some ([],ls)
 |_+1,[]=>some ([],[])
 |k+1,l::r=>if ahP Cm l then (voP l).bind fun h=>(itemsP r.length r).bind fun q=>(volsP k q.2).map fun s=>(⟨h.1,h.2.1,h.2.2,q.1⟩::s.1,s.2) else some ([],l::r)
def DH:List By->Option (Po×List By)
 |[]=>none
 |l::r=>if ahP Bu l then (hdP l).bind fun h=>(manyP exK exP r).bind fun a=>(volsP a.2.length a.2).bind fun b=>(manyP Cl ctP b.2).bind fun c=>(manyP Bp ctP c.2).map fun d=>(⟨h.1,h.2,a.1,b.1,c.1,d.1⟩,d.2) else none
def DS (e:Ex):By:=joW [exK,Lib.itoa e.a,e.d.data.toList]
def Fk (p:Pt):By:=joW [partK,Lib.itoa p.a,Lib.itoa p.f,Lib.itoa p.n]
def CG (x:It):List By:=joW [Bt,x.nm.data.toList]::x.ps.map Fk
def Dm (b:Bool):By:=if b then [49] else [48]
def BU (v:Vo):List By:=joW [Cm,Lib.itoa v.id,v.nm.data.toList,Dm v.fx]::v.its.flatMap CG
def BD (wd:By)(c:Ct):By:=joW [wd,Lib.itoa c.o.a,Lib.itoa c.o.v,c.o.f.data.toList,Lib.itoa c.n]
def C9 (p:Po):List By:=joW [Bu,Lib.itoa p.size,Lib.itoa p.next]::p.ex.map DS++p.vs.flatMap BU++p.rf.map (BD Cl)++p.lt.map (BD Bp)
theorem ED {α:Type}{f:α->By}{g:α->By}(h:∀ x,g x=f x++[10])(l:List α):CT (l.map f)=l.flatMap g:=by
 induction l with
 |nil=>rfl
 |cons x l ih=>rw[YD,CM,ih,ZF,h]
theorem Gh {α:Type}{f:α->List By}{g:α->By}(h:∀ x,g x=CT (f x))(l:List α):CT (l.flatMap f)=l.flatMap g:=by
 induction l with
 |nil=>rfl
 |cons x l ih=>rw[ZF,EC,ih,ZF,h]
theorem CU (n:Int):(AK n).data.toList=Lib.itoa n:=by simp[AK]
theorem KN (e:Ex):Ah (exW e)=DS e++[10]:=by
 unfold Ah exW DS;rw[C0];simp[CU];rfl
theorem K5 (p:Pt):Ah (ptW p)=Fk p++[10]:=by
 unfold Ah ptW Fk;rw[C0];simp[CU];rfl
theorem He (w:ByteArray)(c:Ct):Ah (ctL w c)=BD w.data.toList c++[10]:=by
 unfold Ah ctL BD;rw[C0];simp[CU]
theorem J7 (x:It):itW x=CT (CG x):=by
 unfold itW CG AQ
 rw[CM,ED K5]
 unfold Ah;rw[C0];rfl
theorem Ji (b:Bool):(FS b).data.toList=Dm b:=by cases b<;>rfl
theorem Ks (v:Vo):Dg v=CT (BU v):=by
 unfold Dg BU BT
 rw[CM,Gh J7]
 unfold Ah voW;rw[C0];simp[CU,Ji];rfl
theorem EA (p:Po):Bq p=CT (C9 p):=by
 unfold Bq C9 Dx BX Br
 rw[EC,EC,EC,CM,ED KN,Gh Ks,ED (f:=BD Cl) (He Dp),ED (f:=BD Bp) (He B2)]
 unfold Ah hdW;rw[C0];simp[CU];rfl
theorem Io {n:Int}{c:UInt8}(h1:c≠45)(h2:c.toNat<48):c∉Lib.itoa n:=by
 have hd:∀ k:Nat,c∉Lib.decDigits k:=fun k=>by
  induction k using Nat.strongRecOn with
  |_ k ih=>
   rw[Lib.decDigits]
   have h3:∀ d:Nat,d<10->c≠UInt8.ofNat (48+d):=fun d hd e=>by
    have:=congrArg UInt8.toNat e
    simp at this
    omega
   split
   ·next h=>simpa using h3 k h
   ·next h=>
    intro hm
    rcases Zs.1 hm with e | e
    ·exact ih (k / 10) (by omega) e
    ·exact h3 (k % 10) (by omega) (by simpa using e)
 unfold Lib.itoa
 split
 ·intro hm
  rcases Zn.1 hm with e | e
  ·exact h1 e
  ·exact hd _ e
 ·exact hd _
theorem BJ (n:Int):(32:UInt8)∉Lib.itoa n:=Io (by decide) (by decide)
theorem EM (n:Int):(10:UInt8)∉Lib.itoa n:=Io (by decide) (by decide)
structure FK (p:Po):Prop where
 hd:AG p.size∧AG p.next
 ex:∀ e∈p.ex,AG e.a∧(10:UInt8)∉e.d.data.toList
 vs:∀ v∈p.vs,AG v.id∧((32:UInt8)∉v.nm.data.toList∧(10:UInt8)∉v.nm.data.toList)∧∀ x∈v.its,((32:UInt8)∉x.nm.data.toList∧(10:UInt8)∉x.nm.data.toList)∧∀ t∈x.ps,AG t.a∧AG t.f∧AG t.n
 ct:∀ c∈p.rf++p.lt,(AG c.o.a∧AG c.o.v∧AG c.n)∧(32:UInt8)∉c.o.f.data.toList∧(10:UInt8)∉c.o.f.data.toList
theorem Mf {a b c:By}(ha:(32:UInt8)∉a)(hb:(32:UInt8)∉b):AU 2 (joW [a,b,c])=[a,b,c]:=F7 [a,b] c (by simp[ha,hb])
theorem Mq {a b:By}(ha:(32:UInt8)∉a):AU 1 (joW [a,b])=[a,b]:=F7 [a] b (by simp[ha])
theorem Mg {a b c d:By}(ha:(32:UInt8)∉a)(hb:(32:UInt8)∉b)(hc:(32:UInt8)∉c):AU 3 (joW [a,b,c,d])=[a,b,c,d]:=F7 [a,b,c] d (by simp[ha,hb,hc])
theorem Mr {a b c d e:By}(ha:(32:UInt8)∉a)(hb:(32:UInt8)∉b)(hc:(32:UInt8)∉c)(hd:(32:UInt8)∉d):AU 4 (joW [a,b,c,d,e])=[a,b,c,d,e]:=F7 [a,b,c,d] e (by simp[ha,hb,hc,hd])
theorem LF {e:Ex}(h:AG e.a):exP (DS e)=some e:=by
 unfold exP DS
 rw[Mf (by decide) (BJ _)]
 simp[Bc h,Co]
theorem LJ {p:Pt}(h:AG p.a∧AG p.f∧AG p.n):ptP (Fk p)=some p:=by
 unfold ptP Fk
 rw[Mg (by decide) (BJ _) (BJ _)]
 simp[Bc h.1,Bc h.2.1,Bc h.2.2]
theorem JY (b:ByteArray):fileP (joW [Bt,b.data.toList])=some b:=by
 unfold fileP
 rw[Mq (by decide)]
 simp[Co]
theorem JZ (b:Bool):B7 (Dm b)=some b:=by cases b<;>rfl
theorem LO {v:Vo}(h:AG v.id)(h2:(32:UInt8)∉v.nm.data.toList):voP (joW [Cm,Lib.itoa v.id,v.nm.data.toList,Dm v.fx])=some (v.id,v.nm,v.fx):=by
 unfold voP
 rw[Mg (by decide) (BJ _) h2]
 simp[Bc h,Co,JZ]
theorem JQ {wd:By}{c:Ct}(hw:(32:UInt8)∉wd)(h:AG c.o.a∧AG c.o.v∧AG c.n)(h2:(32:UInt8)∉c.o.f.data.toList):ctP (BD wd c)=some c:=by
 unfold ctP BD
 rw[Mr hw (BJ _) (BJ _) h2]
 simp[Bc h.1,Bc h.2.1,Bc h.2.2,Co]
theorem LG {a b:Int}(h:AG a∧AG b):hdP (joW [Bu,Lib.itoa a,Lib.itoa b])=some (a,b):=by
 unfold hdP
 rw[Mf (by decide) (BJ _)]
 simp[Bc h.1,Bc h.2]
def Ep (wd:By)(ls:List By):Prop:=∀ l r,ls=l::r->ahP wd l=false
theorem Hu (wd:By):Ep wd []:=fun l r h=>by cases h
theorem EQ {wd l:By}{r:List By}(hw:wd≠[])(h:l.head?≠wd.head?):Ep wd (l::r):=fun l' r' e=>by
 obtain⟨rfl,rfl⟩:=List.cons.inj e
 cases hc:ahP wd l with
 |false=>rfl
 |true=>exact absurd (JN hc hw) h
theorem EP {α:Type}{wd:By}{f:By->Option α}{g:α->By}:∀ {xs:List α} {r:List By},(∀ x∈xs,ahP wd (g x)=true∧f (g x)=some x)->Ep wd r->manyP wd f (xs.map g++r)=some (xs,r)
 |[],[],_,_=>rfl
 |[],l::r,_,h=>by
  show manyP wd f (l::r)=_
  rw[manyP,h l r rfl];rfl
 |x::xs,r,h,hr=>by
  obtain⟨h1,h2⟩:=h x (by simp)
  show manyP wd f (g x::(xs.map g++r))=_
  rw[manyP,if_pos h1,h2,YO,EP (fun y hy=>h y (by simp[hy])) hr]
  rfl
theorem Hr (w x:By)(l:List By)(hw:w≠[]):(joW (w::x::l)).head?=w.head?:=by
 cases w with
 |nil=>exact absurd rfl hw
 |cons a t=>rfl
theorem Hq:∀ {xs:List It} {r:List By} {k:Nat},(∀ x∈xs,∀ t∈x.ps,AG t.a∧AG t.f∧AG t.n)->Ep Bt r->Ep partK r->(xs.flatMap CG++r).length<=k->itemsP k (xs.flatMap CG++r)=some (xs,r)
 |[],[],0,_,_,_,_=>rfl
 |[],[],k+1,_,_,_,_=>rfl
 |[],l::r,0,_,_,_,h=>by simp at h
 |[],l::r,k+1,_,h,_,_=>by
  show itemsP (k+1) (l::r)=_
  rw[itemsP,h l r rfl];rfl
 |x::xs,r,0,_,_,_,h=>by simp[CG] at h
 |x::xs,r,k+1,h,h1,h2,hk=>by
  have e:(x::xs).flatMap CG++r=joW [Bt,x.nm.data.toList]::(x.ps.map Fk++(xs.flatMap CG++r)):=by simp[CG]
  rw[e] at hk ⊢
  have hn:Ep partK (xs.flatMap CG++r):=by
   cases xs with
   |nil=>exact h2
   |cons y ys=>exact EQ (by decide) (by rw[Hr _ _ _ (by decide)];decide)
  rw[itemsP,if_pos (Ew _ _ _),JY,YO,EP (g:=Fk) (fun t ht=>⟨Ew _ _ _,LJ (h x (by simp) t ht)⟩) hn,YO]
  simp only
  rw[Hq (fun y hy=>h y (by simp[hy])) h1 h2 (by simp at hk ⊢;omega)]
  rfl
theorem I3:∀ {vs:List Vo} {r:List By} {k:Nat},(∀ v∈vs,AG v.id∧((32:UInt8)∉v.nm.data.toList)∧∀ x∈v.its,∀ t∈x.ps,AG t.a∧AG t.f∧AG t.n)->Ep Cm r->Ep Bt r->Ep partK r->(vs.flatMap BU++r).length<=k->volsP k (vs.flatMap BU++r)=some (vs,r)
 |[],[],0,_,_,_,_,_=>rfl
 |[],[],k+1,_,_,_,_,_=>rfl
 |[],l::r,0,_,_,_,_,h=>by simp at h
 |[],l::r,k+1,_,h,_,_,_=>by
  show volsP (k+1) (l::r)=_
  rw[volsP,h l r rfl];rfl
 |v::vs,r,0,_,_,_,_,h=>by simp[BU] at h
 |v::vs,r,k+1,h,h1,h2,h3,hk=>by
  have e:(v::vs).flatMap BU++r=joW [Cm,Lib.itoa v.id,v.nm.data.toList,Dm v.fx]::(v.its.flatMap CG++(vs.flatMap BU++r)):=by simp[BU]
  rw[e] at hk ⊢
  obtain⟨n1,n2,n3⟩:=h v (by simp)
  have hn:Ep Bt (vs.flatMap BU++r)∧Ep partK (vs.flatMap BU++r):=by
   cases vs with
   |nil=>exact⟨h2,h3⟩
   |cons y ys=>exact⟨EQ (by decide) (by rw[Hr _ _ _ (by decide)];decide),EQ (by decide) (by rw[Hr _ _ _ (by decide)];decide)⟩
  rw[volsP,if_pos (Ew _ _ _),LO n1 n2,YO,Hq n3 hn.1 hn.2 (Zd _),YO]
  simp only
  rw[I3 (fun y hy=>h y (by simp[hy])) h1 h2 h3 (by simp at hk ⊢;omega)]
  rfl
theorem Iw {wd w2:By}{l:List Ct}{r:List By}(hw:wd≠[])(h2:w2≠[])(h:w2.head?≠wd.head?)(hr:Ep wd r):Ep wd (l.map (BD w2)++r):=by
 cases l with
 |nil=>exact hr
 |cons c l=>exact EQ hw (by rw[BD,Hr _ _ _ h2];exact h)
theorem K4 {p:Po}(h:FK p):DH (C9 p)=some (p,[]):=by
 obtain⟨ph,pe,pv,pc⟩:=h
 have a1:∀ wd:By,wd≠[]->wd.head?≠some 108->Ep wd (p.lt.map (BD Bp)):=fun wd hw hh=>by
  have:=Iw (l:=p.lt) (r:=[]) hw (show Bp≠[] by decide) (fun e=>hh e.symm) (Hu _)
  simpa using this
 have a2:∀ wd:By,wd≠[]->wd.head?≠some 108->wd.head?≠some 114->Ep wd (p.rf.map (BD Cl)++p.lt.map (BD Bp)):=fun wd hw hh hg=>Iw hw (show Cl≠[] by decide) (fun e=>hg e.symm) (a1 wd hw hh)
 have e:C9 p=joW [Bu,Lib.itoa p.size,Lib.itoa p.next]::(p.ex.map DS++(p.vs.flatMap BU++(p.rf.map (BD Cl)++(p.lt.map (BD Bp)++[])))):=by simp[C9]
 have a3:Ep exK (p.vs.flatMap BU++(p.rf.map (BD Cl)++(p.lt.map (BD Bp)++[]))):=by
  cases p.vs with
  |nil=>simpa using a2 exK (by decide) (by decide) (by decide)
  |cons v vs=>exact EQ (by decide) (by rw[Hr _ _ _ (by decide)];decide)
 have b1:=a2 Cm (by decide) (by decide) (by decide)
 have b2:=a2 Bt (by decide) (by decide) (by decide)
 have b3:=a2 partK (by decide) (by decide) (by decide)
 have b4:=a1 Cl (by decide) (by decide)
 rw[<-Yy (p.lt.map (BD Bp))] at b1 b2 b3 b4
 rw[e,DH,if_pos (Ew _ _ _),LG ph,YO,
  EP (g:=DS) (fun x hx=>⟨Ew _ _ _,LF (pe x hx).1⟩) a3,YO]
 simp only
 rw[I3 (fun v hv=>⟨(pv v hv).1,(pv v hv).2.1.1,fun x hx=>((pv v hv).2.2 x hx).2⟩) b1 b2 b3 (Zd _),YO]
 simp only
 rw[EP (g:=BD Cl) (fun c hc=>⟨Ew _ _ _,JQ (by decide) (pc c (by simp[hc])).1 (pc c (by simp[hc])).2.1⟩) b4,YO]
 simp only
 rw[EP (g:=BD Bp) (fun c hc=>⟨Ew _ _ _,JQ (by decide) (pc c (by simp[hc])).1 (pc c (by simp[hc])).2.1⟩) (Hu _)]
 rfl
def DZ (s:By):Option Po:=(lnsB s.length s).bind fun ls=>match DH ls with
 |some (p,[])=>some p
 |_=>none
theorem Kc {c:UInt8}(hc:c≠32):∀ {ws:List By},(∀ w∈ws,c∉w)->c∉joW ws
 |[],_=>by simp[joW]
 |[a],h=>h a (by simp)
 |a::b::l,h=>by
  have:=Kc hc (ws:=b::l) (fun w hw=>h w (by simp[Zn.1 hw]))
  have h2:=h a (by simp)
  rw[joW]
  simp[this,h2,hc]
theorem H5 {p:Po}(h:FK p):∀ l∈C9 p,(10:UInt8)∉l:=by
 obtain⟨ph,pe,pv,pc⟩:=h
 intro l hl
 unfold C9 at hl
 simp only[Zs,Zn,ZT,ZL] at hl
 have hk:∀ {ws:List By},(∀ w∈ws,(10:UInt8)∉w)->(10:UInt8)∉joW ws:=fun h=>Kc (by decide) h
 have ha:∀ (wd:By) (c:Ct),(10:UInt8)∉wd->c∈p.rf++p.lt->(10:UInt8)∉BD wd c:=fun wd c hw hc=>by
  have:=(pc c hc).2.2
  refine hk ?_
  simp[hw,EM,this]
 rcases hl with (((rfl | ⟨e,he,rfl⟩) | ⟨v,hv,hl⟩) | ⟨c,hc,rfl⟩) | ⟨c,hc,rfl⟩
 ·refine hk ?_
  simp[EM];decide
 ·have:=(pe e he).2
  refine hk ?_
  simp[EM,this];decide
 ·obtain⟨_,⟨_,hn⟩,hi⟩:=pv v hv
  unfold BU at hl
  simp only[Zn,ZL] at hl
  rcases hl with rfl | ⟨x,hx,hl⟩
  ·refine hk ?_
   have:(10:UInt8)∉Dm v.fx:=by cases v.fx<;>decide
   simp[EM,hn,this];decide
  ·obtain⟨⟨_,hb⟩,_⟩:=hi x hx
   unfold CG at hl
   simp only[Zn,ZT] at hl
   rcases hl with rfl | ⟨t,ht,rfl⟩
   ·refine hk ?_
    simp[hb];decide
   ·refine hk ?_
    simp[EM];decide
 ·exact ha _ _ (by decide) (by simp[hc])
 ·exact ha _ _ (by decide) (by simp[hc])
theorem Ht {p:Po}(h:FK p):lnsB (Bq p).length (Bq p)=some (C9 p):=by
 rw[EA]
 exact Hs (H5 h) (Zd _)
theorem FI {p:Po}(h:FK p):DZ (Bq p)=some p:=by
 unfold DZ
 rw[Ht h,YO,K4 h]
theorem GR {d:ByteArray}(h:nameB d=true):(32:UInt8)∉d.data.toList∧(10:UInt8)∉d.data.toList:=by
 simp only[nameB,Zf,List.all_eq_true] at h
 exact⟨fun hm=>by have:=h.2 _ hm;revert this;decide,fun hm=>by have:=h.2 _ hm;revert this;decide⟩
theorem KL {d:ByteArray}(h:Av d=true):(10:UInt8)∉d.data.toList:=fun hm=>by
 simp only[Av,plainB,Zf,List.all_eq_true] at h
 have:=h.2 _ hm
 revert this;decide
theorem GE {size:Int}:∀ {l:List Ex} {next:Int},xgo size next l=true->∀ e∈l,Av e.d=true
 |[],_,_=>by simp
 |e::r,next,h=>by
  simp only[xgo,Zf] at h
  intro x hx
  rcases Zn.1 hx with rfl | hx
  ·exact h.1.1.1
  ·exact GE h.2 x hx
theorem GB {next:Int}{e:List Ex}:∀ {l:List Vo} {last:Int},vgo next e last l=true->∀ v∈l,nameB v.nm=true
 |[],_,_=>by simp
 |v::r,last,h=>by
  simp only[vgo,Zf] at h
  intro x hx
  rcases Zn.1 hx with rfl | hx
  ·exact h.1.1.2
  ·exact GB h.2 x hx
theorem Kj {p:Pt}(h:Ao p=true)(hn:p.n<=100):AG p.a∧AG p.f∧AG p.n:=by
 unfold Ao at h
 unfold AG
 split at h
 ·rename_i ha
  simp only[Zf,ZU,beq_iff_eq] at h ha
  omega
 ·simp only[Zf,ZU] at h
  omega
theorem JT {c:Ct}(h:AI c.o=true)(h1:-1000<=c.n)(h2:c.n<=1000):(AG c.o.a∧AG c.o.v∧AG c.n)∧(32:UInt8)∉c.o.f.data.toList∧(10:UInt8)∉c.o.f.data.toList:=by
 simp only[AI,Zf,ZU] at h
 exact⟨by unfold AG;omega,GR h.2⟩
theorem Dz {p:Po}(h:At p=true):FK p:=by
 obtain⟨v1,v2,v3,v4,_⟩:=bL_ h
 obtain⟨s1,s2,s3,s4⟩:=cu_ v4
 obtain⟨r1,r2⟩:=Gv h
 have ha:1<=p.next:=by
  simp only[At,Zf,ZU] at h
  exact h.1.1.1.1.1.2
 have hE:=Fr s4 (by omega)
 have hV:=Fp v2 (by omega)
 simp only[AF,Zf,ZU] at r1
 simp only[AO,Zf,ZU,List.all_eq_true] at r2
 refine ⟨⟨⟨by omega,by omega⟩,⟨by omega,by omega⟩⟩,fun e he=>⟨by have:=hE e he;exact⟨by omega,by omega⟩,KL (GE s4 e he)⟩,fun v hv=>?_,fun c hc=>?_⟩
 ·obtain⟨a1,a2,_,_,a5⟩:=hV v hv
  refine ⟨⟨by omega,by omega⟩,GR (GB v2 v hv),fun x hx=>⟨GR (hR_ a5 x hx),fun t ht=>?_⟩⟩
  obtain⟨b1,b2⟩:=Fe a5 x hx
  simp only[Ae,Zf,ZU] at b2
  exact Kj (jR_ b2.2 (by omega) t ht).1 (jR_ b2.2 (by omega) t ht).2
 ·rcases Zs.1 hc with hc | hc
  ·have:=g1_ r1.2 c hc
   simp only[DD,Zf,ZU] at this
   exact JT this.1.1 (by omega) this.2
  ·have:=r2.2 c hc
   simp only[B9,Zf,ZU] at this
   exact JT this.1.1.1 this.1.1.2 this.1.2
noncomputable def ER (s:By):Option Po:=open Classical in if h:∃ p,At p=true∧s=Bq p then some (Classical.choose h) else none
theorem Kp {p q:Po}(hp:At p=true)(hq:At q=true)(h:Bq p=Bq q):p=q:=by
 have h1:=FI (Dz hp)
 rw[h,FI (Dz hq)] at h1
 exact (Zi h1).symm
theorem IU {p:Po}(hp:At p=true):ER (Bq p)=some p:=by
 unfold ER
 have h:∃ q,At q=true∧Bq p=Bq q:=⟨p,hp,rfl⟩
 rw[dif_pos h]
 exact congrArg some (Kp hp (Classical.choose_spec h).1 (Classical.choose_spec h).2).symm
end Go.Proofs.YtkkjdbfalpjhfaaGreatDoor
