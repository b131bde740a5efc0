/- Texts of pools, read and written; what is drawn. -/
import Derived.Test.YtkiceokhlceciaaGreatDoorU15
import Derived.Test.YtkiceokhlceciaaGreatDoorU30
set_option maxHeartbeats 20000000
set_option maxRecDepth 100000
namespace Go.Proofs.YtkiceokhlceciaaGreatDoor
open Go Tryz
theorem Cy (b:ByteArray):bA b.data.toList=b:=by cases b;simp[bA]
theorem Dj:∀ (a b:By) (k:Nat),Lib.decFrom k (a++b)=(Lib.decFrom k a).bind fun m=>Lib.decFrom m b
 |[],b,k=>rfl
 |x::a,b,k=>by
  simp only[YF,Lib.decFrom]
  cases Lib.digitVal x with
  |none=>rfl
  |some d=>exact Dj a b _
theorem HU {d:Nat}(h:d<10):Lib.digitVal (UInt8.ofNat (48+d))=some d:=by
 have e:(UInt8.ofNat (48+d)).toNat=48+d:=by simp;omega
 unfold Lib.digitVal
 rw[e,if_pos (by omega)]
 simp
theorem CH (n:Nat):Lib.decFrom 0 (Lib.decDigits n)=some n:=by
 induction n using Nat.strongRecOn with
 |_ n ih=>
  rw[Lib.decDigits]
  split
  ·next h=>simp only[Lib.decFrom,HU h];simp
  ·next h=>
   rw[Dj,ih (n / 10) (by omega)]
   simp only[YO,Lib.decFrom,HU (show n % 10<10 by omega)]
   congr 1
   omega
theorem Gh (n:Nat):Lib.decDigits n≠[]:=by
 rw[Lib.decDigits]
 split<;>simp
theorem HT {n:Nat}(h:(Lib.decDigits n).head?=some 48):n=0:=by
 induction n using Nat.strongRecOn with
 |_ n ih=>
  rw[Lib.decDigits] at h
  split at h
  ·next hn=>
   simp at h
   have:=congrArg UInt8.toNat h
   simp at this
   omega
  ·next hn=>
   obtain⟨x,l,hx⟩:∃ x l,Lib.decDigits (n / 10)=x::l:=by
    cases hc:Lib.decDigits (n / 10) with
    |nil=>exact absurd hc (Gh _)
    |cons x l=>exact⟨x,l,rfl⟩
   have:=ih (n / 10) (by omega) (by rw[hx] at h ⊢;simpa using h)
   omega
def numP (s:By):Option Int:=
 match s with
 |45::t=>if t.length<1∨10<t.length∨t.head?=some 48 then none else (Lib.decFrom 0 t).map fun (n:Nat)=>-(n:Int)
 |t=>if t.length<1∨10<t.length∨(t.head?=some 48∧1<t.length) then none else (Lib.decFrom 0 t).map fun (n:Nat)=>(n:Int)
def AK (n:Int):Prop:=-10000000000<n∧n<10000000000
theorem Hm (m:Nat):∀ k,k<10 ^ (m+1)->(Lib.decDigits k).length<=m+1:=by
 induction m with
 |zero=>intro k h;rw[Lib.decDigits,dif_pos (by omega)];simp
 |succ m ih=>
  intro k h
  rw[Lib.decDigits]
  split
  ·simp
  ·have:=ih (k / 10) (by rw[Nat.pow_succ] at h;omega)
   simp;omega
theorem Gg (n:Nat):∃ d r,Lib.decDigits n=UInt8.ofNat (48+d)::r∧d<10:=by
 induction n using Nat.strongRecOn with
 |_ n ih=>
  rw[Lib.decDigits]
  split
  ·next h=>exact⟨n,[],rfl,h⟩
  ·next h=>
   obtain⟨d,r,e,hd⟩:=ih (n / 10) (by omega)
   exact⟨d,r++[UInt8.ofNat (48+n % 10)],by rw[e];rfl,hd⟩
theorem KW {d:Nat}(h:d<10):UInt8.ofNat (48+d)≠45:=fun e=>by
 have:=congrArg UInt8.toNat e
 simp at this
 omega
theorem Gq {t:By}(h:t.head?≠some 45):numP t=if t.length<1∨10<t.length∨(t.head?=some 48∧1<t.length) then none else (Lib.decFrom 0 t).map fun (n:Nat)=>(n:Int):=by
 unfold numP
 split
 ·simp at h
 ·rfl
theorem Bg {n:Int}(h:AK n):numP (Lib.itoa n)=some n:=by
 obtain⟨h1,h2⟩:=h
 unfold Lib.itoa
 split
 ·next hn=>
  obtain⟨k,rfl⟩:∃ k:Nat,n=-(k:Int):=⟨n.natAbs,by omega⟩
  have e:(-(k:Int)).natAbs=k:=by omega
  rw[e]
  unfold numP
  simp only
  have l1:=Hm 9 k (by omega)
  have l2:=List.length_pos_iff.2 (Gh k)
  rw[if_neg,CH]
  ·rfl
  ·rintro (h | h | h)
   ·omega
   ·omega
   ·have:=HT h;omega
 ·next hn=>
  obtain⟨k,rfl⟩:∃ k:Nat,n=(k:Int):=⟨n.toNat,by omega⟩
  have e:(k:Int).toNat=k:=by omega
  rw[e]
  have l1:=Hm 9 k (by omega)
  have l2:=List.length_pos_iff.2 (Gh k)
  rw[Gq,if_neg,CH]
  ·rfl
  ·rintro (h | h | ⟨h,h'⟩)
   ·omega
   ·omega
   ·have:=HT h
    subst this
    rw[show Lib.decDigits 0=[48] by rw[Lib.decDigits];simp] at h'
    simp at h'
  ·obtain⟨d,r,e,hd⟩:=Gg k
   rw[e]
   simp only[List.head?_cons,ne_eq,Zo]
   exact KW hd
def cutB (c:UInt8):By->Option (By×By)
 |[]=>none
 |x::l=>if x=c then some ([],l) else (cutB c l).map fun q=>(x::q.1,q.2)
theorem Ca {c:UInt8}:∀ {a:By} (b:By),c∉a->cutB c (a++c::b)=some (a,b)
 |[],b,_=>by simp[cutB]
 |x::a,b,h=>by
  have h1:¬ x=c:=fun e=>h (by simp[e])
  have h2:c∉a:=fun e=>h (by simp[e])
  simp[cutB,h1,Ca b h2]
def A0:Nat->By->List By
 |0,l=>[l]
 |k+1,l=>match cutB 32 l with
  |none=>[l]
  |some q=>q.1::A0 k q.2
def joW:List By->By
 |[]=>[]
 |[a]=>a
 |a::b::l=>a++32::joW (b::l)
theorem Gw:∀ (ws:List By) (x:By),(∀ w∈ws,(32:UInt8)∉w)->A0 ws.length (joW (ws++[x]))=ws++[x]
 |[],x,_=>rfl
 |w::ws,x,h=>by
  have ih:=Gw ws x (fun w' hw=>h w' (by simp[hw]))
  have h1:joW (w::ws++[x])=w++32::joW (ws++[x]):=by
   cases ws with
   |nil=>rfl
   |cons a l=>rfl
  rw[h1,Zw,A0,Ca _ (h w (by simp))]
  simp[ih]
def ahP (wd l:By):Bool:=(wd++[32]).isPrefixOf l
theorem Hg {wd l:By}:ahP wd l=true↔∃ r,l=wd++32::r:=by
 unfold ahP
 rw[List.isPrefixOf_iff_prefix]
 constructor
 ·rintro⟨r,rfl⟩;exact⟨r,by simp⟩
 ·rintro⟨r,rfl⟩;exact⟨r,by simp⟩
theorem Kr {wd l:By}(h:ahP wd l=true)(hw:wd≠[]):l.head?=wd.head?:=by
 obtain⟨r,rfl⟩:=Hg.1 h
 cases wd with
 |nil=>exact absurd rfl hw
 |cons x t=>rfl
theorem EN (wd x:By)(l:List By):ahP wd (joW (wd::x::l))=true:=Hg.2 ⟨_,rfl⟩
def Db (ls:List By):By:=ls.flatMap (·++[10])
def lnsB:Nat->By->Option (List By)
 |0,s=>if s=[] then some [] else none
 |k+1,s=>if s=[] then some [] else match cutB 10 s with
  |none=>none
  |some q=>(lnsB k q.2).map (q.1::·)
theorem H3:∀ {k:Nat} {ls:List By},(∀ l∈ls,(10:UInt8)∉l)->(Db ls).length<=k->lnsB k (Db ls)=some ls
 |0,[],_,_=>rfl
 |k+1,[],_,_=>rfl
 |0,l::ls,_,h=>by simp[Db] at h
 |k+1,l::ls,h,hk=>by
  have e:Db (l::ls)=l++10::Db ls:=by simp[Db]
  rw[e] at hk
  simp only[ZE,Zw] at hk
  rw[e,lnsB,if_neg (by simp),Ca _ (h l (by simp))]
  simp[H3 (k:=k) (ls:=ls) (fun l' hl=>h l' (by simp[hl])) (by omega)]
theorem EU (a b:List By):Db (a++b)=Db a++Db b:=by simp[Db]
theorem CY (a:By)(b:List By):Db (a::b)=a++[10]++Db b:=by simp[Db]
theorem Dh:∀ (l:List ByteArray),CQ l=joW (l.map (·.data.toList))
 |[]=>rfl
 |[a]=>CJ a
 |a::b::l=>by
  rw[B6,Dh (b::l)]
  simp[joW]
def BA:By:=[112,111,111,108]
def exK:By:=[101,120,116,101,110,116]
def Cl:By:=[118,111,108,117,109,101]
def Bz:By:=[102,105,108,101]
def partK:By:=[112,97,114,116]
def B7:By:=[114,101,102]
def Bj:By:=[108,97,116,101]
def Cd (s:By):Option Bool:=if s=[48] then some false else if s=[49] then some true else none
def exP (l:By):Option Ex:=match A0 2 l with
 |[_,a,d]=>(numP a).map fun n=>⟨n,bA d⟩
 |_=>none
def ptP (l:By):Option Pt:=match A0 3 l with
 |[_,a,f,n]=>(numP a).bind fun a=>(numP f).bind fun f=>(numP n).map fun n=>⟨a,f,n⟩
 |_=>none
def fileP (l:By):Option ByteArray:=match A0 1 l with
 |[_,a]=>some (bA a)
 |_=>none
def voP (l:By):Option (Int×ByteArray×Bool):=match A0 3 l with
 |[_,i,nm,f]=>(numP i).bind fun i=>(Cd f).map fun f=>(i,bA nm,f)
 |_=>none
def ctP (l:By):Option Ct:=match A0 4 l with
 |[_,a,v,f,n]=>(numP a).bind fun a=>(numP v).bind fun v=>(numP n).map fun n=>⟨⟨a,v,bA f⟩,n⟩
 |_=>none
def hdP (l:By):Option (Int×Int):=match A0 2 l with
 |[_,a,b]=>(numP a).bind fun a=>(numP b).map fun b=>(a,b)
 |_=>none
def manyP {α:Type}(wd:By)(f:By->Option α):List By->Option (List α×List By)
 |[]=>some ([],[])
 |l::r=>if ahP wd l then (f l).bind fun x=>(manyP wd f r).map fun q=>(x::q.1,q.2) else some ([],l::r)
def itemsP:Nat->List By->Option (List It×List By)
 |0,ls=>some ([],ls)
 |_+1,[]=>some ([],[])
 |k+1,l::r=>if ahP Bz l then (fileP l).bind fun nm=>(manyP partK ptP r).bind fun q=>(itemsP k q.2).map fun s=>(⟨nm,q.1⟩::s.1,s.2) else some ([],l::r)
def volsP:Nat->List By->Option (List Vo×List By)
 |0,ls=>some ([],ls)
 |_+1,[]=>some ([],[])
 |k+1,l::r=>if ahP Cl l then (voP l).bind fun h=>(itemsP r.length r).bind fun q=>(volsP k q.2).map fun s=>(⟨h.1,h.2.1,h.2.2,q.1⟩::s.1,s.2) else some ([],l::r)
def Ea:List By->Option (Po×List By)
 |[]=>none
 |l::r=>if ahP BA l then (hdP l).bind fun h=>(manyP exK exP r).bind fun a=>(volsP a.2.length a.2).bind fun b=>(manyP B7 ctP b.2).bind fun c=>(manyP Bj ctP c.2).map fun d=>(⟨h.1,h.2,a.1,b.1,c.1,d.1⟩,d.2) else none
def DM (e:Ex):By:=joW [exK,Lib.itoa e.a,e.d.data.toList]
def FA (p:Pt):By:=joW [partK,Lib.itoa p.a,Lib.itoa p.f,Lib.itoa p.n]
def BX (x:It):List By:=joW [Bz,x.nm.data.toList]::x.ps.map FA
def Dm (b:Bool):By:=if b then [49] else [48]
def Bt (v:Vo):List By:=joW [Cl,Lib.itoa v.id,v.nm.data.toList,Dm v.fx]::v.its.flatMap BX
def Bu (wd:By)(c:Ct):By:=joW [wd,Lib.itoa c.o.a,Lib.itoa c.o.v,c.o.f.data.toList,Lib.itoa c.n]
def Ch (p:Po):List By:=joW [BA,Lib.itoa p.size,Lib.itoa p.next]::p.ex.map DM++p.vs.flatMap Bt++p.rf.map (Bu B7)++p.lt.map (Bu Bj)
theorem EW {α:Type}{f:α->By}{g:α->By}(h:∀ x,g x=f x++[10])(l:List α):Db (l.map f)=l.flatMap g:=by
 induction l with
 |nil=>rfl
 |cons x l ih=>rw[YD,CY,ih,ZF,h]
theorem GK {α:Type}{f:α->List By}{g:α->By}(h:∀ x,g x=Db (f x))(l:List α):Db (l.flatMap f)=l.flatMap g:=by
 induction l with
 |nil=>rfl
 |cons x l ih=>rw[ZF,EU,ih,ZF,h]
theorem Cb (n:Int):(AF n).data.toList=Lib.itoa n:=by simp[AF]
theorem LC (e:Ex):Ah (exW e)=DM e++[10]:=by
 unfold Ah exW DM;rw[Dh];simp[Cb];rfl
theorem LR (p:Pt):Ah (ptW p)=FA p++[10]:=by
 unfold Ah ptW FA;rw[Dh];simp[Cb];rfl
theorem HO (w:ByteArray)(c:Ct):Ah (ctL w c)=Bu w.data.toList c++[10]:=by
 unfold Ah ctL Bu;rw[Dh];simp[Cb]
theorem KO (x:It):itW x=Db (BX x):=by
 unfold itW BX AT
 rw[CY,EW LR]
 unfold Ah;rw[Dh];rfl
theorem JX (b:Bool):(Gi b).data.toList=Dm b:=by cases b<;>rfl
theorem Le (v:Vo):Dr v=Db (Bt v):=by
 unfold Dr Bt BY
 rw[CY,GK KO]
 unfold Ah voW;rw[Dh];simp[Cb,JX];rfl
theorem DY (p:Po):AO p=Db (Ch p):=by
 unfold AO Ch DN B2 BC
 rw[EU,EU,EU,CY,EW LC,GK Le,EW (f:=Bu B7) (HO DE),EW (f:=Bu Bj) (HO B5)]
 unfold Ah hdW;rw[Dh];simp[Cb];rfl
theorem Jb {n:Int}{c:UInt8}(h1:c≠45)(h2:c.toNat<48):c∉Lib.itoa n:=by
 have hd:∀ k:Nat,c∉Lib.decDigits k:=fun k=>by
  induction k using Nat.strongRecOn with
  |_ k ih=>
   rw[Lib.decDigits]
   have h3:∀ d:Nat,d<10->c≠UInt8.ofNat (48+d):=fun d hd e=>by
    have:=congrArg UInt8.toNat e
    simp at this
    omega
   split
   ·next h=>simpa using h3 k h
   ·next h=>
    intro hm
    rcases Zs.1 hm with e | e
    ·exact ih (k / 10) (by omega) e
    ·exact h3 (k % 10) (by omega) (by simpa using e)
 unfold Lib.itoa
 split
 ·intro hm
  rcases Zn.1 hm with e | e
  ·exact h1 e
  ·exact hd _ e
 ·exact hd _
theorem BM (n:Int):(32:UInt8)∉Lib.itoa n:=Jb (by decide) (by decide)
theorem Fc (n:Int):(10:UInt8)∉Lib.itoa n:=Jb (by decide) (by decide)
structure Gb (p:Po):Prop where
 hd:AK p.size∧AK p.next
 ex:∀ e∈p.ex,AK e.a∧(10:UInt8)∉e.d.data.toList
 vs:∀ v∈p.vs,AK v.id∧((32:UInt8)∉v.nm.data.toList∧(10:UInt8)∉v.nm.data.toList)∧∀ x∈v.its,((32:UInt8)∉x.nm.data.toList∧(10:UInt8)∉x.nm.data.toList)∧∀ t∈x.ps,AK t.a∧AK t.f∧AK t.n
 ct:∀ c∈p.rf++p.lt,(AK c.o.a∧AK c.o.v∧AK c.n)∧(32:UInt8)∉c.o.f.data.toList∧(10:UInt8)∉c.o.f.data.toList
theorem Na {a b c:By}(ha:(32:UInt8)∉a)(hb:(32:UInt8)∉b):A0 2 (joW [a,b,c])=[a,b,c]:=Gw [a,b] c (by simp[ha,hb])
theorem Nm {a b:By}(ha:(32:UInt8)∉a):A0 1 (joW [a,b])=[a,b]:=Gw [a] b (by simp[ha])
theorem Nb {a b c d:By}(ha:(32:UInt8)∉a)(hb:(32:UInt8)∉b)(hc:(32:UInt8)∉c):A0 3 (joW [a,b,c,d])=[a,b,c,d]:=Gw [a,b,c] d (by simp[ha,hb,hc])
theorem Nn {a b c d e:By}(ha:(32:UInt8)∉a)(hb:(32:UInt8)∉b)(hc:(32:UInt8)∉c)(hd:(32:UInt8)∉d):A0 4 (joW [a,b,c,d,e])=[a,b,c,d,e]:=Gw [a,b,c,d] e (by simp[ha,hb,hc,hd])
theorem Mw {e:Ex}(h:AK e.a):exP (DM e)=some e:=by
 unfold exP DM
 rw[Na (by decide) (BM _)]
 simp[Bg h,Cy]
theorem MC {p:Pt}(h:AK p.a∧AK p.f∧AK p.n):ptP (FA p)=some p:=by
 unfold ptP FA
 rw[Nb (by decide) (BM _) (BM _)]
 simp[Bg h.1,Bg h.2.1,Bg h.2.2]
theorem KE (b:ByteArray):fileP (joW [Bz,b.data.toList])=some b:=by
 unfold fileP
 rw[Nm (by decide)]
 simp[Cy]
theorem KF (b:Bool):Cd (Dm b)=some b:=by cases b<;>rfl
theorem MH {v:Vo}(h:AK v.id)(h2:(32:UInt8)∉v.nm.data.toList):voP (joW [Cl,Lib.itoa v.id,v.nm.data.toList,Dm v.fx])=some (v.id,v.nm,v.fx):=by
 unfold voP
 rw[Nb (by decide) (BM _) h2]
 simp[Bg h,Cy,KF]
theorem Kv {wd:By}{c:Ct}(hw:(32:UInt8)∉wd)(h:AK c.o.a∧AK c.o.v∧AK c.n)(h2:(32:UInt8)∉c.o.f.data.toList):ctP (Bu wd c)=some c:=by
 unfold ctP Bu
 rw[Nn hw (BM _) (BM _) h2]
 simp[Bg h.1,Bg h.2.1,Bg h.2.2,Cy]
theorem Mx {a b:Int}(h:AK a∧AK b):hdP (joW [BA,Lib.itoa a,Lib.itoa b])=some (a,b):=by
 unfold hdP
 rw[Na (by decide) (BM _)]
 simp[Bg h.1,Bg h.2]
def EG (wd:By)(ls:List By):Prop:=∀ l r,ls=l::r->ahP wd l=false
theorem H5 (wd:By):EG wd []:=fun l r h=>by cases h
theorem Fg {wd l:By}{r:List By}(hw:wd≠[])(h:l.head?≠wd.head?):EG wd (l::r):=fun l' r' e=>by
 obtain⟨rfl,rfl⟩:=List.cons.inj e
 cases hc:ahP wd l with
 |false=>rfl
 |true=>exact absurd (Kr hc hw) h
theorem Ff {α:Type}{wd:By}{f:By->Option α}{g:α->By}:∀ {xs:List α} {r:List By},(∀ x∈xs,ahP wd (g x)=true∧f (g x)=some x)->EG wd r->manyP wd f (xs.map g++r)=some (xs,r)
 |[],[],_,_=>rfl
 |[],l::r,_,h=>by
  show manyP wd f (l::r)=_
  rw[manyP,h l r rfl];rfl
 |x::xs,r,h,hr=>by
  obtain⟨h1,h2⟩:=h x (by simp)
  show manyP wd f (g x::(xs.map g++r))=_
  rw[manyP,if_pos h1,h2,YO,Ff (fun y hy=>h y (by simp[hy])) hr]
  rfl
theorem H2 (w x:By)(l:List By)(hw:w≠[]):(joW (w::x::l)).head?=w.head?:=by
 cases w with
 |nil=>exact absurd rfl hw
 |cons a t=>rfl
theorem H1:∀ {xs:List It} {r:List By} {k:Nat},(∀ x∈xs,∀ t∈x.ps,AK t.a∧AK t.f∧AK t.n)->EG Bz r->EG partK r->(xs.flatMap BX++r).length<=k->itemsP k (xs.flatMap BX++r)=some (xs,r)
 |[],[],0,_,_,_,_=>rfl
 |[],[],k+1,_,_,_,_=>rfl
 |[],l::r,0,_,_,_,h=>by simp at h
 |[],l::r,k+1,_,h,_,_=>by
  show itemsP (k+1) (l::r)=_
  rw[itemsP,h l r rfl];rfl
 |x::xs,r,0,_,_,_,h=>by simp[BX] at h
 |x::xs,r,k+1,h,h1,h2,hk=>by
  have e:(x::xs).flatMap BX++r=joW [Bz,x.nm.data.toList]::(x.ps.map FA++(xs.flatMap BX++r)):=by simp[BX]
  rw[e] at hk ⊢
  have hn:EG partK (xs.flatMap BX++r):=by
   cases xs with
   |nil=>exact h2
   |cons y ys=>exact Fg (by decide) (by rw[H2 _ _ _ (by decide)];decide)
  rw[itemsP,if_pos (EN _ _ _),KE,YO,Ff (g:=FA) (fun t ht=>⟨EN _ _ _,MC (h x (by simp) t ht)⟩) hn,YO]
  simp only
  rw[H1 (fun y hy=>h y (by simp[hy])) h1 h2 (by simp at hk ⊢;omega)]
  rfl
theorem JL:∀ {vs:List Vo} {r:List By} {k:Nat},(∀ v∈vs,AK v.id∧((32:UInt8)∉v.nm.data.toList)∧∀ x∈v.its,∀ t∈x.ps,AK t.a∧AK t.f∧AK t.n)->EG Cl r->EG Bz r->EG partK r->(vs.flatMap Bt++r).length<=k->volsP k (vs.flatMap Bt++r)=some (vs,r)
 |[],[],0,_,_,_,_,_=>rfl
 |[],[],k+1,_,_,_,_,_=>rfl
 |[],l::r,0,_,_,_,_,h=>by simp at h
 |[],l::r,k+1,_,h,_,_,_=>by
  show volsP (k+1) (l::r)=_
  rw[volsP,h l r rfl];rfl
 |v::vs,r,0,_,_,_,_,h=>by simp[Bt] at h
 |v::vs,r,k+1,h,h1,h2,h3,hk=>by
  have e:(v::vs).flatMap Bt++r=joW [Cl,Lib.itoa v.id,v.nm.data.toList,Dm v.fx]::(v.its.flatMap BX++(vs.flatMap Bt++r)):=by simp[Bt]
  rw[e] at hk ⊢
  obtain⟨n1,n2,n3⟩:=h v (by simp)
  have hn:EG Bz (vs.flatMap Bt++r)∧EG partK (vs.flatMap Bt++r):=by
   cases vs with
   |nil=>exact⟨h2,h3⟩
   |cons y ys=>exact⟨Fg (by decide) (by rw[H2 _ _ _ (by decide)];decide),Fg (by decide) (by rw[H2 _ _ _ (by decide)];decide)⟩
  rw[volsP,if_pos (EN _ _ _),MH n1 n2,YO,H1 n3 hn.1 hn.2 (Zd _),YO]
  simp only
  rw[JL (fun y hy=>h y (by simp[hy])) h1 h2 h3 (by simp at hk ⊢;omega)]
  rfl
theorem Jj {wd w2:By}{l:List Ct}{r:List By}(hw:wd≠[])(h2:w2≠[])(h:w2.head?≠wd.head?)(hr:EG wd r):EG wd (l.map (Bu w2)++r):=by
 cases l with
 |nil=>exact hr
 |cons c l=>exact Fg hw (by rw[Bu,H2 _ _ _ h2];exact h)
theorem LQ {p:Po}(h:Gb p):Ea (Ch p)=some (p,[]):=by
 obtain⟨ph,pe,pv,pc⟩:=h
 have a1:∀ wd:By,wd≠[]->wd.head?≠some 108->EG wd (p.lt.map (Bu Bj)):=fun wd hw hh=>by
  have:=Jj (l:=p.lt) (r:=[]) hw (show Bj≠[] by decide) (fun e=>hh e.symm) (H5 _)
  simpa using this
 have a2:∀ wd:By,wd≠[]->wd.head?≠some 108->wd.head?≠some 114->EG wd (p.rf.map (Bu B7)++p.lt.map (Bu Bj)):=fun wd hw hh hg=>Jj hw (show B7≠[] by decide) (fun e=>hg e.symm) (a1 wd hw hh)
 have e:Ch p=joW [BA,Lib.itoa p.size,Lib.itoa p.next]::(p.ex.map DM++(p.vs.flatMap Bt++(p.rf.map (Bu B7)++(p.lt.map (Bu Bj)++[])))):=by simp[Ch]
 have a3:EG exK (p.vs.flatMap Bt++(p.rf.map (Bu B7)++(p.lt.map (Bu Bj)++[]))):=by
  cases p.vs with
  |nil=>simpa using a2 exK (by decide) (by decide) (by decide)
  |cons v vs=>exact Fg (by decide) (by rw[H2 _ _ _ (by decide)];decide)
 have b1:=a2 Cl (by decide) (by decide) (by decide)
 have b2:=a2 Bz (by decide) (by decide) (by decide)
 have b3:=a2 partK (by decide) (by decide) (by decide)
 have b4:=a1 B7 (by decide) (by decide)
 rw[<-Yy (p.lt.map (Bu Bj))] at b1 b2 b3 b4
 rw[e,Ea,if_pos (EN _ _ _),Mx ph,YO,
  Ff (g:=DM) (fun x hx=>⟨EN _ _ _,Mw (pe x hx).1⟩) a3,YO]
 simp only
 rw[JL (fun v hv=>⟨(pv v hv).1,(pv v hv).2.1.1,fun x hx=>((pv v hv).2.2 x hx).2⟩) b1 b2 b3 (Zd _),YO]
 simp only
 rw[Ff (g:=Bu B7) (fun c hc=>⟨EN _ _ _,Kv (by decide) (pc c (by simp[hc])).1 (pc c (by simp[hc])).2.1⟩) b4,YO]
 simp only
 rw[Ff (g:=Bu Bj) (fun c hc=>⟨EN _ _ _,Kv (by decide) (pc c (by simp[hc])).1 (pc c (by simp[hc])).2.1⟩) (H5 _)]
 rfl
def Eb (s:By):Option Po:=(lnsB s.length s).bind fun ls=>match Ea ls with
 |some (p,[])=>some p
 |_=>none
theorem KT {c:UInt8}(hc:c≠32):∀ {ws:List By},(∀ w∈ws,c∉w)->c∉joW ws
 |[],_=>by simp[joW]
 |[a],h=>h a (by simp)
 |a::b::l,h=>by
  have:=KT hc (ws:=b::l) (fun w hw=>h w (by simp[Zn.1 hw]))
  have h2:=h a (by simp)
  rw[joW]
  simp[this,h2,hc]
theorem IJ {p:Po}(h:Gb p):∀ l∈Ch p,(10:UInt8)∉l:=by
 obtain⟨ph,pe,pv,pc⟩:=h
 intro l hl
 unfold Ch at hl
 simp only[Zs,Zn,ZT,ZL] at hl
 have hk:∀ {ws:List By},(∀ w∈ws,(10:UInt8)∉w)->(10:UInt8)∉joW ws:=fun h=>KT (by decide) h
 have ha:∀ (wd:By) (c:Ct),(10:UInt8)∉wd->c∈p.rf++p.lt->(10:UInt8)∉Bu wd c:=fun wd c hw hc=>by
  have:=(pc c hc).2.2
  refine hk ?_
  simp[hw,Fc,this]
 rcases hl with (((rfl | ⟨e,he,rfl⟩) | ⟨v,hv,hl⟩) | ⟨c,hc,rfl⟩) | ⟨c,hc,rfl⟩
 ·refine hk ?_
  simp[Fc];decide
 ·have:=(pe e he).2
  refine hk ?_
  simp[Fc,this];decide
 ·obtain⟨_,⟨_,hn⟩,hi⟩:=pv v hv
  unfold Bt at hl
  simp only[Zn,ZL] at hl
  rcases hl with rfl | ⟨x,hx,hl⟩
  ·refine hk ?_
   have:(10:UInt8)∉Dm v.fx:=by cases v.fx<;>decide
   simp[Fc,hn,this];decide
  ·obtain⟨⟨_,hb⟩,_⟩:=hi x hx
   unfold BX at hl
   simp only[Zn,ZT] at hl
   rcases hl with rfl | ⟨t,ht,rfl⟩
   ·refine hk ?_
    simp[hb];decide
   ·refine hk ?_
    simp[Fc];decide
 ·exact ha _ _ (by decide) (by simp[hc])
 ·exact ha _ _ (by decide) (by simp[hc])
theorem H4 {p:Po}(h:Gb p):lnsB (AO p).length (AO p)=some (Ch p):=by
 rw[DY]
 exact H3 (IJ h) (Zd _)
theorem F8 {p:Po}(h:Gb p):Eb (AO p)=some p:=by
 unfold Eb
 rw[H4 h,YO,LQ h]
theorem Hr {d:ByteArray}(h:nameB d=true):(32:UInt8)∉d.data.toList∧(10:UInt8)∉d.data.toList:=by
 simp only[nameB,Zf,List.all_eq_true] at h
 exact⟨fun hm=>by have:=h.2 _ hm;revert this;decide,fun hm=>by have:=h.2 _ hm;revert this;decide⟩
theorem Lz {d:ByteArray}(h:Aw d=true):(10:UInt8)∉d.data.toList:=fun hm=>by
 simp only[Aw,plainB,Zf,List.all_eq_true] at h
 have:=h.2 _ hm
 revert this;decide
theorem Hb {size:Int}:∀ {l:List Ex} {next:Int},xgo size next l=true->∀ e∈l,Aw e.d=true
 |[],_,_=>by simp
 |e::r,next,h=>by
  simp only[xgo,Zf] at h
  intro x hx
  rcases Zn.1 hx with rfl | hx
  ·exact h.1.1.1
  ·exact Hb h.2 x hx
theorem G8 {next:Int}{e:List Ex}:∀ {l:List Vo} {last:Int},vgo next e last l=true->∀ v∈l,nameB v.nm=true
 |[],_,_=>by simp
 |v::r,last,h=>by
  simp only[vgo,Zf] at h
  intro x hx
  rcases Zn.1 hx with rfl | hx
  ·exact h.1.1.2
  ·exact G8 h.2 x hx
theorem KZ {p:Pt}(h:Ao p=true)(hn:p.n<=100):AK p.a∧AK p.f∧AK p.n:=by
 unfold Ao at h
 unfold AK
 split at h
 ·rename_i ha
  simp only[Zf,ZU,beq_iff_eq] at h ha
  omega
 ·simp only[Zf,ZU] at h
  omega
theorem Ky {c:Ct}(h:AN c.o=true)(h1:-1000<=c.n)(h2:c.n<=1000):(AK c.o.a∧AK c.o.v∧AK c.n)∧(32:UInt8)∉c.o.f.data.toList∧(10:UInt8)∉c.o.f.data.toList:=by
 simp only[AN,Zf,ZU] at h
 exact⟨by unfold AK;omega,Hr h.2⟩
theorem DQ {p:Po}(h:Ap p=true):Gb p:=by
 obtain⟨v1,v2,v3,v4,_⟩:=bL_ h
 obtain⟨s1,s2,s3,s4⟩:=cu_ v4
 obtain⟨r1,r2⟩:=GY h
 have ha:1<=p.next:=by
  simp only[Ap,Zf,ZU] at h
  exact h.1.1.1.1.1.2
 have hE:=FH s4 (by omega)
 have hV:=FF v2 (by omega)
 simp only[AI,Zf,ZU] at r1
 simp only[AR,Zf,ZU,List.all_eq_true] at r2
 refine ⟨⟨⟨by omega,by omega⟩,⟨by omega,by omega⟩⟩,fun e he=>⟨by have:=hE e he;exact⟨by omega,by omega⟩,Lz (Hb s4 e he)⟩,fun v hv=>?_,fun c hc=>?_⟩
 ·obtain⟨a1,a2,_,_,a5⟩:=hV v hv
  refine ⟨⟨by omega,by omega⟩,Hr (G8 v2 v hv),fun x hx=>⟨Hr (hR_ a5 x hx),fun t ht=>?_⟩⟩
  obtain⟨b1,b2⟩:=Fu a5 x hx
  simp only[Ae,Zf,ZU] at b2
  exact KZ (jR_ b2.2 (by omega) t ht).1 (jR_ b2.2 (by omega) t ht).2
 ·rcases Zs.1 hc with hc | hc
  ·have:=g1_ r1.2 c hc
   simp only[DU,Zf,ZU] at this
   exact Ky this.1.1 (by omega) this.2
  ·have:=r2.2 c hc
   simp only[Ce,Zf,ZU] at this
   exact Ky this.1.1.1 this.1.1.2 this.1.2
noncomputable def Fh (s:By):Option Po:=open Classical in if h:∃ p,Ap p=true∧s=AO p then some (Classical.choose h) else none
theorem K9 {p q:Po}(hp:Ap p=true)(hq:Ap q=true)(h:AO p=AO q):p=q:=by
 have h1:=F8 (DQ hp)
 rw[h,F8 (DQ hq)] at h1
 exact (Zi h1).symm
theorem JA {p:Po}(hp:Ap p=true):Fh (AO p)=some p:=by
 unfold Fh
 have h:∃ q,Ap q=true∧AO p=AO q:=⟨p,hp,rfl⟩
 rw[dif_pos h]
 exact congrArg some (K9 hp (Classical.choose_spec h).1 (Classical.choose_spec h).2).symm
end Go.Proofs.YtkiceokhlceciaaGreatDoor
