/- A copy of items. -/
import Derived.Test.YtdmeabghpchckaaGreatDoorU16
set_option maxHeartbeats 20000000
set_option maxRecDepth 100000
namespace Go.Proofs.YtdmeabghpchckaaGreatDoor
open Go Go.RowKit Go.BigFrame Tryz
theorem Hk (x:It):∀ (L acc:List It),DH x (L.foldl (Bh x) (acc,true))=acc++L.filter (fun y=>!(y.nm.toList==x.nm.toList))
 |[],acc=>by simp[DH]
 |y::r,acc=>by
  rw[YE]
  cases he:(y.nm.toList==x.nm.toList)
  ·have:Bh x (acc,true) y=(acc++[y],true):=by simp only[Bh,he];rfl
   rw[this,Hk x r,ZH,he];simp
  ·have:Bh x (acc,true) y=(acc,true):=by simp only[Bh,he];simp
   rw[this,Hk x r,ZH,he];simp
theorem HO (x:It):∀ (L acc:List It),DH x (L.foldl (Bh x) (acc,false))=acc++L.takeWhile (fun y=>bl y.nm.toList x.nm.toList)++[x]++(L.dropWhile (fun y=>bl y.nm.toList x.nm.toList)).filter (fun y=>!(y.nm.toList==x.nm.toList))
 |[],acc=>by simp[DH]
 |y::r,acc=>by
  rw[YE]
  cases hb:bl y.nm.toList x.nm.toList
  ·cases he:(y.nm.toList==x.nm.toList)
   ·have:Bh x (acc,false) y=(acc++[x]++[y],true):=by simp only[Bh,he,hb];rfl
    rw[this,Hk x r,List.takeWhile_cons,List.dropWhile_cons,hb];simp[he]
   ·have:Bh x (acc,false) y=(acc++[x],true):=by simp only[Bh,he,hb];simp
    rw[this,Hk x r,List.takeWhile_cons,List.dropWhile_cons,hb];simp[he]
  ·have he:(y.nm.toList==x.nm.toList)=false:=by
    cases h:(y.nm.toList==x.nm.toList)
    ·rfl
    ·have h2:y.nm.toList=x.nm.toList:=by simpa using h
     rw[h2,cn_] at hb;cases hb
   have:Bh x (acc,false) y=(acc++[y],false):=by simp only[Bh,he,hb];rfl
   rw[this,HO x r,List.takeWhile_cons,List.dropWhile_cons,hb];simp
theorem d5_ {α:Type}(q:α->Bool)(l:List α):l.take (l.takeWhile q).length=l.takeWhile q∧l.drop (l.takeWhile q).length=l.dropWhile q:=by
 have h:=List.takeWhile_append_dropWhile (p:=q) (l:=l);constructor
 ·conv=>lhs;arg 2;rw[<-h]
  exact List.take_left
 ·conv=>lhs;arg 2;rw[<-h]
  exact List.drop_left
def plI (l:List It)(nm:ByteArray):Nat:=(l.takeWhile (fun y=>bl y.nm.toList nm.toList)).length
theorem mL_ {α:Type}(q:α->Bool):∀ (l:List α) (k:Nat) (y:α),l[k]?=some y->k<=(l.takeWhile q).length->(q y=true->k+1<=(l.takeWhile q).length)∧(q y=false->k=(l.takeWhile q).length)
 |[],k,y,h,_=>by simp at h
 |x::t,0,y,h,_=>by
  simp at h;subst h;rw[List.takeWhile_cons];exact⟨fun hq=>by rw[if_pos hq];simp,fun hq=>by rw[if_neg (by simp[hq])];rfl⟩
 |x::t,k+1,y,h,hk=>by
  rw[List.takeWhile_cons] at hk ⊢;by_cases hq:q x=true
  ·rw[if_pos hq] at hk ⊢;have ih:=mL_ q t k y (by simpa using h) (by simpa using hk);simp only[Zw];exact⟨fun e=>by have:=ih.1 e;omega,fun e=>by have:=ih.2 e;omega⟩
  ·rw[if_neg hq] at hk;simp at hk
theorem oq_ {l:List It}{nm:ByteArray}{k:Nat}{y:It}(h:l[k]?=some y)(hk:k<=plI l nm):(bl y.nm.toList nm.toList=true->k+1<=plI l nm)∧(bl y.nm.toList nm.toList=false->k=plI l nm):=mL_ _ l k y h hk
theorem p0_ (l:List It)(nm:ByteArray):plI l nm<=l.length:=(List.takeWhile_prefix _).length_le
theorem mM_ {l:List It}{x:It}(hr:EP l)(hn:∀ y,l[plI l x.nm]?=some y->¬ y.nm.toList=x.nm.toList):A9 x l=l.take (plI l x.nm)++[x]++l.drop (plI l x.nm):=by
 unfold A9;rw[HO,ZM];obtain⟨e1,e2⟩:=d5_ (fun y=>bl y.nm.toList x.nm.toList) l;show _=l.take (l.takeWhile _).length++[x]++l.drop (l.takeWhile _).length;rw[e1,e2];congr 1;rw[YA];intro z hz
 cases hd:l.dropWhile (fun y=>bl y.nm.toList x.nm.toList) with
 |nil=>rw[hd] at hz;cases hz
 |cons d t=>
  have ha:bl d.nm.toList x.nm.toList=false:=by
   have:=List.head_dropWhile_not (p:=fun y:It=>bl y.nm.toList x.nm.toList) (l:=l) (by rw[hd];simp)
   simpa[hd] using this
  have hb:l[plI l x.nm]?=some d:=by
   have:(l.drop (plI l x.nm))[0]?=some d:=by show (l.drop (l.takeWhile _).length)[0]?=_;rw[e2,hd];rfl
   simpa using this
  rw[hd] at hz;have hp:(d::t).Pairwise (fun a b:It=>bl a.nm.toList b.nm.toList=true):=by rw[<-hd];exact hr.sublist (List.dropWhile_sublist _)
  rcases Zn.1 hz with rfl | hz
  ·have:=hn z hb;simpa using this
  ·have h1:=(Ye.1 hp).1 z hz
   cases he:(z.nm.toList==x.nm.toList)
   ·rfl
   ·rw[beq_iff_eq] at he;rw[he,ha] at h1
    cases h1
theorem pD_ {l:List It}{x y:It}(hr:EP l)(hy:l[plI l x.nm]?=some y)(he:y.nm.toList=x.nm.toList):A9 x l=l.set (plI l x.nm) x:=by
 unfold A9;rw[HO,ZM];obtain⟨e1,e2⟩:=d5_ (fun y=>bl y.nm.toList x.nm.toList) l;have ha:=(Zb.1 hy).1;rw[List.set_eq_take_append_cons_drop,if_pos ha]
 have hd:l.dropWhile (fun y=>bl y.nm.toList x.nm.toList)=y::l.drop (plI l x.nm+1):=by
  rw[<-e2];show l.drop (plI l x.nm)=_;rw[List.drop_eq_getElem_cons ha];congr 1;simpa[ZI ha] using hy
 have hp:(y::l.drop (plI l x.nm+1)).Pairwise (fun a b:It=>bl a.nm.toList b.nm.toList=true):=by rw[<-hd];exact hr.sublist (List.dropWhile_sublist _)
 rw[hd,<-e1,ZH,if_neg (by simp[he])];show l.take (plI l x.nm)++[x]++_=_;rw[YA.2]
 ·simp
 ·intro z hz;have h1:=(Ye.1 hp).1 z hz
  cases hq:(z.nm.toList==x.nm.toList)
  ·rfl
  ·rw[beq_iff_eq] at hq;rw[hq,he,cn_] at h1
   cases h1
end Go.Proofs.YtdmeabghpchckaaGreatDoor
