/- A shelf against a list of files: putting in. Pieces with one more; names that still rise. A shelf against a list of files: the three changes. Putting one row into a slice of the call's own: the cells. -/
import Derived.Test.YtigldeccfpkdmaaGreatDoorK27
import Derived.Lib.AppendZerosOnto
import Derived.Lib.Overlaps
import Derived.Laws.CopyOwn
import Derived.Laws.NewBlocks
namespace Go.Proofs.YtigldeccfpkdmaaGreatDoor
open Go Go.RowKit
set_option maxHeartbeats 20000000
set_option maxRecDepth 100000
theorem putT (x:Fl):∀ (L acc:List Fl),putE x (L.foldl (putS x) (acc,true))=acc++L.filter (fun y=>!(y.nm.toList==x.nm.toList))
 |[],acc=>by simp [putE]
 |y::r,acc=>by
  rw [List.foldl_cons]
  cases he:(y.nm.toList==x.nm.toList)
  ·have:putS x (acc,true) y=(acc++[y],true):=by simp only [putS,he];rfl
   rw [this,putT x r,List.filter_cons,he];simp
  ·have:putS x (acc,true) y=(acc,true):=by simp only [putS,he];simp
   rw [this,putT x r,List.filter_cons,he];simp
theorem putW (x:Fl):∀ (L acc:List Fl),putE x (L.foldl (putS x) (acc,false))=acc++L.takeWhile (fun y=>bl y.nm.toList x.nm.toList)++[x]++(L.dropWhile (fun y=>bl y.nm.toList x.nm.toList)).filter (fun y=>!(y.nm.toList==x.nm.toList))
 |[],acc=>by simp [putE]
 |y::r,acc=>by
  rw [List.foldl_cons]
  cases hb:bl y.nm.toList x.nm.toList
  ·cases he:(y.nm.toList==x.nm.toList)
   ·have:putS x (acc,false) y=(acc++[x]++[y],true):=by simp only [putS,he,hb];rfl
    rw [this,putT x r,List.takeWhile_cons,List.dropWhile_cons,hb];simp [he]
   ·have:putS x (acc,false) y=(acc++[x],true):=by simp only [putS,he,hb];simp
    rw [this,putT x r,List.takeWhile_cons,List.dropWhile_cons,hb];simp [he]
  ·have he:(y.nm.toList==x.nm.toList)=false:=by
    cases h:(y.nm.toList==x.nm.toList)
    ·rfl
    ·have h2:y.nm.toList=x.nm.toList:=by simpa using h
     rw [h2,bV_] at hb;cases hb
   have:putS x (acc,false) y=(acc++[y],false):=by simp only [putS,he,hb];rfl
   rw [this,putW x r,List.takeWhile_cons,List.dropWhile_cons,hb];simp
theorem cb_ {α:Type} (q:α->Bool) (l:List α):l.take (l.takeWhile q).length=l.takeWhile q∧l.drop (l.takeWhile q).length=l.dropWhile q:=by
 have h:=List.takeWhile_append_dropWhile (p:=q) (l:=l)
 constructor
 ·conv=>lhs;arg 2;rw [<-h]
  exact List.take_left
 ·conv=>lhs;arg 2;rw [<-h]
  exact List.drop_left
/-- Putting a file whose name none has. -/
theorem pf_ {l:List Hy} (hs:SrtH l) (y:Hy) (hh:hasH l y.nm=false):putF (toldF y) (l.map toldF)=(l.take (plH l y.nm)++[y]++l.drop (plH l y.nm)).map toldF:=by
 unfold putF
 rw [putW,List.nil_append]
 have h1:=cb_ (fun z:Hy=>bl z.nm.toList y.nm.toList) l
 have hc:((l.map toldF).dropWhile (fun z=>bl z.nm.toList (toldF y).nm.toList)).filter (fun z=>!(z.nm.toList==(toldF y).nm.toList))=(l.map toldF).dropWhile (fun z=>bl z.nm.toList (toldF y).nm.toList):=by
  refine List.filter_eq_self.2 fun z hz=>?_
  have hz2:=(List.dropWhile_suffix _).subset hz
  have:=hz_ hs hh
  unfold cutF at this
  exact List.filter_eq_self.1 this z hz2
 rw [hc,List.takeWhile_map,List.dropWhile_map,List.map_append,List.map_append]
 show _=List.map toldF (l.take (plH l y.nm))++[toldF y]++List.map toldF (l.drop (plH l y.nm))
 unfold plH
 rw [h1.1,h1.2]
 rfl
theorem mJ_:∀ (X:List (List UInt8)),Lib.join X []=X.flatten
 |[]=>rfl
 |x::r=>by
  rw [Lib.join_cons]
  have h:∀ R:List (List UInt8),Lib.joinTail [] R=R.flatten:=fun R=>by
   induction R with
   |nil=>rfl
   |cons y s ih=>simp [Lib.joinTail] at ih ⊢
  rw [h];simp
theorem f9_ (ps:List ByteArray):(joinB ps).data.toList=(ps.map (·.data.toList)).flatten:=by
 unfold joinB
 rw [mJ_]
theorem ga_ (ps:List ByteArray) (d:ByteArray):joinB (ps++[d])=joinB ps++d:=by
 apply ByteArray.ext
 apply Array.toList_inj.1
 rw [f9_,ByteArray.data_append,Array.toList_append,f9_]
 simp
theorem kR_ {α:Type} (q:α->Bool):∀ (l:List α) (x:α),x∈l.takeWhile q->q x=true
 |[],x,h=>by simp at h
 |y::r,x,h=>by
  cases hy:q y
  ·rw [List.takeWhile_cons,hy] at h;simp at h
  ·rw [List.takeWhile_cons,hy] at h
   simp at h
   rcases h with rfl | h
   ·exact hy
   ·exact kR_ q r x h
theorem h9_ {α:Type} (q:α->Bool):∀ (l:List α) (x:α),(l.dropWhile q)[0]?=some x->q x=false
 |[],x,h=>by simp at h
 |y::r,x,h=>by
  cases hy:q y
  ·rw [List.dropWhile_cons,hy] at h
   simp at h
   rw [<-h];exact hy
  ·rw [List.dropWhile_cons,hy] at h
   exact h9_ q r x h
theorem SrtH.put {l:List Hy} (hs:SrtH l) (y:Hy) (hh:hasH l y.nm=false):SrtH (l.take (plH l y.nm)++[y]++l.drop (plH l y.nm)):=by
 have h1:=cb_ (fun z:Hy=>bl z.nm.toList y.nm.toList) l
 have hp:plH l y.nm<=l.length:=by
  unfold plH
  exact (List.takeWhile_sublist _).length_le
 have hlo:∀ (t:Nat) x,t<plH l y.nm->l[t]?=some x->bl x.nm.toList y.nm.toList=true:=by
  intro t x ht hx
  have hm:x∈l.takeWhile (fun z:Hy=>bl z.nm.toList y.nm.toList):=by
   rw [<-h1.1]
   refine List.mem_iff_getElem?.2 ⟨t,?_⟩
   rw [List.getElem?_take]
   unfold plH at ht
   simp [ht,hx]
  exact kR_ (fun z:Hy=>bl z.nm.toList y.nm.toList) l x hm
 have hne:∀ (t:Nat) x,l[t]?=some x->x.nm.toList≠y.nm.toList:=fun t x hx he=>by rw [kQ_ hs hx he] at hh;cases hh
 have hhi:∀ (t:Nat) x,plH l y.nm<=t->l[t]?=some x->bl y.nm.toList x.nm.toList=true:=by
  intro t x ht hx
  cases hb:bl x.nm.toList y.nm.toList
  ·exact dT_ hb (hne t x hx)
  ·exfalso
   -- all ahead of t are less too: so the first one that is not lies behind t
   have hlt:plH l y.nm<l.length:=by have:=(List.getElem?_eq_some_iff.1 hx).1;omega
   obtain ⟨z,hz⟩:∃ z,l[plH l y.nm]?=some z:=⟨_,List.getElem?_eq_getElem hlt⟩
   have hzb:bl z.nm.toList y.nm.toList=true:=by
    by_cases he:plH l y.nm=t
    ·rw [he,hx] at hz;cases hz;exact hb
    ·exact cr_ (hs _ t z x (by omega) hz hx) hb
   have hd:(l.dropWhile (fun z:Hy=>bl z.nm.toList y.nm.toList))[0]?=some z:=by
    rw [<-h1.2,List.getElem?_drop]
    simpa [plH] using hz
   have hnot:=h9_ (fun z:Hy=>bl z.nm.toList y.nm.toList) l z hd
   rw [hzb] at hnot;cases hnot
 have hcase:∀ (i:Nat) x,(l.take (plH l y.nm)++[y]++l.drop (plH l y.nm))[i]?=some x->(i<plH l y.nm∧l[i]?=some x)∨(i=plH l y.nm∧x=y)∨(plH l y.nm<i∧l[i-1]?=some x):=by
  intro i x hx
  have hlt:(l.take (plH l y.nm)).length=plH l y.nm:=by simp;omega
  rw [List.append_assoc] at hx
  by_cases h1:i<plH l y.nm
  ·rw [List.getElem?_append_left (by omega),List.getElem?_take] at hx
   exact .inl ⟨h1,by simpa [h1] using hx⟩
  ·rw [List.getElem?_append_right (by omega),hlt] at hx
   by_cases h2:i=plH l y.nm
   ·rw [h2] at hx
    simp at hx
    exact .inr (.inl ⟨h2,hx.symm⟩)
   ·obtain ⟨k,hk⟩:∃ k,i-plH l y.nm=k+1:=⟨i-plH l y.nm-1,by omega⟩
    rw [hk] at hx
    simp only [List.singleton_append,List.getElem?_cons_succ,List.getElem?_drop] at hx
    exact .inr (.inr ⟨by omega,by rw [show i-1=plH l y.nm+k by omega];exact hx⟩)
 intro i j x z hij hx hz
 rcases hcase i x hx with ⟨a1,a2⟩ | ⟨a1,rfl⟩ | ⟨a1,a2⟩<;>rcases hcase j z hz with ⟨b1,b2⟩ | ⟨b1,rfl⟩ | ⟨b1,b2⟩
 ·exact hs i j x z hij a2 b2
 ·exact hlo i x a1 a2
 ·exact hs i (j-1) x z (by omega) a2 b2
 ·omega
 ·omega
 ·exact hhi (j-1) z (by omega) b2
 ·omega
 ·omega
 ·exact hs (i-1) (j-1) x z (by omega) a2 b2
def popH (l:List Hy) (s:ByteArray):List Hy:=if hasH l s=true then l.eraseIdx (plH l s) else l
def pieH (l:List Hy) (s:ByteArray):List ByteArray:=if hasH l s=true then (match l[plH l s]? with | some y=>y.ps | none=>[]) else []
def putH (l:List Hy) (y:Hy):List Hy:=l.take (plH l y.nm)++[y]++l.drop (plH l y.nm)
def appH (l:List Hy) (nm d:ByteArray):List Hy:=putH (popH l nm) ⟨nm,pieH l nm++[d]⟩
def renH (l:List Hy) (nm tt:ByteArray):List Hy:=putH (popH (popH l nm) tt) ⟨tt,pieH l nm⟩
def doH (l:List Hy) (o:Dp):List Hy×Bool:=
 if o.k=1 then (appH l o.nm o.d,true) else if hasH l o.nm=true then ((if o.k=2 then renH l o.nm o.tt else popH l o.nm),true) else (l,false)
theorem gb_ {l:List Hy} {s:ByteArray} (hh:hasH l s=true):∃ y,l[plH l s]?=some y∧y.nm.toList=s.toList:=by
 unfold hasH at hh
 cases hq:l[plH l s]? with
 |none=>rw [hq] at hh;cases hh
 |some y=>rw [hq] at hh;exact ⟨y,rfl,by simpa using hh⟩
theorem c9_ {l:List Hy} (hs:SrtH l) (s:ByteArray):(popH l s).map toldF=cutF s (l.map toldF):=by
 unfold popH
 split
 ·rename_i h;rw [nW_ hs h]
 ·rename_i h;rw [hz_ hs (by simpa using h)]
theorem aM_ {l:List Hy} (hs:SrtH l) (s:ByteArray):SrtH (popH l s):=by
 unfold popH
 split
 ·exact hs.erase _
 ·exact hs
theorem fp_ {l:List Hy} (hs:SrtH l) (s:ByteArray):hasH (popH l s) s=false:=by
 cases h:hasH (popH l s) s
 ·rfl
 ·obtain ⟨y,hy,he⟩:=gb_ h
  have hm:toldF y∈(popH l s).map toldF:=List.mem_map.2 ⟨y,List.mem_of_getElem? hy,rfl⟩
  rw [c9_ hs] at hm
  have:=(List.mem_filter.1 hm).2
  simp [toldF,he] at this
theorem eh_ {l:List Hy} {s:ByteArray}:∀ y∈popH l s,y∈l:=by
 intro y hy
 unfold popH at hy
 split at hy
 ·exact List.mem_of_mem_eraseIdx hy
 ·exact hy
theorem da_ (l:List Hy) (s:ByteArray):(popH l s).length<=l.length:=by
 unfold popH
 split
 ·exact List.length_eraseIdx_le _ _
 ·exact Nat.le_refl _
theorem nX_ {l:List Hy} {y:Hy}:∀ z∈putH l y,z=y∨z∈l:=by
 intro z hz
 unfold putH at hz
 simp only [List.mem_append,List.mem_singleton] at hz
 rcases hz with (h | h) | h
 ·exact .inr (List.mem_of_mem_take h)
 ·exact .inl h
 ·exact .inr (List.mem_of_mem_drop h)
theorem jP_ (l:List Hy) (y:Hy):(putH l y).length=l.length+1:=by
 have hp:plH l y.nm<=l.length:=by unfold plH;exact (List.takeWhile_sublist _).length_le
 unfold putH
 simp
 omega
/-- In a list by rising names nothing behind the place of a name is ahead of it. -/
theorem jQ_ {l:List Hy} (hs:SrtH l) (x:Fl):putF x (cutF x.nm (l.map toldF))=putF x (l.map toldF):=by
 have h1:=cb_ (fun z:Hy=>bl z.nm.toList x.nm.toList) l
 have hD:∀ y∈l.dropWhile (fun z:Hy=>bl z.nm.toList x.nm.toList),bl y.nm.toList x.nm.toList=false:=by
  intro y hy
  obtain ⟨i,hi⟩:=List.mem_iff_getElem?.1 hy
  obtain ⟨z,hz⟩:∃ z,(l.dropWhile (fun z:Hy=>bl z.nm.toList x.nm.toList))[0]?=some z:=by
   have hlt:=(List.getElem?_eq_some_iff.1 hi).1
   exact ⟨_,List.getElem?_eq_getElem (by omega)⟩
  have hzf:=h9_ (fun z:Hy=>bl z.nm.toList x.nm.toList) l z hz
  rw [<-h1.2,List.getElem?_drop] at hi hz
  exact hs.hi hz hzf _ y (by omega) hi
 have hT:∀ y∈l.takeWhile (fun z:Hy=>bl z.nm.toList x.nm.toList),bl y.nm.toList x.nm.toList=true:=fun y hy=>kR_ (fun z:Hy=>bl z.nm.toList x.nm.toList) l y hy
 have hsplit:=List.takeWhile_append_dropWhile (p:=fun z:Hy=>bl z.nm.toList x.nm.toList) (l:=l)
 generalize l.takeWhile (fun z:Hy=>bl z.nm.toList x.nm.toList)=T at *
 generalize l.dropWhile (fun z:Hy=>bl z.nm.toList x.nm.toList)=D at *
 subst hsplit
 have fT:(T.map toldF).filter (fun y=>!(y.nm.toList==x.nm.toList))=T.map toldF:=List.filter_eq_self.2 fun z hz=>by
  obtain ⟨y,hy,rfl⟩:=List.mem_map.1 hz
  have hb:=hT y hy
  by_cases he:y.nm.toList=x.nm.toList
  ·rw [he,bV_] at hb;cases hb
  ·simpa [toldF] using he
 have key:∀ (A B:List Fl),(∀ y∈A,bl y.nm.toList x.nm.toList=true)->(∀ y∈B,bl y.nm.toList x.nm.toList=false)->putF x (A++B)=A++[x]++B.filter (fun y=>!(y.nm.toList==x.nm.toList)):=by
  intro A B hA hB
  have e1:(A++B).takeWhile (fun y=>bl y.nm.toList x.nm.toList)=A:=by
   rw [List.takeWhile_append_of_pos hA]
   cases B with
   |nil=>simp
   |cons b r=>rw [List.takeWhile_cons,hB b (by simp)];simp
  have e2:(A++B).dropWhile (fun y=>bl y.nm.toList x.nm.toList)=B:=by
   rw [List.dropWhile_append_of_pos hA]
   cases B with
   |nil=>simp
   |cons b r=>rw [List.dropWhile_cons,hB b (by simp)];simp
  unfold putF
  rw [putW,List.nil_append,e1,e2]
 have hA:∀ y∈T.map toldF,bl y.nm.toList x.nm.toList=true:=fun z hz=>by
  obtain ⟨y,hy,rfl⟩:=List.mem_map.1 hz;exact hT y hy
 have hB:∀ y∈D.map toldF,bl y.nm.toList x.nm.toList=false:=fun z hz=>by
  obtain ⟨y,hy,rfl⟩:=List.mem_map.1 hz;exact hD y hy
 unfold cutF
 rw [List.map_append,List.filter_append,fT,key _ _ hA hB,key _ _ hA (fun y hy=>hB y (List.mem_filter.1 hy).1),List.filter_filter]
 simp
theorem pg_ {l:List Hy} (hs:SrtH l) (s:ByteArray):atF (l.map toldF) s=if hasH l s=true then some (plH l s) else none:=by
 unfold atF
 split
 ·rename_i hh
  obtain ⟨y,hy,he⟩:=gb_ hh
  have hlt:=(List.getElem?_eq_some_iff.1 hy).1
  rw [List.findIdx?_eq_some_iff_getElem]
  refine ⟨by simpa using hlt,?_,fun j hj=>?_⟩
  ·have:(l.map toldF)[plH l s]'(by simpa using hlt)=toldF y:=by
    rw [List.getElem_map];congr 1
    exact (List.getElem?_eq_some_iff.1 hy).2
   rw [this];simpa [toldF] using he
  ·have hjl:j<l.length:=by omega
   rw [List.getElem_map]
   have hjx:l[j]?=some l[j]:=by simp [hjl]
   intro hc
   have he2:(l[j]).nm.toList=s.toList:=by simpa [toldF] using hc
   have:=kP_ hs hjx he2
   omega
 ·rename_i hh
  rw [List.findIdx?_eq_none_iff]
  intro z hz
  obtain ⟨y,hy,rfl⟩:=List.mem_map.1 hz
  obtain ⟨j,hj⟩:=List.mem_iff_getElem?.1 hy
  by_cases he:y.nm.toList=s.toList
  ·exact absurd (kQ_ hs hj he) hh
  ·simpa [toldF] using he
theorem kS_ (nm:ByteArray) (ps:List ByteArray) (d:ByteArray):toldF ⟨nm,ps++[d]⟩=⟨nm,joinB ps++d⟩:=by
 unfold toldF;rw [ga_]
theorem hA_:joinB []=⟨#[]⟩:=rfl
theorem hB_ {l:List Hy} (hs:SrtH l) (y:Hy) (hh:hasH l y.nm=false):(putH l y).map toldF=putF (toldF y) (l.map toldF):=(pf_ hs y hh).symm
theorem jR_ {l:List Hy} (hs:SrtH l) (y:Hy) (hh:hasH l y.nm=false):SrtH (putH l y):=hs.put y hh
theorem lG_ (d:ByteArray):(⟨#[]⟩:ByteArray)++d=d:=by
 apply ByteArray.ext
 simp [ByteArray.data_append]
theorem ph_ {l:List Hy} (hs:SrtH l) (o:Dp):doF (l.map toldF) o=((doH l o).1.map toldF,(doH l o).2):=by
 unfold doF doH
 rw [pg_ hs]
 have hA:(appH l o.nm o.d).map toldF=putF ⟨o.nm,joinB (pieH l o.nm)++o.d⟩ (l.map toldF):=by
  unfold appH
  rw [hB_ (aM_ hs _) ⟨o.nm,pieH l o.nm++[o.d]⟩ (fp_ hs _),kS_,c9_ hs,jQ_ hs ⟨o.nm,_⟩]
 cases hh:hasH l o.nm
 ·have hp:pieH l o.nm=[]:=by simp [pieH,hh]
  rw [hp,hA_,lG_] at hA
  by_cases hk:o.k=1
  ·simp [hk,hA]
  ·simp [hk]
 ·obtain ⟨y,hy,he⟩:=gb_ hh
  have hp:pieH l o.nm=y.ps:=by simp [pieH,hh,hy]
  rw [hp] at hA
  simp only [if_true,List.getElem?_map,hy,Option.map_some]
  by_cases hk:o.k=1
  ·simp only [hk,if_true,hA];rfl
  ·by_cases hk2:o.k=2
   ·have hR:(renH l o.nm o.tt).map toldF=putF ⟨o.tt,joinB y.ps⟩ (cutF o.nm (l.map toldF)):=by
     unfold renH
     rw [hB_ (aM_ (aM_ hs _) _) ⟨o.tt,pieH l o.nm⟩ (fp_ (aM_ hs _) _),c9_ (aM_ hs _),hp]
     show putF ⟨o.tt,joinB y.ps⟩ _=_
     rw [jQ_ (aM_ hs _) ⟨o.tt,joinB y.ps⟩,c9_ hs]
    simp only [hk2,if_true]
    rw [if_neg (show ¬ (2:Int)=1 by decide),if_neg (show ¬ (2:Int)=1 by decide),hR];rfl
   ·simp only [hk,hk2,if_false,c9_ hs]
theorem lH_ {l:List Hy} (hs:SrtH l) (o:Dp):SrtH (doH l o).1:=by
 unfold doH
 split
 ·exact jR_ (aM_ hs _) _ (fp_ hs _)
 ·split
  ·show SrtH (if _ then _ else _)
   split
   ·exact jR_ (aM_ (aM_ hs _) _) _ (fp_ (aM_ hs _) _)
   ·exact aM_ hs _
  ·exact hs
theorem oI_ (l:List Hy) (o:Dp):(doH l o).1.length<=l.length+1:=by
 have h1:=da_ l o.nm
 have h2:=da_ (popH l o.nm) o.tt
 unfold doH appH renH
 split
 ·simp only [jP_];omega
 ·split
  ·show (if _ then _ else _:List Hy).length<=_
   split
   ·rw [jP_];omega
   ·omega
  ·simp
/-- Bounds of a shelf: pieces, their sizes, names. -/
structure BndH (M S:Nat) (l:List Hy):Prop where
 ps:∀ y∈l,y.ps.length<=M
 sz:∀ y∈l,∀ s∈y.ps,s.size<=S
 nm:∀ y∈l,nmB y.nm=true
theorem lI_ {l:List Hy} {s:ByteArray}:pieH l s=[]∨∃ y∈l,pieH l s=y.ps:=by
 unfold pieH
 split
 ·split
  ·rename_i y hy;exact .inr ⟨y,List.mem_of_getElem? hy,rfl⟩
  ·exact .inl rfl
 ·exact .inl rfl
theorem BndH.mono {M S M' S':Nat} {l:List Hy} (h:BndH M S l) (h1:M<=M') (h2:S<=S'):BndH M' S' l:=⟨fun y hy=>Nat.le_trans (h.ps y hy) h1,fun y hy s hs=>Nat.le_trans (h.sz y hy s hs) h2,h.nm⟩
theorem BndH.sub {M S:Nat} {l l':List Hy} (h:BndH M S l) (hs:∀ y∈l',y∈l):BndH M S l':=⟨fun y hy=>h.ps y (hs y hy),fun y hy=>h.sz y (hs y hy),fun y hy=>h.nm y (hs y hy)⟩
theorem lJ_ {M S:Nat} {l:List Hy} (h:BndH M S l) {o:Dp} (hf:formB o=true) (hd:o.d.size<=S):BndH (M+1) S (doH l o).1:=by
 simp only [formB,Bool.and_eq_true,decide_eq_true_eq] at hf
 obtain ⟨⟨⟨k1,k3⟩,hn⟩,hk⟩:=hf
 have hM:=h.mono (Nat.le_succ M) (Nat.le_refl S)
 have hput:∀ (l':List Hy) (y:Hy),(∀ z∈l',z∈l)->y.ps.length<=M+1->(∀ s∈y.ps,s.size<=S)->nmB y.nm=true->BndH (M+1) S (putH l' y):=by
  intro l' y hsub h1 h2 h3
  refine ⟨fun z hz=>?_,fun z hz=>?_,fun z hz=>?_⟩<;>rcases nX_ z hz with rfl | hz
  ·exact h1
  ·exact hM.ps z (hsub z hz)
  ·exact h2
  ·exact h.sz z (hsub z hz)
  ·exact h3
  ·exact h.nm z (hsub z hz)
 have hpie:(pieH l o.nm).length<=M∧∀ s∈pieH l o.nm,s.size<=S:=by
  rcases lI_ (l:=l) (s:=o.nm) with e | ⟨y,hy,e⟩
  ·rw [e];simp
  ·rw [e];exact ⟨h.ps y hy,h.sz y hy⟩
 unfold doH appH renH
 split
 ·refine hput _ _ eh_ (by simp;exact hpie.1) (fun s hs=>?_) hn
  rcases List.mem_append.1 hs with hs | hs
  ·exact hpie.2 s hs
  ·simp at hs;subst hs;exact hd
 ·split
  ·show BndH _ _ (if _ then _ else _)
   split
   ·rename_i h2
    rw [if_pos h2] at hk
    refine hput _ _ (fun z hz=>eh_ z (eh_ z hz)) (Nat.le_succ_of_le hpie.1) hpie.2 (by simp only [Bool.and_eq_true] at hk;exact hk.1)
   ·exact hM.sub eh_
  ·exact hM
theorem kT_ (ps:List ByteArray):(joinB ps).size=sumP ps:=by
 have:=jN_ ps
 unfold joinB
 simpa [ByteArray.size] using this
theorem mK_ (l:List Hy):sumB (l.map toldF)=sumH l:=by
 induction l with
 |nil=>rfl
 |cons y r ih=>simp only [List.map_cons,sumB,sumH,ih];congr 1;exact kT_ _
theorem jS_:∀ (l:List Hy) (q:Option Hy),(∀ y∈l,nmB y.nm=true)->SrtH l->(∀ p,q=some p->∀ y,l[0]?=some y->bl p.nm.toList y.nm.toList=true)->fgo (q.map toldF) (l.map toldF)=true
 |[],q,_,_,_=>by cases q<;>rfl
 |y::r,q,hn,hs,hq=>by
  have ih:=jS_ r (some y) (fun z hz=>hn z (by simp [hz])) (fun i j x z hij hx hz=>hs (i+1) (j+1) x z (by omega) (by simpa using hx) (by simpa using hz)) (fun p hp z hz=>by
   cases hp
   exact hs 0 1 y z (by omega) rfl (by simpa using hz))
  have h1:nmB (toldF y).nm=true:=hn y (by simp)
  cases q with
  |none=>
   show (nmB (toldF y).nm&&true&&fgo (some (toldF y)) (r.map toldF))=true
   rw [h1];simpa using ih
  |some p=>
   have h3:bl (toldF p).nm.toList (toldF y).nm.toList=true:=hq p rfl y rfl
   show (nmB (toldF y).nm&&bl (toldF p).nm.toList (toldF y).nm.toList&&fgo (some (toldF y)) (r.map toldF))=true
   rw [h1,h3];simpa using ih
theorem gc_ {M S:Nat} {l:List Hy} (hs:SrtH l) (h:BndH M S l):filesB (l.map toldF)=fitsB l:=by
 unfold filesB fitsB
 have hg:fgo none (l.map toldF)=true:=by
  have:=jS_ l none h.nm hs (fun p hp=>by cases hp)
  simpa using this
 rw [mK_,hg];simp
end Go.Proofs.YtigldeccfpkdmaaGreatDoor
namespace Go.Proofs.YtigldeccfpkdmaaGreatDoor
open Go Go.RowKit Go.BigFrame
set_option maxHeartbeats 20000000
set_option maxRecDepth 100000
/-- copy, of elements of several cells, into a row. -/
theorem dG_ {P:Program} (w:World) (dT sT ty elem:TypeId) (size g o dLen dCap:Nat) (a:Addr) (sLen sCap:Nat) (cur:List Value) (t:TypeId) (cs:List Value)
  (hu:P.underlying dT=some (.slice elem)) (hs:(P.info? elem).map (·.size)=some size)
  (hg:Blk w g cur.toArray t) (hn:cs.length=Nat.min sLen dLen*size)
  (hsrc:∀ j v,cs[j]?=some v->w.cell? (a.add j)=some v) (hfit:o+cs.length<=cur.length) (h1:∀ v∈cs,v.oneCell'=true) :
  (Builtin.copy_ #[dT,sT] ty #[.slice (some ⟨g,o,none⟩) dLen dCap,.slice (some a) sLen sCap]).run P w =
   .ok (goInt (Nat.min sLen dLen:Nat)) (w.setRow g (splice cur o cs).toArray):=by
 have hl:=run_loadCells_list (P:=P) w a cs hsrc
 have hst:=run_storeCells_at P g o t cs 0 cur.toArray w hg (by simpa using hfit) h1
 cases hq:P.info? elem with
 |none=>simp [hq] at hs
 |some i=>
  have hi:i.size=size:=by simpa [hq] using hs
  simp [Builtin.copy_,run_underlying hu,Builtin.lenOf,Builtin.firstCells,sizeOf,typeInfo,hq,hi,<-hn,hl,hst,splice]
theorem jT_ {P:Program} {o:Oper} {a:Act} {w:World} {K:Act->World->Prop} {Q:Exit->Act->World->Prop} (d s:Operand) (dT sT elem:TypeId) (size:Nat)
  (ho:o.op=.call {callee:=.builtin .copy,args:=#[d,s],argTypes:=#[dT,sT]}) (hu:P.underlying dT=some (.slice elem)) (hs:(P.info? elem).map (·.size)=some size)
  (g off dLen dCap:Nat) (ad:Addr) (sLen sCap:Nat) (hd:a.eval d=.slice (some ⟨g,off,none⟩) dLen dCap) (hx:a.eval s=.slice (some ad) sLen sCap)
  (cur:List Value) (t:TypeId) (hg:Blk w g cur.toArray t) (cs:List Value) (m:Nat) (hm:Nat.min sLen dLen=m) (hn:cs.length=m*size)
  (hsrc:∀ j v,cs[j]?=some v->w.cell? (ad.add j)=some v) (hfit:off+cs.length<=cur.length) (h1:∀ v∈cs,v.oneCell'=true)
  (h:∀ w',Blk w' g (splice cur off cs).toArray t->w.grownBy w' (some g)->w'.heap.size=w.heap.size->K (a.put o.dst (goInt m)) w'):o.wp P a w K Q:=by
 subst hm
 have hr:=dG_ (P:=P) w dT sT o.type elem size g off dLen dCap ad sLen sCap cur t cs hu hs hg hn hsrc hfit h1
 unfold Oper.wp execOp
 simp only [ho,resolve,invoke,builtin,Sem.run_bind,Sem.run_pure,Result.andThen_ok,List.map_toArray,List.map_cons,List.map_nil,hd,hx,hr]
 exact h _ hg.row (eC_ _ _ _) (by simp)
theorem lK_ {P:Program} (w:World) (dT sT elem:TypeId) (size g o dLen dCap:Nat) (a:Addr) (sLen sCap:Nat) (cur:List Value) (t:TypeId) (cs:List Value) (m:Nat)
  (hu:P.underlying dT=some (.slice elem)) (hs:(P.info? elem).map (·.size)=some size)
  (hg:Blk w g cur.toArray t) (hm:Nat.min sLen dLen=m) (hn:cs.length=m*size)
  (hsrc:∀ j v,cs[j]?=some v->w.cell? (a.add j)=some v) (hfit:o+cs.length<=cur.length) (h1:∀ v∈cs,v.oneCell'=true) :
  ∃ W2,(∀ ty,(Builtin.copy_ #[dT,sT] ty #[.slice (some ⟨g,o,none⟩) dLen dCap,.slice (some a) sLen sCap]).run P w=.ok (goInt m) W2)∧Blk W2 g (splice cur o cs).toArray t∧w.grownBy W2 (some g)∧W2.heap.size=w.heap.size:=by
 subst hm
 exact ⟨_,fun ty=>dG_ (P:=P) w dT sT ty elem size g o dLen dCap a sLen sCap cur t cs hu hs hg hn hsrc hfit h1,hg.row,eC_ _ _ _,by simp⟩
theorem ei_ {P:Program} (w:World) {ops:Array Oper} {rest:List Oper} {o:Oper} {a:Act} {Q:Exit->Act->World->Prop} (hgd:o.guard=none) (d s:Operand) (t t':TypeId)
  (ho:o.op=.call {callee:=.builtin .copy,args:=#[d,s],argTypes:=#[t,t']}) (v u:Value) (hd:a.eval d=v) (hs:a.eval s=u) {v':Value} {w':World}
  (hr:(Builtin.copy_ #[t,t'] o.type #[v,u]).run P w=.ok v' w') (h:wpList P ops Q rest (a.put o.dst v') w'):wpList P ops Q (o::rest) a w:=by
 refine wpList_plain hgd fun _ hK=>?_
 unfold Oper.wp execOp
 simp only [ho,resolve,invoke,builtin,Sem.run_bind,Sem.run_pure,Result.andThen_ok,List.map_toArray,List.map_cons,List.map_nil,hd,hs,hr]
 exact hK _ _ h
theorem cQ_ {α:Type} (L:List α) (o:Nat) (cs:List α) (h:o+cs.length<=L.length):(splice L o cs).length=L.length:=length_splice L o cs h
theorem db_ {α:Type} (L:List α) (o:Nat) (cs:List α) (h:o+cs.length<=L.length):(splice L o cs).take o=L.take o∧(splice L o cs).take (o+cs.length)=L.take o++cs∧(splice L o cs).drop (o+cs.length)=L.drop (o+cs.length):=by
 have hl:(L.take o).length=o:=by rw [List.length_take];omega
 unfold splice
 refine ⟨?_,?_,?_⟩
 ·rw [List.take_append_of_le_length (by omega),List.take_of_length_le (by omega)]
 ·rw [List.take_append,List.take_of_length_le (by omega),hl,Nat.add_sub_cancel_left,List.take_left]
 ·rw [List.drop_append,List.drop_of_length_le (by omega),hl,Nat.add_sub_cancel_left,List.nil_append,List.drop_left]
section
variable {α:Type} {cs:α->List Value} {sz:Nat}
/-- What stood ahead, what is put in, what stood from there on. -/
theorem jU_ (rows:List α) (x:α) (i:Nat):(rows.take i++[x]++rows.drop i).flatMap cs=(rows.take i).flatMap cs++cs x++(rows.drop i).flatMap cs:=by simp
theorem lL_ {rows:List α} {x:α} {i n:Nat} (hl:rows.length=n) (hi:i<=n):(rows.take i++[x]++rows.drop i).length=n+1:=by simp;omega
theorem pD_ (hsz:∀ y,(cs y).length=sz) {L:List Value} {rows:List α} {x:α} {i n cap:Nat} (hl:rows.length=n) (hi:i<=n) (hc:L.length=cap*sz) (hcap:n+1<=cap) (ht:L.take (i*sz)=(rows.take i).flatMap cs) :
  i*sz+(cs x).length<=L.length∧(splice L (i*sz) (cs x)).length=cap*sz∧(i+1)*sz+((rows.drop i).flatMap cs).length<=(splice L (i*sz) (cs x)).length∧((rows.drop i).flatMap cs).length=(n-i)*sz∧
  (splice (splice L (i*sz) (cs x)) ((i+1)*sz) ((rows.drop i).flatMap cs)).length=cap*sz∧(splice (splice L (i*sz) (cs x)) ((i+1)*sz) ((rows.drop i).flatMap cs)).take ((n+1)*sz)=(rows.take i++[x]++rows.drop i).flatMap cs:=by
 have h1:(n+1)*sz<=cap*sz:=Nat.mul_le_mul_right _ hcap
 have h2:(i+1)*sz<=(n+1)*sz:=Nat.mul_le_mul_right _ (by omega)
 have h3:(i+1)*sz=i*sz+sz:=by rw [Nat.add_mul,Nat.one_mul]
 have hX:((rows.drop i).flatMap cs).length=(n-i)*sz:=by rw [aT_ hsz,List.length_drop,hl]
 have h4:(i+1)*sz+(n-i)*sz=(n+1)*sz:=by rw [<-Nat.add_mul];congr 1;omega
 have a1:i*sz+(cs x).length<=L.length:=by rw [hsz];omega
 have l1:=cQ_ L (i*sz) (cs x) a1
 have t1:=db_ L (i*sz) (cs x) a1
 have a2:(i+1)*sz+((rows.drop i).flatMap cs).length<=(splice L (i*sz) (cs x)).length:=by rw [hX,l1];omega
 have l2:=cQ_ _ _ _ a2
 have t2:=db_ _ _ _ a2
 refine ⟨a1,l1.trans hc,a2,hX,l2.trans (l1.trans hc),?_⟩
 rw [hX,h4] at t2
 have t1':=t1.2.1
 rw [show i*sz+(cs x).length=(i+1)*sz by rw [hsz];omega] at t1'
 rw [t2.2.1,t1',ht,jU_]
theorem pE_ (hsz:∀ y,(cs y).length=sz) {L:List Value} {rows:List α} {x:α} {i n cap:Nat} (hl:rows.length=n) (hi:i<=n) (hc:L.length=cap*sz) (hcap:n+1<=cap) (ht:L.take (n*sz)=rows.flatMap cs) :
  (i+1)*sz+((rows.drop i).flatMap cs).length<=L.length∧(splice L ((i+1)*sz) ((rows.drop i).flatMap cs)).length=cap*sz∧i*sz+(cs x).length<=(splice L ((i+1)*sz) ((rows.drop i).flatMap cs)).length∧((rows.drop i).flatMap cs).length=(n-i)*sz∧
  (splice (splice L ((i+1)*sz) ((rows.drop i).flatMap cs)) (i*sz) (cs x)).length=cap*sz∧(splice (splice L ((i+1)*sz) ((rows.drop i).flatMap cs)) (i*sz) (cs x)).take ((n+1)*sz)=(rows.take i++[x]++rows.drop i).flatMap cs:=by
 have h1:(n+1)*sz<=cap*sz:=Nat.mul_le_mul_right _ hcap
 have h2:(i+1)*sz<=(n+1)*sz:=Nat.mul_le_mul_right _ (by omega)
 have h3:(i+1)*sz=i*sz+sz:=by rw [Nat.add_mul,Nat.one_mul]
 have hX:((rows.drop i).flatMap cs).length=(n-i)*sz:=by rw [aT_ hsz,List.length_drop,hl]
 have h4:(i+1)*sz+(n-i)*sz=(n+1)*sz:=by rw [<-Nat.add_mul];congr 1;omega
 have a1:(i+1)*sz+((rows.drop i).flatMap cs).length<=L.length:=by rw [hX];omega
 have l1:=cQ_ _ _ _ a1
 have t1:=db_ _ _ _ a1
 have a2:i*sz+(cs x).length<=(splice L ((i+1)*sz) ((rows.drop i).flatMap cs)).length:=by rw [hsz,l1];omega
 have l2:=cQ_ _ _ _ a2
 refine ⟨a1,l1.trans hc,a2,hX,l2.trans (l1.trans hc),?_⟩
 have e0:L.take (i*sz)=(rows.take i).flatMap cs:=by
  have:L.take (i*sz)=(L.take (n*sz)).take (i*sz):=by rw [List.take_take,Nat.min_eq_left (Nat.mul_le_mul_right _ hi)]
  rw [this,ht,dt_ hsz]
 generalize hXX:(rows.drop i).flatMap cs=X at *
 have e1:(splice L ((i+1)*sz) X).take (i*sz)=(rows.take i).flatMap cs:=by
  have:(splice L ((i+1)*sz) X).take (i*sz)=((splice L ((i+1)*sz) X).take ((i+1)*sz)).take (i*sz):=by rw [List.take_take,Nat.min_eq_left (by omega)]
  rw [this,t1.1,List.take_take,Nat.min_eq_left (by omega),e0]
 have e2:(splice L ((i+1)*sz) X).drop ((i+1)*sz)=X++L.drop ((i+1)*sz+X.length):=by
  unfold splice
  rw [List.drop_append,List.drop_of_length_le (by rw [List.length_take];omega),List.length_take,Nat.min_eq_left (by omega),Nat.sub_self]
  simp
 generalize splice L ((i+1)*sz) X=M at *
 show (M.take (i*sz)++(cs x++M.drop (i*sz+(cs x).length))).take ((n+1)*sz)=_
 rw [hsz,<-h3,e1,e2,jU_,hXX,<-List.append_assoc,<-List.append_assoc]
 have hlen:((rows.take i).flatMap cs++cs x++X).length=(n+1)*sz:=by
  rw [List.length_append,List.length_append,aT_ hsz,List.length_take,hl,Nat.min_eq_left hi,hsz,hX];omega
 rw [<-hlen,List.take_left]
/-- The cells from one row on. -/
theorem eF_ (hsz:∀ y,(cs y).length=sz):∀ (rows:List α) (i j:Nat),(rows.flatMap cs)[i*sz+j]?=((rows.drop i).flatMap cs)[j]?
 |[],i,j=>by simp
 |y::r,0,j=>by simp
 |y::r,i+1,j=>by
  rw [List.drop_succ_cons,<-eF_ hsz r i j,List.flatMap_cons,List.getElem?_append_right (by rw [hsz,Nat.add_mul];omega),hsz,Nat.add_mul]
  congr 1
  omega
theorem kU_ (_hsz:∀ y,(cs y).length=sz) {t:TypeId} {w:World} {b:Nat} {x:α} (h:Blk w b (cs x).toArray t):SlAt cs sz w (some ⟨b,0,none⟩) 1 [x]:=by
 refine ⟨rfl,fun i y hy=>⟨b,0,rfl,fun j v hv=>?_⟩⟩
 have hi:i=0:=by have:=(List.getElem?_eq_some_iff.1 hy).1;simp at this;exact this
 subst hi
 simp at hy
 subst hy
 rw [h.cell]
 simpa using hv
theorem ResAt.le {t:TypeId} {w:World} {B n cap:Nat} {a:Option Addr} {l:List α} (h:ResAt cs sz t w B a n cap l):n<=cap:=by
 rcases h.own with ⟨_,rfl,rfl⟩ | ⟨_,_,_,h1,_⟩
 ·exact Nat.le_refl _
 ·exact h1
theorem ResAt.empt {t:TypeId} {w:World} {B n cap:Nat} {l:List α} (h:ResAt cs sz t w B none n cap l):n=0∧cap=0:=by
 rcases h.own with ⟨_,h1,h2⟩ | ⟨_,h0,_⟩
 ·exact ⟨h1,h2⟩
 ·cases h0
end
end Go.Proofs.YtigldeccfpkdmaaGreatDoor
