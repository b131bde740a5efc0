/- What files are asked for: of the program. -/
import Derived.Stop.Asserts
import Derived.Stop.LaidTwo
import Derived.Test.YtkodenjhajafpaaGreatDoorU34
set_option maxHeartbeats 20000000
set_option maxRecDepth 100000
namespace Go.Proofs.YtkodenjhajafpaaGreatDoor
section
open Go.RowKit Go.BigFrame Tryz
abbrev scs:ByteArray->List Value:=fun x=>[Value.string x]
end
section
open Go.ChangeShapes Go.WideShapes Go.ChangeAt Go.RowKit Go.Deep Tryz
theorem c5:prog.cellsOf 5=1:=by kernel_rfl
end
section
open Go.RowKit Go.BigFrame Tryz
theorem Fg {e:List Ex}{p:Pt}{d:ByteArray}(hn:1<=p.n)(hf:p.a≠0->0<=p.f)(h:pieceO e p=some d):(d.size:Int)=p.n:=by
 unfold pieceO at h
 split at h
 ·simp at h;subst h;rw[ca_];omega
 ·rename_i ha
  have:=hf (by simpa using ha)
  split at h
  ·cases h
  ·simp at h;subst h
   rw[ByteArray.size_extract]
   omega
def Cm (p:Po)(vol file:ByteArray):Int×Bool:=if Aj p=true then (match Aq p.vs vol file with | none=>(0,false) | some ps=>(Cc ps,true)) else (0,false)
end
section
open Go.RowKit Go.BigFrame Tryz
open Go.Maps (Keyed)
def BU (p:Po)(vol file:ByteArray):Option (List Pt):=if Aj p=true then Aq p.vs vol file else none
end
section
open Go.RowKit Tryz
theorem BV {x y:ByteArray}(h:x.data.toList=y.data.toList):x=y:=by
 cases x;cases y;congr 1;exact Array.toList_inj.1 h
theorem B5 (x y:ByteArray):(x++y).data.toList=x.data.toList++y.data.toList:=by simp
theorem Bw (x:ByteArray)(i j:Nat):(x.extract i j).data.toList=(x.data.toList.drop i).take (j-i):=by
 simp[ByteArray.data_extract]
theorem FH (x:ByteArray):(⟨#[]⟩:ByteArray)++x=x:=BV (by rw[B5];rfl)
theorem EY (x y z:ByteArray):x++y++z=x++(y++z):=BV (by simp only[B5,ZC])
theorem HX (i j:Nat):zs i++zs j=zs (i+j):=BV (by rw[B5];simp[zs,List.replicate_append_replicate])
theorem E5 (x:ByteArray){i j k:Nat}(h1:i<=j)(h2:j<=k):x.extract i j++x.extract j k=x.extract i k:=by
 apply BV
 rw[B5,Bw,Bw,Bw]
 have e1:k-i=(j-i)+(k-j):=by omega
 have e2:x.data.toList.drop j=(x.data.toList.drop i).drop (j-i):=by rw[List.drop_drop];congr 1;omega
 rw[e1,e2,List.take_add]
def catO (e:List Ex)(l:List Pt):Option ByteArray:=cgo e ⟨#[]⟩ l
theorem EG (e:List Ex):∀ (l:List Pt) (acc:ByteArray),cgo e acc l=(catO e l).map (acc++·)
 |[],acc=>by simp[cgo,catO];exact BV (by simp)
 |p::r,acc=>by
  unfold catO cgo
  cases pieceO e p with
  |none=>rfl
  |some d=>
   simp only
   rw[EG e r (acc++d),EG e r (⟨#[]⟩++d),FH]
   cases catO e r with
   |none=>rfl
   |some s=>simp[EY]
theorem Dw (e:List Ex)(p:Pt)(r:List Pt):catO e (p::r)=(pieceO e p).bind (fun d=>(catO e r).map (d++·)):=by
 conv=>lhs;unfold catO cgo
 cases pieceO e p with
 |none=>rfl
 |some d=>simp only[FH];rw[EG];rfl
theorem A3 (e:List Ex):∀ (l m:List Pt),catO e (l++m)=(catO e l).bind (fun x=>(catO e m).map (x++·))
 |[],m=>by
  show catO e m=_
  cases h:catO e m with
  |none=>rfl
  |some s=>simp[catO,cgo,FH]
 |p::r,m=>by
  rw[YF,Dw,Dw,A3 e r m]
  cases pieceO e p with
  |none=>rfl
  |some d=>
   cases catO e r with
   |none=>rfl
   |some x=>
    cases catO e m with
    |none=>rfl
    |some y=>simp[EY]
theorem CE (e:List Ex)(p:Pt):catO e [p]=pieceO e p:=by
 rw[Dw]
 cases pieceO e p with
 |none=>rfl
 |some d=>simp[catO,cgo];exact BV (by simp)
theorem Fh {e:List Ex}{q p:Pt}(hq:Ah q=true)(hp:Ah p=true)(hg:Aw q p=true):catO e [⟨q.a,q.f,q.n+p.n⟩]=catO e [q,p]:=by
 have he:=av_ hq
 have hc:=av_ hp
 simp only[Aw,Zf,Bool.or_eq_true,beq_iff_eq] at hg
 obtain⟨ha,hg⟩:=hg
 rw[show [q,p]=[q]++[p] from rfl,A3,CE,CE,CE]
 by_cases h0:q.a=0
 ·have hb:(q.a==0)=true:=by simp[h0]
  have h0'':(p.a==0)=true:=by simp[ha,h0]
  simp[pieceO,hb,h0'',HX]
  congr 1;omega
 ·have hb:(q.a==0)=false:=by simp[h0]
  have h0'':(p.a==0)=false:=by simp[ha,h0]
  simp only[Ah,hb,h0'',Zj,if_false,Zf,ZU] at hq hp
  have hf:p.f=q.f+q.n:=by
   rcases hg with hg | hg
   ·omega
   ·rw[hg];unfold wrap64;omega
  simp only[pieceO,hb,Zj,if_false,ha]
  generalize AK q.a e=D
  by_cases hs:(D.size:Int)<q.f+(q.n+p.n)
  ·rw[if_pos hs]
   by_cases hs1:(D.size:Int)<q.f+q.n
   ·rw[if_pos hs1];rfl
   ·rw[if_neg hs1,if_pos (by omega)];rfl
  ·rw[if_neg hs,if_neg (by omega),if_neg (by omega)]
   simp only[YO,Option.map_some]
   congr 1
   rw[show p.f.toNat=(q.f+q.n).toNat by rw[hf],show (p.f+p.n).toNat=(q.f+(q.n+p.n)).toNat by rw[hf];congr 1;omega,E5 D (by omega) (by omega)]
theorem Gp {e:List Ex}{l:List Pt}{p:Pt}(hl:∀ q∈l,Ah q=true∧q.n<=1000)(hp:Ah p=true)(hp2:p.n<=1000):catO e (AI l p)=catO e (l++[p]):=by
 unfold AI
 split
 ·rename_i h
  have:l=[]:=by simpa using h
  subst this;rfl
 ·rename_i q hq
  have hb:=hl q (List.mem_of_getLast? hq)
  split
  ·rename_i hg
   have he:=av_ hb.1
   have hc:=av_ hp
   have e1:l=l.dropLast++[q]:=by
    have ha:l≠[]:=fun h=>by rw[h] at hq;simp at hq
    rw[List.getLast?_eq_some_getLast ha] at hq
    rw[<-Zi hq,List.dropLast_concat_getLast ha]
   rw[show wrap64 (q.n+p.n)=q.n+p.n by unfold wrap64;omega]
   conv=>rhs;rw[e1,ZC]
   rw[A3,A3,Fh hb.1 hp hg];rfl
  ·rfl
theorem Dg:∀ {l:List Pt},(∀ q∈l,Ah q=true)->∀ q∈l,q.n<=Ae l
 |[],_,q,hq=>by simp at hq
 |p::r,h,q,hq=>by
  have hr:=az_ r (fun x hx=>h x (by simp[hx]))
  have hp:=av_ (h p (by simp))
  simp only[Ae]
  rcases Zn.1 hq with rfl | hq
  ·omega
  ·have:=Dg (fun x hx=>h x (by simp[hx])) q hq;omega
theorem Cw (e:List Ex):∀ (m l:List Pt) (B:Int),pgo none B l=true->(∀ p∈m,Ah p=true)->Ae l+Ae m<=B->B<=1000->0<=B->catO e (Ak l m)=catO e (l++m)
 |[],l,B,_,_,_,_,_=>by simp[Ak]
 |p::r,l,B,h,hm,hs,hB,h0=>by
  obtain⟨h1,h2⟩:=cH_ l none B h0 h
  have hp:=hm p (by simp)
  have hb:=av_ hp
  have hr:=az_ r (fun x hx=>hm x (by simp[hx]))
  have ha:=az_ l h1
  simp only[Ae] at hs
  obtain⟨a1,a2⟩:=pL_ h hp (by omega) hB h0
  show catO e (Ak (AI l p) r)=_
  rw[Cw e r (AI l p) B a1 (fun x hx=>hm x (by simp[hx])) (by omega) hB h0,A3,Gp (fun q hq=>⟨h1 q hq,by have:=Dg h1 q hq;omega⟩) hp (by omega),<-A3]
  simp
theorem Bb {l:List Pt}{e:List Ex}(h:Ac l=true)(h':Ap 400 e=true):Ai l e=catO e l:=by simp[Ai,h,h',catO]
theorem Gr {a:List Pt}{q p:Pt}(hq:Ah q=true)(hq2:q.n<=1000)(hp:Ah p=true)(hp2:p.n<=1000)(ha:∀ x∈a,Ah x=true∧x.n<=1000)(hg:Aw q p=true):Ak a [⟨q.a,q.f,q.n+p.n⟩]=Ak a [q,p]:=by
 have hj:=av_ hq
 have hh:=av_ hp
 show AI a ⟨q.a,q.f,q.n+p.n⟩=AI (AI a q) p
 have hf:=hg
 simp only[Aw,Zf,Bool.or_eq_true,beq_iff_eq] at hg
 have hk:q.a=0∨(0<=q.f∧q.f<20):=by
  by_cases h0:q.a=0
  ·exact .inl h0
  ·have hc:(q.a==0)=false:=by simp[h0]
   simp only[Ah,hc,Zj,if_false,Zf,ZU] at hq
   exact .inr (by omega)
 have w1:wrap64 (q.n+p.n)=q.n+p.n:=by unfold wrap64;omega
 cases hl:a.getLast? with
 |none=>
  have:a=[]:=by simpa using hl
  subst this
  have e1:AI [] q=[q]:=rfl
  rw[e1]
  simp[AI,hf,w1]
 |some x=>
  have hx:=ha x (List.mem_of_getLast? hl)
  have hm:=av_ hx.1
  have e0:AI a q=if Aw x q then a.dropLast++[⟨x.a,x.f,wrap64 (x.n+q.n)⟩] else a++[q]:=by simp[AI,hl]
  have e2:Aw x ⟨q.a,q.f,q.n+p.n⟩=Aw x q:=rfl
  have w2:wrap64 (x.n+q.n)=x.n+q.n:=by unfold wrap64;omega
  have w3:wrap64 (x.n+(q.n+p.n))=x.n+(q.n+p.n):=by unfold wrap64;omega
  have w4:wrap64 (x.n+q.n+p.n)=x.n+q.n+p.n:=by unfold wrap64;omega
  rw[e0]
  cases he:Aw x q
  ·have e3:AI a ⟨q.a,q.f,q.n+p.n⟩=a++[⟨q.a,q.f,q.n+p.n⟩]:=by simp[AI,hl,e2,he]
   rw[e3]
   simp[AI,hf,w1]
  ·have e3:AI a ⟨q.a,q.f,q.n+p.n⟩=a.dropLast++[⟨x.a,x.f,x.n+(q.n+p.n)⟩]:=by simp[AI,hl,e2,he,w3]
   have hb:=he
   simp only[Aw,Zf,Bool.or_eq_true,beq_iff_eq] at hb
   have hn:x.a=0∨(0<=x.f∧x.f<20):=by
    by_cases h0:x.a=0
    ·exact .inl h0
    ·have hc:(x.a==0)=false:=by simp[h0]
     have:=hx.1
     simp only[Ah,hc,Zj,if_false,Zf,ZU] at this
     exact .inr (by omega)
   have e4:Aw ⟨x.a,x.f,x.n+q.n⟩ p=true:=by
    simp only[Aw,Zf,Bool.or_eq_true,beq_iff_eq]
    refine ⟨by omega,?_⟩
    by_cases h0:p.a=0
    ·exact .inl h0
    ·right
     have g1:p.f=wrap64 (q.f+q.n):=hg.2.resolve_left h0
     have g2:q.f=wrap64 (x.f+x.n):=hb.2.resolve_left (by omega)
     rw[g1,g2]
     unfold wrap64
     omega
   rw[e3]
   simp[AI,e4,w2,w4]
   omega
theorem Eu (e:List Ex):∀ (l:List Pt) (acc s:ByteArray),(∀ p∈l,1<=p.n∧p.n<=100∧(p.a≠0->0<=p.f∧p.f<20))->cgo e acc l=some s->(s.size:Int)=acc.size+Ae l
 |[],acc,s,_,h=>by simp[cgo] at h;subst h;simp[Ae]
 |p::r,acc,s,hp,h=>by
  unfold cgo at h
  split at h
  ·cases h
  ·rename_i d hd
   obtain⟨h1,_,h3⟩:=hp p (by simp)
   have hs:=Fg h1 (fun ha=>(h3 ha).1) hd
   have:=Eu e r (acc++d) s (fun q hq=>hp q (by simp[hq])) h
   rw[ByteArray.size_append] at this
   simp only[Ae]
   omega
theorem Br {l:List Pt}{e:List Ex}{s:ByteArray}(h:Ai l e=some s):(s.size:Int)=Ae l∧s.size<=100:=by
 unfold Ai at h
 split at h
 ·rename_i hh
  have:=Eu e l _ s (gd_ hh.1).2 h
  have h0:(((⟨#[]⟩:ByteArray).size:Nat):Int)=0:=rfl
  have:=(ae_ hh.1).2.2
  omega
 ·cases h
theorem Ek {u v t:Int}:∀ (l:List Pt) (st:Int),u<=st->v<=st->(∀ p∈l,1<=p.n)->slp u t st l=slp v t st l
 |[],_,_,_,_=>rfl
 |p::r,st,hu,hv,hp=>by
  have hn:=hp p (by simp)
  have ih:=Ek (u:=u) (v:=v) (t:=t) r (st+p.n) (by omega) (by omega) (fun q hq=>hp q (by simp[hq]))
  have e1:max (u-st) 0=0:=by omega
  have e2:max (v-st) 0=0:=by omega
  simp only[slp,e1,e2,ih]
theorem GN {p:Pt}{x v y:Int}(h:Ah p=true)(h0:0<=x)(h1:x<v)(h2:v<y)(h3:y<=p.n):Aw (Bf p x v) (Bf p v y)=true∧Bf p x y=⟨(Bf p x v).a,(Bf p x v).f,(Bf p x v).n+(Bf p v y).n⟩:=by
 by_cases ha:p.a=0
 ·simp[Bf,Aw,ha];omega
 ·have hb:(p.a==0)=false:=by simp[ha]
  simp only[Ah,hb,Zj,if_false,Zf,ZU] at h
  have hw:wrap64 (p.f+x+(v-x))=p.f+v:=by unfold wrap64;omega
  simp only[Bf,Aw,hb,Zj,if_false,beq_self_eq_true,Zp,Bool.false_or,hw,true_and]
  congr 1
  omega
theorem Dz {u v t:Int}(huv:u<=v)(hvt:v<=t):∀ (l:List Pt) (st:Int) (acc:List Pt) (B:Int),pgo none B acc=true->(∀ p∈l,Ah p=true)->Ae acc+Ae l<=B->B<=1000->0<=B->Ak acc (slp u v st l++slp v t st l)=Ak acc (slp u t st l)
 |[],_,_,_,_,_,_,_,_=>rfl
 |p::r,st,acc,B,ha,hp,hs,hB,h0=>by
  have he:=hp p (by simp)
  have hn:=av_ he
  have hr:∀ q∈r,Ah q=true:=fun q hq=>hp q (by simp[hq])
  have hf:∀ q∈r,1<=q.n:=fun q hq=>av_ (hr q hq)
  have hj:=az_ r hr
  have hb:=cH_ acc none B h0 ha
  have hg:=az_ acc hb.1
  simp only[Ae] at hs
  by_cases hA:st+p.n<=v
  ·have e2:slp v t st (p::r)=slp v t (st+p.n) r:=fo_ (by omega)
   rw[e2]
   by_cases hx:max (u-st) 0<min (t-st) p.n
   ·have e1:slp u v st (p::r)=Bf p (max (u-st) 0) (min (t-st) p.n)::slp u v (st+p.n) r:=eN_ rfl (by omega) hx
    have e3:slp u t st (p::r)=Bf p (max (u-st) 0) (min (t-st) p.n)::slp u t (st+p.n) r:=eN_ rfl rfl hx
    rw[e1,e3]
    have hc:=p9_ he (x:=max (u-st) 0) (y:=min (t-st) p.n) (by omega) hx (by omega)
    have hh:=gf_ p (max (u-st) 0) (min (t-st) p.n)
    obtain⟨k1,k2⟩:=pL_ ha hc (by omega) hB h0
    exact Dz huv hvt r (st+p.n) _ B k1 hr (by rw[k2];omega) hB h0
   ·have e1:slp u v st (p::r)=slp u v (st+p.n) r:=fo_ (by omega)
    have e3:slp u t st (p::r)=slp u t (st+p.n) r:=fo_ (by omega)
    rw[e1,e3]
    exact Dz huv hvt r (st+p.n) acc B ha hr (by omega) hB h0
  ·by_cases hV:v<=st
   ·rw[kU_ (p::r) st hV (fun q hq=>av_ (hp q hq)),ZM,Ek (p::r) st (u:=u) (v:=v) (by omega) hV (fun q hq=>av_ (hp q hq))]
   ·by_cases h1:u=v
    ·subst h1;rw[g8_ (YB _) (p::r)];rfl
    ·by_cases h2:v=t
     ·subst h2;rw[g8_ (u:=v) (YB _) (p::r),Yy]
     ·have e1:slp u v st (p::r)=[Bf p (max (u-st) 0) (v-st)]:=by
       rw[eN_ (x:=max (u-st) 0) (y:=v-st) rfl (by omega) (by omega),kU_ r _ (by omega) hf]
      have e2:slp v t st (p::r)=Bf p (v-st) (min (t-st) p.n)::slp v t (st+p.n) r:=eN_ (by omega) rfl (by omega)
      have e3:slp u t st (p::r)=Bf p (max (u-st) 0) (min (t-st) p.n)::slp v t (st+p.n) r:=by
       rw[eN_ (x:=max (u-st) 0) (y:=min (t-st) p.n) rfl rfl (by omega),Ek r _ (u:=u) (v:=v) (by omega) (by omega) hf]
      rw[e1,e2,e3]
      obtain⟨g1,g2⟩:=GN he (x:=max (u-st) 0) (v:=v-st) (y:=min (t-st) p.n) (by omega) (by omega) (by omega) (by omega)
      have n1:=gf_ p (max (u-st) 0) (v-st)
      have n2:=gf_ p (v-st) (min (t-st) p.n)
      have:=Gr (a:=acc) (p9_ he (x:=max (u-st) 0) (y:=v-st) (by omega) (by omega) (by omega)) (by omega) (p9_ he (x:=v-st) (y:=min (t-st) p.n) (by omega) (by omega) (by omega)) (by omega) (fun x hx=>⟨hb.1 x hx,by have:=Dg hb.1 x hx;omega⟩) g1
      rw[<-g2] at this
      have e4:Ak acc (Bf p (max (u-st) 0) (min (t-st) p.n)::slp v t (st+p.n) r)=Ak (Ak acc [Bf p (max (u-st) 0) (min (t-st) p.n)]) (slp v t (st+p.n) r):=rfl
      rw[e4,this];rfl
theorem FR {l:List Pt}(h:Ac l=true){u v t:Int}(h1:u<=v)(h2:v<=t):Ak (slp u v 0 l) (slp v t 0 l)=slp u t 0 l:=by
 obtain⟨_,a1,a2⟩:=ae_ h
 have e:=b2_ [] (slp u v 0 l) (slp v t 0 l)
 rw[fD_ (b8_ h u v)] at e
 rw[e,Dz h1 h2 l 0 [] 100 rfl a1 (by simp[Ae];omega) (by omega) (by omega),fD_ (b8_ h u t)]
theorem Ez {l:List Pt}(h:Ac l=true){u v t:Int}(h1:u<=v)(h2:v<=t)(e:List Ex):catO e (slp u t 0 l)=(catO e (slp u v 0 l)).bind (fun x=>(catO e (slp v t 0 l)).map (x++·)):=by
 obtain⟨_,a1,a2⟩:=ae_ (eJ_ h u v)
 obtain⟨_,b1,b2⟩:=ae_ (eJ_ h v t)
 have:=az_ _ a1
 have:=az_ _ b1
 rw[<-FR h h1 h2,Cw e _ _ 200 (f4_ _ none 100 200 (b8_ h u v) (by omega) (by omega)) b1 (by omega) (by omega) (by omega),A3]
theorem BW {l:List Pt}{e:List Ex}{x:ByteArray}{u t:Int}(hx:Ai l e=some x)(h0:0<=u)(h1:u<=t)(h2:t<=Ae l):Ai (slp u t 0 l) e=some (x.extract u.toNat t.toNat):=by
 obtain⟨h,he⟩:=fl_ hx
 obtain⟨_,a1,_⟩:=ae_ h
 rw[Bb h he] at hx
 have hl:slp 0 (Ae l) 0 l=l:=g9_ l 0 (by omega) (by omega) a1
 rw[<-hl,Ez h (u:=0) (v:=t) (t:=Ae l) (by omega) h2 e,Ez h (u:=0) (v:=u) (t:=t) h0 h1 e] at hx
 cases c1:catO e (slp 0 u 0 l) with
 |none=>simp[c1] at hx
 |some x1=>
  cases c2:catO e (slp u t 0 l) with
  |none=>simp[c1,c2] at hx
  |some y=>
   cases c3:catO e (slp t (Ae l) 0 l) with
   |none=>simp[c1,c2,c3] at hx
   |some z=>
    simp only[c1,c2,c3,YO,Option.map_some,Zo] at hx
    subst hx
    have r1:=(Br (l:=slp 0 u 0 l) (e:=e) (s:=x1) (by rw[Bb (eJ_ h 0 u) he,c1])).1
    have r2:=(Br (l:=slp u t 0 l) (e:=e) (s:=y) (by rw[Bb (eJ_ h u t) he,c2])).1
    rw[mZ_ (by omega) l 0 a1] at r1 r2
    have r1':x1.size=u.toNat:=by omega
    have r2':y.size=t.toNat-u.toNat:=by omega
    have q1:x1.data.toList.length=u.toNat:=by rw[<-r1'];simp
    have q2:y.data.toList.length=t.toNat-u.toNat:=by rw[<-r2'];simp
    rw[Bb (eJ_ h u t) he,c2]
    congr 1
    refine BV ?_
    rw[Bw,B5,B5,ZC,List.drop_left' q1,List.take_left' q2]
end
section
open Go.RowKit Go.BigFrame Tryz
def Cj (p:Po)(vol file:ByteArray)(fr tz:Int):ByteArray×Bool:=
 match BU p vol file with
 |none=>(⟨#[]⟩,false)
 |some ps=>if 0<=fr∧fr<=Ae ps∧fr<=tz∧tz<=Ae ps then (((Ai ps p.ex).getD ⟨#[]⟩).extract fr.toNat tz.toNat,true) else (⟨#[]⟩,false)
def Cp (p:Po)(vol:ByteArray):Option (List ByteArray):=if Aj p=true then (volI p.vs vol).bind fun i=>p.vs[i]?.map fun v=>v.its.map (·.nm) else none
end
end Go.Proofs.YtkodenjhajafpaaGreatDoor
