/- What is laid upon a file: contents. -/
import Derived.Test.YtkodenjhajafpaaGreatDoorU40
set_option maxHeartbeats 20000000
set_option maxRecDepth 100000
namespace Go.Proofs.YtkodenjhajafpaaGreatDoor
section
open Go.RowKit Tryz
theorem EI {l m o:List Pt}{e:List Ex}{t:Int}{x y z:ByteArray}(ho:BJ l t m=some o)(hx:Ai l e=some x)(hy:Ai m e=some y)(hz:Ai o e=some z) :
  z=(x++zs (t.toNat-x.size)).extract 0 t.toNat++y++(x++zs (t.toNat-x.size)).extract (min (x++zs (t.toNat-x.size)).size (t.toNat+y.size)) (x++zs (t.toNat-x.size)).size:=by
 obtain⟨hl,t0,t1,hm,hb,rfl⟩:=nL_ ho
 obtain⟨_,he⟩:=fl_ hx
 have lx:=Br hx
 have ly:=Br hy
 obtain⟨q1,q2⟩:=oL_ hl hm t1
 have hf:=az_ l (ae_ hl).2.1
 have hg:=az_ m (ae_ hm).2.1
 have c1:=BW hx (u:=0) (t:=min t (Ae l)) (by omega) (by omega) (by omega)
 have c2:=BW hx (u:=min (t+Ae m) (Ae l)) (t:=Ae l) (by omega) (by omega) (by omega)
 rw[Bb (eJ_ hl _ _) he] at c1 c2
 rw[Bb hm he] at hy
 rw[Bb hb he,Cw e _ _ 1000 rfl q1 (by simp[Ae];omega) (by omega) (by omega),ZM] at hz
 unfold Bq at hz
 by_cases hlt:Ae l<t
 ·have cg:catO e [⟨0,0,t-Ae l⟩]=some (zs (t-Ae l).toNat):=by rw[CE];simp[pieceO]
  rw[if_pos hlt,A3,A3,A3,c1,cg,hy,c2] at hz
  simp only[YO,Option.map_some,Zo] at hz
  subst hz
  have hs:t.toNat-x.size=(t-Ae l).toNat:=by omega
  rw[hs]
  have ha:(x++zs (t-Ae l).toNat).size=t.toNat:=by
   rw[ByteArray.size_append]
   have:(zs (t-Ae l).toNat).size=(t-Ae l).toNat:=by simp[zs,ByteArray.size]
   omega
  rw[ha,ZZ (by omega)]
  have e1:(min t (Ae l)).toNat=x.size:=by omega
  have e2:(min (t+Ae m) (Ae l)).toNat=x.size:=by omega
  have e3:(Ae l).toNat=x.size:=by omega
  rw[e1,e2,e3]
  have fall:∀ b:ByteArray,b.extract 0 b.size=b:=fun b=>by simp
  have f1:x.extract (Int.toNat 0) x.size=x:=by simp
  have f2:x.extract x.size x.size=⟨#[]⟩:=BV (by simp)
  have f3:(x++zs (t-Ae l).toNat).extract 0 t.toNat=x++zs (t-Ae l).toNat:=by rw[<-ha];exact fall _
  have f4:(x++zs (t-Ae l).toNat).extract t.toNat t.toNat=⟨#[]⟩:=BV (by simp)
  rw[f1,f2,f3,f4]
 ·have hs:t.toNat-x.size=0:=by omega
  have hc:x++zs 0=x:=BV (by rw[B5];simp[zs])
  rw[if_neg hlt,Yy,A3,A3,c1,hy,c2] at hz
  simp only[YO,Option.map_some,Zo] at hz
  subst hz
  rw[hs,hc]
  have e1:(min t (Ae l)).toNat=t.toNat:=by omega
  have e2:(min (t+Ae m) (Ae l)).toNat=min x.size (t.toNat+y.size):=by omega
  have e3:(Ae l).toNat=x.size:=by omega
  rw[e1,e2,e3]
  rfl
end
section
open Go Go.RowKit Go.BigFrame Tryz
theorem FQ:∀ {l:List Pt} {q:Option Pt} {left:Int},pgo q left l=true->∀ x∈l,Ah x=true
 |[],_,_,_=>by simp
 |p::r,q,left,h=>by
  have h2:Ah p=true∧∃ left',pgo (some p) left' r=true:=by
   cases q<;>simp only[pgo,Zf] at h
   ·exact⟨h.1.1,_,h.2⟩
   ·exact⟨h.1.1.1,_,h.2⟩
  intro x hx
  rcases Zn.1 hx with rfl | hx
  ·exact h2.1
  ·obtain⟨_,h3⟩:=h2.2;exact FQ h3 x hx
theorem DE {a:Int}:∀ {l:List Ex},(∀ e∈l,e.a≠a)->AK a l=⟨#[]⟩
 |[],_=>rfl
 |e::r,h=>by
  have h1:=h e (by simp)
  have h2:(e.a==a)=false:=ZV.2 h1
  simp only[AK,h2,Zj,if_false]
  exact DE (fun x hx=>h x (ZY _ hx))
theorem Ev {e:List Ex}:∀ {l:List Pt} {acc s:ByteArray},cgo e acc l=some s->(∀ x∈l,Ah x=true)->∀ q∈l,q.a≠0->∃ x∈e,x.a=q.a
 |[],_,_,_,_=>by simp
 |p::r,acc,s,h,hok=>by
  intro q hq h0
  simp only[cgo] at h
  cases hp:pieceO e p with
  |none=>rw[hp] at h;cases h
  |some d=>
   rw[hp] at h
   rcases Zn.1 hq with rfl | hq
   ·have h1:=hok q (by simp)
    have h2:(q.a==0)=false:=ZV.2 h0
    apply Classical.byContradiction
    intro ha
    have h3:AK q.a e=⟨#[]⟩:=DE (fun x hx hb=>ha ⟨x,hx,hb⟩)
    simp only[Ah,h2,Zj,if_false,Zf,ZU] at h1
    simp only[pieceO,h2,Zj,if_false,h3] at hp
    split at hp
    ·cases hp
    ·rename_i h4
     apply h4
     show ((⟨#[]⟩:ByteArray).size:Int)<_
     have:(⟨#[]⟩:ByteArray).size=0:=rfl
     rw[this];omega
   ·exact Ev h (fun x hx=>hok x (ZY _ hx)) q hq h0
theorem Er {size a:Int}{l L:List Ex}{d:ByteArray}{ps:List Pt}(h:AV size l d=some (L,a))(hc:(Ai ps l).isSome=true):Ai ps L=Ai ps l:=by
 obtain⟨h1,_,h3,_,_,h6,_⟩:=jC_ h
 obtain⟨s,hs⟩:=Option.isSome_iff_exists.1 hc
 have hl:l=L.filter (fun e=>!(e.a==a)):=by
  unfold EN at h6
  split at h6
  ·exact (Zi h6).symm
  ·cases h6
 have ha:=(fl_ hs).1
 have hb:cgo l ⟨#[]⟩ ps=some s:=by
  have:=hs;unfold Ai at this;rw[if_pos ⟨ha,(fl_ hs).2⟩] at this;exact this
 simp only[Ac,Zf] at ha
 have h7:=h9_ (f:=fun e:Ex=>!(e.a==a)) (ps:=ps) (iI_ h3) (fun q hq h0 x _ he=>by
  obtain⟨y,hy,hf⟩:=Ev hb (FQ ha.2) q hq h0
  rw[hl] at hy
  have:=(YG.1 hy).2
  rw[he,<-hf];exact this)
 rw[<-hl] at h7
 exact h7.symm
def FZ (o:Opr):ByteArray:=if o.k=5 then o.to else o.vol
def Dh (p n:Po)(v:Vo):Prop:=∃ (j:Nat) (u:Vo),n.vs[j]?=some u∧u.nm=v.nm∧u.its=v.its∧∀ x∈v.its,Ai x.ps n.ex=Ai x.ps p.ex
theorem Dh.late {p q n:Po}{v:Vo}(h:Dh p n v):Dh p (AX q n) v:=h
theorem GT {p:Po}{L:List Ex}{i k:Nat}{v u u':Vo}(hv:p.vs[k]?=some v)(hu:p.vs[i]?=some u)(hne:v.nm.toList≠u.nm.toList)(hL:∀ x∈v.its,Ai x.ps L=Ai x.ps p.ex):Dh p {p with ex:=L,vs:=p.vs.set i u'} v:=by
 have ha:i≠k:=by
  rintro rfl
  rw[hu] at hv;cases hv;exact hne rfl
 exact⟨k,v,by show (p.vs.set i u')[k]?=_;rw[ZJ ha];exact hv,rfl,rfl,hL⟩
theorem DC {vs:List Vo}{s:ByteArray}{i:Nat}{u:Vo}(h:volI vs s=some i)(hu:vs[i]?=some u):u.nm.toList=s.toList:=by
 obtain⟨h1,h2,_⟩:=ZA.1 h
 have:vs[i]=u:=by rw[ZI h1] at hu;exact Zi hu
 rw[this] at h2
 exact beq_iff_eq.1 h2
theorem GZ {p:Po}{o:Opr}{ps:List Pt}(h0:(Ag p o).1=0)(hc:(Ai ps p.ex).isSome=true):Ai ps (Ag p o).2.1=Ai ps p.ex:=by
 revert h0
 unfold Ag
 dsimp only
 split
 ·split
  ·intro h;simp at h
  ·rename_i L a hpl;intro _;exact Er hpl hc
 ·split
  ·split
   ·intro h;simp at h
   ·split<;>(intro _;rfl)
  ·split
   ·intro h;simp at h
   ·split
    ·intro _;rfl
    ·split<;>(intro _;rfl)
theorem FV {p:Po}{o:Opr}(hp:Aj p=true)(h0:(BI p o).1=0){k:Nat}{v:Vo}(hv:p.vs[k]?=some v)(hne:v.nm.toList≠(FZ o).toList∨v.fx=true∧o.k≠7):Dh p (BI p o).2 v:=by
 have hc:∀ x∈v.its,(Ai x.ps p.ex).isSome=true:=fun x hx=>by
  have h1:=(b0_ (bL_ hp).2.1 v (Zc hv)).1
  simp only[itemsB,Zf] at h1
  exact db_ h1.2 x hx
 have ha:Dh p p v:=⟨k,v,hv,rfl,rfl,fun _ _=>rfl⟩
 have hm:=(Zb.1 hv).1
 revert h0
 unfold BI
 split
 ·rename_i hkk
  intro h0
  unfold Ao at h0 ⊢
  dsimp only at h0 ⊢
  have hb:v.nm.toList≠(if o.k=5 then o.to else o.vol).toList∨v.fx=true∧o.k≠7:=hne
  cases hi:volI p.vs (if o.k=5 then o.to else o.vol) with
  |none=>rw[hi] at h0;simp at h0
  |some i=>
   rw[hi] at h0;dsimp only at h0 ⊢
   cases hu:p.vs[i]? with
   |none=>rw[hu] at h0;simp at h0
   |some u=>
    rw[hu] at h0;dsimp only at h0 ⊢
    have hl:=DC hi hu
    by_cases hfx:u.fx=true
    ·rw[if_pos hfx] at h0;simp at h0
    ·rw[if_neg hfx] at h0 ⊢
     by_cases hr:(Ag p o).1=0
     ·rw[if_pos hr] at h0 ⊢
      refine GT hv hu ?_ (fun x hx=>GZ hr (hc x hx))
      rcases hb with hn | ⟨hf,_⟩
      ·rw[hl];exact hn
      ·intro he
       have hg:i=k:=by
        have h1:=pH_ (bL_ hp).2.2.2.2 hv
        have h2:=pH_ (bL_ hp).2.2.2.2 hu
        have h3:volI p.vs v.nm=volI p.vs u.nm:=by unfold volI;rw[he]
        rw[h1,h2] at h3;exact (Zi h3).symm
       subst hg
       rw[hu] at hv;cases hv;exact hfx hf
     ·rw[if_neg hr] at h0;exact absurd h0 hr
 ·rename_i hkk
  intro h0
  unfold Ay at h0 ⊢
  have hh:∀ (y:Vo) (nx:Int),Dh p {p with vs:=p.vs++[y],next:=nx} v:=fun y nx=>⟨k,v,by show (p.vs++[y])[k]?=_;rw[ZD hm];exact hv,rfl,rfl,fun _ _=>rfl⟩
  have h5:o.k≠5:=by intro h;exact hkk (.inr (.inr (.inl h)))
  have hb:v.nm.toList≠o.vol.toList∨v.fx=true∧o.k≠7:=by simpa only[FZ,if_neg h5] using hne
  cases hi:volI p.vs o.vol with
  |none=>
   rw[hi] at h0;dsimp only at h0 ⊢
   by_cases hk:o.k=1
   ·rw[if_pos hk];exact hh _ _
   ·rw[if_neg hk];exact ha
  |some i=>
   rw[hi] at h0;dsimp only at h0 ⊢
   cases hu:p.vs[i]? with
   |none=>dsimp only;exact ha
   |some u=>
    rw[hu] at h0;dsimp only at h0 ⊢
    have hl:=DC hi hu
    by_cases hk1:o.k=1
    ·rw[if_pos hk1];exact ha
    rw[if_neg hk1] at h0 ⊢
    by_cases hk6:o.k=6
    ·rw[if_pos hk6]
     cases volI p.vs o.to with
     |none=>exact hh _ _
     |some _=>exact ha
    rw[if_neg hk6] at h0 ⊢
    by_cases hk7:o.k=7
    ·rw[if_pos hk7]
     have hn:v.nm.toList≠u.nm.toList:=by
      rcases hb with hn | ⟨_,hn⟩
      ·rw[hl];exact hn
      ·exact absurd hk7 hn
     have hg:i≠k:=by rintro rfl;rw[hu] at hv;cases hv;exact hn rfl
     have ho:=(Zb.1 hu).1
     by_cases hlt2:k<i
     ·exact⟨k,v,by
       show (p.vs.take i++p.vs.drop (i+1))[k]?=_
       rw[ZD (by rw[Zz];omega),Ya hlt2];exact hv,rfl,rfl,fun _ _=>rfl⟩
     ·exact⟨k-1,v,by
       show (p.vs.take i++p.vs.drop (i+1))[k-1]?=_
       rw[Zv (by rw[Zz];omega),Zz,List.getElem?_drop,show i+1+(k-1-min i p.vs.length)=k by omega];exact hv,rfl,rfl,fun _ _=>rfl⟩
    rw[if_neg hk7] at h0 ⊢
    by_cases hk8:o.k=8
    ·rw[if_pos hk8]
     by_cases hfx:u.fx=true
     ·rw[if_pos hfx];exact ha
     ·rw[if_neg hfx]
      by_cases hg:i=k
      ·subst hg
       rw[hu] at hv;cases hv
       exact⟨i,{v with fx:=true},by show (p.vs.set i _)[i]?=_;rw[Zx hm],rfl,rfl,fun _ _=>rfl⟩
      ·exact⟨k,v,by show (p.vs.set i _)[k]?=_;rw[ZJ hg];exact hv,rfl,rfl,fun _ _=>rfl⟩
    rw[if_neg hk8] at h0 ⊢
    by_cases hk4:o.k=4
    ·rw[if_pos hk4] at h0 ⊢
     by_cases hfx:u.fx=true
     ·rw[if_pos hfx];exact ha
     ·rw[if_neg hfx] at h0 ⊢
      cases hj:itI u.its o.file with
      |none=>exact ha
      |some j=>
       dsimp only
       have hg:i≠k:=by
        rintro rfl
        rw[hu] at hv;cases hv
        rcases hb with hn | ⟨hf,_⟩
        ·exact hn hl
        ·exact hfx hf
       exact⟨k,v,by show (p.vs.set i _)[k]?=_;rw[ZJ hg];exact hv,rfl,rfl,fun _ _=>rfl⟩
    rw[if_neg hk4];exact ha
theorem Hn {p:Po}{o:Opr}(hp:Aj p=true)(h0:(opS p o).1=0){k:Nat}{v:Vo}(hv:p.vs[k]?=some v)(hne:v.nm.toList≠(FZ o).toList∨v.fx=true∧o.k≠7):Aj (opS p o).2=true∧Dh p (opS p o).2 v:=by
 revert h0
 unfold opS
 split
 ·split
  ·intro _
   exact⟨le_ hp,k,v,hv,rfl,rfl,fun x hx=>iy_ hp (Zc hv) hx⟩
  ·split
   ·rename_i ht
    split
    ·rename_i hb
     intro _
     exact⟨hb,(FV hp ht hv hne).late⟩
    ·intro h;simp at h
   ·rename_i ht
    intro h;exact absurd h ht
 ·intro h;simp at h
def nlB:ByteArray:=⟨#[10]⟩
def DK (p:Po)(vol f:ByteArray):ByteArray:=(Cj p vol f 0 (Cm p vol f).1).1
def BK (p:Po)(vol:ByteArray):List ByteArray->ByteArray->ByteArray
 |[],acc=>acc
 |f::r,acc=>BK p vol r ((((acc++f)++nlB)++DK p vol f)++nlB)
def Dd (p:Po)(vol:ByteArray):ByteArray:=match Cp p vol with
 |none=>⟨#[110,111,110,101]⟩
 |some l=>BK p vol l ⟨#[]⟩
theorem Eh {p n:Po}{vol:ByteArray}(h:∀ f,DK n vol f=DK p vol f):∀ (l:List ByteArray) (acc:ByteArray),BK n vol l acc=BK p vol l acc
 |[],_=>rfl
 |x::r,acc=>by rw[BK,BK,h,Eh h r]
theorem Gw {p n:Po}{v:Vo}{k:Nat}(hp:Aj p=true)(hn:Aj n=true)(hv:p.vs[k]?=some v)(h:Dh p n v):Dd n v.nm=Dd p v.nm:=by
 obtain⟨j,u,hu,hf,ha,hb⟩:=h
 have i1:=pH_ (bL_ hp).2.2.2.2 hv
 have i2:volI n.vs v.nm=some j:=by rw[<-hf];exact pH_ (bL_ hn).2.2.2.2 hu
 have q1:∀ f,Aq p.vs v.nm f=(itI v.its f).bind fun m=>v.its[m]?.map (·.ps):=fun f=>by
  unfold Aq;rw[i1];dsimp only[Option.bind];rw[hv]
 have q2:∀ f,Aq n.vs v.nm f=Aq p.vs v.nm f:=fun f=>by
  rw[q1];unfold Aq;rw[i2];dsimp only[Option.bind];rw[hu];dsimp only;rw[ha]
 have he:∀ f,DK n v.nm f=DK p v.nm f:=fun f=>by
  unfold DK Cj Cm BU
  rw[if_pos hp,if_pos hn,if_pos hp,if_pos hn,q2]
  cases hq:Aq p.vs v.nm f with
  |none=>rfl
  |some ps=>
   have hc:Ai ps n.ex=Ai ps p.ex:=by
    rw[q1] at hq
    cases hm:itI v.its f with
    |none=>rw[hm] at hq;cases hq
    |some m=>
     rw[hm] at hq;dsimp only[Option.bind] at hq
     cases hx:v.its[m]? with
     |none=>rw[hx] at hq;cases hq
     |some x=>
      rw[hx] at hq
      have hg:x.ps=ps:=Zi hq
      rw[<-hg]
      exact hb x (Zc hx)
   dsimp only
   rw[hc]
 unfold Dd Cp
 rw[if_pos hp,if_pos hn,i1,i2]
 dsimp only[Option.bind]
 rw[hv,hu]
 dsimp only[Option.map]
 rw[ha]
 exact Eh he _ _
theorem DY {p:Po}{o:Opr}{R:Int×Po}(hR:BD p o=R)(hc:R.1≠1):Aj p=true∧opS p o=R:=by
 unfold BD at hR
 split at hR
 ·rename_i hp;exact⟨hp,hR⟩
 ·rw[<-hR] at hc;exact absurd rfl hc
theorem Gq {p q:Po}{o:Opr}{R:Int×Po}(hR:BD p o=R)(hc:R.1=0)(hq:R.2=q){k:Nat}{v:Vo}(hv:p.vs[k]?=some v)(hne:v.nm.toList≠(FZ o).toList∨v.fx=true∧o.k≠7):Dd q v.nm=Dd p v.nm:=by
 obtain⟨hp,ho⟩:=DY hR (by omega)
 have h1:=Hn hp (by rw[ho];exact hc) hv hne
 rw[ho,hq] at h1
 exact Gw hp h1.1 hv h1.2
theorem FP {p:Po}{o:Opr}(h:(opS p o).1≠0):(opS p o).2=p:=by
 revert h
 unfold opS
 split
 ·split
  ·intro h;exact absurd rfl h
  ·split
   ·split
    ·intro h;exact absurd rfl h
    ·intro _;rfl
   ·intro _;rfl
 ·intro _;rfl
theorem HN {p q:Po}{o:Opr}{R:Int×Po}(hR:BD p o=R)(hc:R.1≠1)(hq:R.2=q){k:Nat}{v:Vo}(hv:p.vs[k]?=some v)(hf:v.fx=true)(hk:o.k≠7):Dd q v.nm=Dd p v.nm:=by
 by_cases h0:R.1=0
 ·exact Gq hR h0 hq hv (.inr ⟨hf,hk⟩)
 ·have ho:=(DY hR hc).2
  have:=FP (p:=p) (o:=o) (by rw[ho];exact h0)
  rw[ho,hq] at this
  rw[this]
theorem EA (x:ByteArray):x++zs 0=x:=BV (by rw[B5];simp[zs])
theorem Hj {l:List It}(hr:EB l){x:It}(hx:x∈l):∃ k,itI l x.nm=some k∧l[k]?=some x:=by
 obtain⟨j,hj,ha⟩:=YS hx
 cases hi:itI l x.nm with
 |none=>
  have:=YL.1 hi x hx
  simp at this
 |some i=>
  obtain⟨h1,h2,_⟩:=ZA.1 hi
  have he:l[i].nm.toList=x.nm.toList:=beq_iff_eq.1 h2
  have hb:i=j:=by
   rcases Nat.lt_trichotomy i j with h | h | h
   ·have:=Yb.1 hr i j h1 hj h
    rw[ha,he,cn_] at this;cases this
   ·exact h
   ·have:=Yb.1 hr j i hj h1 h
    rw[ha,he,cn_] at this;cases this
  subst hb
  exact⟨i,rfl,by rw[ZI h1,ha]⟩
theorem Ea {p:Po}{o:Opr}(_hp:Aj p=true)(hk:o.k=2∨o.k=3∨o.k=5∨o.k=10)(h0:(opS p o).1=0):(Ag p o).1=0∧opB o=true∧Aj (opS p o).2=true∧(opS p o).2.ex=(Ag p o).2.1∧Aq (opS p o).2.vs (if o.k=5 then o.to else o.vol) (if o.k=5 then o.into else o.file)=some (Ag p o).2.2:=by
 have hg:¬ o.k=9:=by omega
 have ht:BI p o=Ao p o:=by unfold BI;rw[if_pos hk]
 have ho:opB o=true:=by
  cases h:opB o with
  |true=>rfl
  |false=>unfold opS at h0;rw[h] at h0;simp at h0
 have e1:opS p o=if (Ao p o).1=0 then (if Aj (AX p (Ao p o).2)=true then (0,AX p (Ao p o).2) else (5,p)) else ((Ao p o).1,p):=by
  unfold opS;rw[if_pos ho,if_neg hg,ht]
 have hf:(Ao p o).1=0:=by
  apply Classical.byContradiction;intro h
  rw[e1,if_neg h] at h0;exact h h0
 have hb:Aj (AX p (Ao p o).2)=true:=by
  apply Classical.byContradiction;intro h
  rw[e1,if_pos hf,if_neg h] at h0;simp at h0
 have e2:(opS p o).2=AX p (Ao p o).2:=by rw[e1,if_pos hf,if_pos hb]
 rw[e2]
 have e3:Ao p o=match volI p.vs (if o.k=5 then o.to else o.vol) with
   |none=>(3,p)
   |some i=>match p.vs[i]? with
    |none=>(3,p)
    |some v=>if v.fx=true then (6,p) else if (Ag p o).1=0 then (0,{p with ex:=(Ag p o).2.1,vs:=p.vs.set i {v with its:=A7 ⟨(if o.k=5 then o.into else o.file),(Ag p o).2.2⟩ v.its}}) else ((Ag p o).1,p):=rfl
 generalize hnm:(if o.k=5 then o.to else o.vol)=nm at *
 generalize hfl:(if o.k=5 then o.into else o.file)=fl at *
 cases hi:volI p.vs nm with
 |none=>rw[e3,hi] at hf;simp at hf
 |some i=>
  cases hv:p.vs[i]? with
  |none=>rw[e3,hi] at hf;dsimp only at hf;rw[hv] at hf;simp at hf
  |some v=>
   rw[hi] at e3;dsimp only at e3;rw[hv] at e3;dsimp only at e3
   by_cases hfx:v.fx=true
   ·rw[e3,if_pos hfx] at hf;simp at hf
   rw[if_neg hfx] at e3
   by_cases hr:(Ag p o).1=0
   ·rw[if_pos hr] at e3
    refine ⟨hr,ho,hb,by rw[e3];rfl,?_⟩
    rw[e3] at hb ⊢
    have hh:=(Zb.1 hv).1
    have he:(p.vs.set i {v with its:=A7 ⟨fl,(Ag p o).2.2⟩ v.its})[i]?=some {v with its:=A7 ⟨fl,(Ag p o).2.2⟩ v.its}:=Zx hh
    have hn:=DC hi hv
    have hm:=pH_ (bL_ hb).2.2.2.2 he
    have hc:volI (p.vs.set i {v with its:=A7 ⟨fl,(Ag p o).2.2⟩ v.its}) nm=some i:=by
     rw[<-hm]
     unfold volI
     simp only[hn]
     rfl
    have h1:=(b0_ (bL_ hb).2.1 _ (Zc he)).1
    simp only[itemsB,Zf] at h1
    obtain⟨m,hj,hl⟩:=Hj (mS_ h1.2).2 (oR_ ⟨fl,(Ag p o).2.2⟩ v.its)
    show Aq (p.vs.set i {v with its:=A7 ⟨fl,(Ag p o).2.2⟩ v.its}) nm fl=_
    unfold Aq
    rw[hc]
    dsimp only[Option.bind]
    rw[he]
    dsimp only
    have ha:itI (A7 ⟨fl,(Ag p o).2.2⟩ v.its) fl=some m:=hj
    rw[ha]
    dsimp only[Option.bind]
    rw[hl]
    rfl
   ·rw[e3,if_neg hr] at hf;exact absurd hf hr
theorem Ds {p:Po}{vol file:ByteArray}{ps:List Pt}(hp:Aj p=true)(hps:Aq p.vs vol file=some ps):∃ x:ByteArray,Ai ps p.ex=some x∧x.size<=100∧Ae ps=x.size∧Cm p vol file=((x.size:Int),true)∧Cj p vol file 0 x.size=(x,true):=by
 obtain⟨ha,hc⟩:=bb_ hp hps
 obtain⟨x,hx⟩:=Option.isSome_iff_exists.1 hc
 obtain⟨l1,l2⟩:=Br hx
 refine ⟨x,hx,l2,l1.symm,?_,?_⟩
 ·unfold Cm
  rw[if_pos hp,hps]
  simp only[Cc,ha,if_true,l1]
 ·unfold Cj BU
  rw[if_pos hp,hps]
  dsimp only
  rw[if_pos ⟨by omega,by omega,by omega,by omega⟩,hx]
  dsimp only[Option.getD]
  have:x.extract (0:Int).toNat ((x.size:Int)).toNat=x:=by
   have h1:((x.size:Int)).toNat=x.size:=by omega
   rw[h1]
   exact ByteArray.extract_zero_size
  rw[this]
theorem ES {d:Int}{e:List Ex}(hs:Ap 400 e=true)(h1:1<=d)(h2:d<=100):Ac [⟨0,0,d⟩]=true∧Ai [⟨0,0,d⟩] e=some (zs d.toNat):=by
 have ha:Ac [⟨0,0,d⟩]=true:=by
  simp[Ac,pgo,Ah];omega
 refine ⟨ha,?_⟩
 rw[Bb ha hs,CE]
 simp[pieceO]
theorem Ew {q ps:List Pt}{e:List Ex}{x z:ByteArray}{t d:Int}(hx:Ai q e=some x)(hz:Ai ps e=some z)(hps:ps=AH q t [⟨0,0,d⟩])(t0:0<=t)(t1:t<=100)(h1:1<=d)(h2:d<=100) :
  z=(x++zs (t.toNat-x.size)).extract 0 t.toNat++zs d.toNat++(x++zs (t.toNat-x.size)).extract (min (x++zs (t.toNat-x.size)).size (t.toNat+d.toNat)) (x++zs (t.toNat-x.size)).size:=by
 obtain⟨hq,hs⟩:=fl_ hx
 obtain⟨hm,hy⟩:=ES (e:=e) hs h1 h2
 have ha:=(fl_ hz).1
 have hl:BJ q t [⟨0,0,d⟩]=some ps:=by
  rw[mj_ hq hm t0 t1,<-hps,if_pos ha]
 have:=EI hl hx hy hz
 rw[ca_] at this
 exact this
theorem HY {p:Po}{o:Opr}(hp:Aj p=true)(hk:o.k=3)(h0:(opS p o).1=0):∃ x z:ByteArray,x.size<=100∧z.size<=100∧0<=o.ln∧o.ln<=100∧Cm p o.vol o.file=((x.size:Int),true)∧Cj p o.vol o.file 0 x.size=(x,true)∧Cm (opS p o).2 o.vol o.file=((z.size:Int),true)∧Cj (opS p o).2 o.vol o.file 0 z.size=(z,true)∧z=(x++zs (o.ln.toNat-x.size)).extract 0 o.ln.toNat:=by
 obtain⟨f1,f2,f3,f4,f5⟩:=Ea hp (by omega) h0
 have hg:¬ o.k=5:=by omega
 rw[if_neg hg,if_neg hg] at f5
 have hb:0<=o.ln∧o.ln<=100:=by
  unfold opB at f2
  rw[if_neg (by omega),if_neg (by omega),if_pos hk] at f2
  simp only[inB,Zf,ZU] at f2
  exact f2.1.2
 rw[oU_ hk] at f1 f4 f5
 cases hq:Aq p.vs o.vol o.file with
 |none=>rw[hq] at f1;simp at f1
 |some q=>
  rw[hq] at f1 f4 f5;dsimp only at f1 f4 f5
  obtain⟨x,x1,x2,x3,x4,x5⟩:=Ds hp hq
  obtain⟨z,z1,z2,z3,z4,z5⟩:=Ds f3 f5
  refine ⟨x,z,x2,z2,hb.1,hb.2,x4,x5,z4,z5,?_⟩
  by_cases hl:o.ln > Ae q
  ·rw[if_pos hl] at f4 z1
   dsimp only at f4 z1
   rw[f4] at z1
   have h:=Ew x1 z1 rfl (by omega) (by omega) (by omega) (by omega)
   rw[h,x3]
   have e1:((x.size:Int)).toNat=x.size:=by omega
   have e2:(o.ln-(x.size:Int)).toNat=o.ln.toNat-x.size:=by omega
   rw[e1,e2,Nat.sub_self,EA]
   have hX:x.data.toList.length=x.size:=Array.length_toList
   have hZ:(zs (o.ln.toNat-x.size)).data.toList.length=o.ln.toNat-x.size:=
      Array.length_toList.trans (ca_ _)
   apply BV
   rw[B5,B5,Bw,Bw,Bw,B5]
   rw[ZZ (by omega),YC,Nat.sub_zero,Zk (by omega),Nat.sub_self,Yx,Yy,YC,Nat.sub_zero,Zk (by rw[ZE];omega)]
  ·rw[if_neg hl] at f4 z1
   dsimp only at f4 z1
   rw[f4] at z1
   obtain⟨hh,hs⟩:=fl_ x1
   have he:=BW (u:=0) (t:=o.ln) x1 (by omega) hb.1 (by omega)
   have hc:=(fl_ he).1
   have hz:=z1
   rw[Bb (fl_ z1).1 hs] at z1
   have hf:Ae (slp 0 o.ln 0 q)<=100:=by
    have:=(Br he);omega
   have ha:∀ y∈slp 0 o.ln 0 q,Ah y=true:=by
    simp only[Ac,Zf] at hc
    exact FQ hc.2
   rw[Cw p.ex (slp 0 o.ln 0 q) [] 100 rfl ha (by simpa [Ae] using hf) (by omega) (by omega),ZM,<-Bb hc hs,he] at z1
   have e0:z=x.extract 0 o.ln.toNat:=(Zi z1).symm
   rw[e0]
   have h3:o.ln.toNat<=x.size:=by omega
   have h4:o.ln.toNat-x.size=0:=by omega
   rw[h4,EA]
theorem HA {p:Po}{o:Opr}(hp:Aj p=true)(hk:o.k=10)(h0:(opS p o).1=0):∃ x z:ByteArray,x.size<=100∧z.size<=100∧0<=o.at'∧o.at'<=100∧1<=o.ln∧o.ln<=100∧Cm p o.vol o.file=((x.size:Int),true)∧Cj p o.vol o.file 0 x.size=(x,true)∧Cm (opS p o).2 o.vol o.file=((z.size:Int),true)∧Cj (opS p o).2 o.vol o.file 0 z.size=(z,true)∧z=(x++zs ((o.at'+o.ln).toNat-x.size)).extract 0 o.at'.toNat++zs o.ln.toNat++(x++zs ((o.at'+o.ln).toNat-x.size)).extract (o.at'+o.ln).toNat (x++zs ((o.at'+o.ln).toNat-x.size)).size:=by
 obtain⟨f1,f2,f3,f4,f5⟩:=Ea hp (by omega) h0
 have hb:¬ o.k=5:=by omega
 rw[if_neg hb,if_neg hb] at f5
 have ha:(0<=o.at'∧o.at'<=100)∧1<=o.ln∧o.ln<=100:=by
  unfold opB at f2
  rw[if_neg (by omega),if_neg (by omega),if_neg (by omega),if_neg (by omega),if_pos hk] at f2
  simp only[inB,Zf,ZU] at f2
  exact⟨f2.1.1.2,f2.1.2⟩
 rw[nO_ hk] at f1 f4 f5
 cases hq:Aq p.vs o.vol o.file with
 |none=>rw[hq] at f1;simp at f1
 |some q=>
  rw[hq] at f1 f4 f5;dsimp only at f1 f4 f5
  obtain⟨x,x1,x2,x3,x4,x5⟩:=Ds hp hq
  obtain⟨z,z1,z2,z3,z4,z5⟩:=Ds f3 f5
  refine ⟨x,z,x2,z2,ha.1.1,ha.1.2,ha.2.1,ha.2.2,x4,x5,z4,z5,?_⟩
  rw[f4] at z1
  have h:=Ew x1 z1 rfl ha.1.1 ha.1.2 ha.2.1 ha.2.2
  rw[h]
  have e1:(o.at'+o.ln).toNat=o.at'.toNat+o.ln.toNat:=by omega
  rw[e1]
  have hX:x.data.toList.length=x.size:=Array.length_toList
  have hZ:∀ k,(zs k).data.toList=List.replicate k (0:UInt8):=fun k=>by simp[zs]
  have l1:1<=o.ln.toNat:=by omega
  generalize o.at'.toNat=A at *
  generalize o.ln.toNat=L at *
  apply BV
  simp only[B5,Bw,ByteArray.size_append,ca_,hZ]
  by_cases c1:A+L<=x.size
  ·rw[show A-x.size=0 by omega,show A+L-x.size=0 by omega]
   simp only[List.replicate_zero,Yy,Nat.add_zero]
   rw[Nat.min_eq_right c1]
  ·have d1:min (x.size+(A-x.size)) (A+L)=x.size+(A-x.size):=ZZ (by omega)
   rw[d1]
   have d2:(x.data.toList++List.replicate (A-x.size) (0:UInt8)).drop (x.size+(A-x.size))=[]:=Ze (by rw[ZE,List.length_replicate,hX];exact Zd _)
   have d3:(x.data.toList++List.replicate (A+L-x.size) (0:UInt8)).drop (A+L)=[]:=Ze (by rw[ZE,List.length_replicate,hX];omega)
   rw[d2,d3,List.take_nil,List.take_nil,Yy,Yy]
   congr 1
   simp only[YC,Nat.sub_zero]
   by_cases c2:A<=x.size
   ·rw[List.take_append_of_le_length (by omega),List.take_append_of_le_length (by omega)]
   ·have d4:(x.data.toList++List.replicate (A+L-x.size) (0:UInt8)).take A=(x.data.toList++List.replicate (A-x.size) (0:UInt8)).take A:=by
     rw[show A+L-x.size=(A-x.size)+L by omega,<-List.replicate_append_replicate,<-ZC]
     exact List.take_append_of_le_length (by rw[ZE,List.length_replicate,hX];omega)
    rw[d4]
end
end Go.Proofs.YtkodenjhajafpaaGreatDoor
