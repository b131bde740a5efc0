/- Ground. -/
import Derived.ChangeSame
import Derived.ChangeVars
import Derived.JoinedOf
import Derived.LaidLaws
import Derived.LaidHandle
import Derived.Stop.Joined
import Derived.SevenTiedAt
import Derived.Test.YtahenegmbmnmjaaGreatDoorU44
import Derived.Test.YtahenegmbmnmjaaGreatDoorU38
set_option maxHeartbeats 20000000
set_option maxRecDepth 100000
namespace Go.Proofs.YtahenegmbmnmjaaGreatDoor
section
open Go Go.RowKit Go.BigFrame _root_.Go.Proofs.Tryz
theorem G3:∀ {l:List Pt} {q:Option Pt} {left:Int},pgo q left l=true->∀ x∈l,Ag x=true
 |[],_,_,_=>by simp
 |p::r,q,left,h=>by
  have h2:Ag p=true∧∃ left',pgo (some p) left' r=true:=by
   cases q<;>simp only[pgo,Zf] at h
   ·exact⟨h.1.1,_,h.2⟩
   ·exact⟨h.1.1.1,_,h.2⟩
  intro x hx
  rcases Zn.1 hx with rfl | hx
  ·exact h2.1
  ·obtain⟨_,h3⟩:=h2.2;exact G3 h3 x hx
theorem DK {a:Int}:∀ {l:List Ex},(∀ e∈l,e.a≠a)->AM a l=⟨#[]⟩
 |[],_=>rfl
 |e::r,h=>by
  have h1:=h e (by simp)
  have h2:(e.a==a)=false:=ZV.2 h1
  simp only[AM,h2,Zj,if_false]
  exact DK (fun x hx=>h x (ZY _ hx))
theorem ED {e:List Ex}:∀ {l:List Pt} {acc s:ByteArray},cgo e acc l=some s->(∀ x∈l,Ag x=true)->∀ q∈l,q.a≠0->∃ x∈e,x.a=q.a
 |[],_,_,_,_=>by simp
 |p::r,acc,s,h,hok=>by
  intro q hq h0
  simp only[cgo] at h
  cases hp:pieceO e p with
  |none=>rw[hp] at h;cases h
  |some d=>
   rw[hp] at h
   rcases Zn.1 hq with rfl | hq
   ·have h1:=hok q (by simp)
    have h2:(q.a==0)=false:=ZV.2 h0
    apply Classical.byContradiction
    intro ha
    have h3:AM q.a e=⟨#[]⟩:=DK (fun x hx hb=>ha ⟨x,hx,hb⟩)
    simp only[Ag,h2,Zj,if_false,Zf,ZU] at h1
    simp only[pieceO,h2,Zj,if_false,h3] at hp
    split at hp
    ·cases hp
    ·rename_i h4
     apply h4
     show ((⟨#[]⟩:ByteArray).size:Int)<_
     have:(⟨#[]⟩:ByteArray).size=0:=rfl
     rw[this];omega
   ·exact ED h (fun x hx=>hok x (ZY _ hx)) q hq h0
theorem Ez {size a:Int}{l L:List Ex}{d:ByteArray}{ps:List Pt}(h:AW size l d=some (L,a))(hc:(Ak ps l).isSome=true):Ak ps L=Ak ps l:=by
 obtain⟨h1,_,h3,_,_,h6,_⟩:=jC_ h
 obtain⟨s,hs⟩:=Option.isSome_iff_exists.1 hc
 have hl:l=L.filter (fun e=>!(e.a==a)):=by
  unfold ES at h6
  split at h6
  ·exact (Zi h6).symm
  ·cases h6
 have ha:=(fl_ hs).1
 have hb:cgo l ⟨#[]⟩ ps=some s:=by
  have:=hs;unfold Ak at this;rw[if_pos ⟨ha,(fl_ hs).2⟩] at this;exact this
 simp only[Ac,Zf] at ha
 have h7:=h9_ (f:=fun e:Ex=>!(e.a==a)) (ps:=ps) (iI_ h3) (fun q hq h0 x _ he=>by
  obtain⟨y,hy,hf⟩:=ED hb (G3 ha.2) q hq h0
  rw[hl] at hy
  have:=(YG.1 hy).2
  rw[he,<-hf];exact this)
 rw[<-hl] at h7
 exact h7.symm
def DM (o:Opr):ByteArray:=if o.k=5 then o.to else o.vol
def Dj (p n:Po)(v:Vo):Prop:=∃ (j:Nat) (u:Vo),n.vs[j]?=some u∧u.nm=v.nm∧u.its=v.its∧∀ x∈v.its,Ak x.ps n.ex=Ak x.ps p.ex
theorem Dj.late {p q n:Po}{v:Vo}(h:Dj p n v):Dj p (A7 q n) v:=h
theorem GW {p:Po}{L:List Ex}{i k:Nat}{v u u':Vo}(hv:p.vs[k]?=some v)(hu:p.vs[i]?=some u)(hne:v.nm.toList≠u.nm.toList)(hL:∀ x∈v.its,Ak x.ps L=Ak x.ps p.ex):Dj p {p with ex:=L,vs:=p.vs.set i u'} v:=by
 have ha:i≠k:=by
  rintro rfl
  rw[hu] at hv;cases hv;exact hne rfl
 exact⟨k,v,by show (p.vs.set i u')[k]?=_;rw[ZJ ha];exact hv,rfl,rfl,hL⟩
theorem EH {vs:List Vo}{s:ByteArray}{i:Nat}{u:Vo}(h:volI vs s=some i)(hu:vs[i]?=some u):u.nm.toList=s.toList:=by
 obtain⟨h1,h2,_⟩:=ZA.1 h
 have:vs[i]=u:=by rw[ZI h1] at hu;exact Zi hu
 rw[this] at h2
 exact beq_iff_eq.1 h2
theorem G2 {p:Po}{o:Opr}{ps:List Pt}(h0:(Aj p o).1=0)(hc:(Ak ps p.ex).isSome=true):Ak ps (Aj p o).2.1=Ak ps p.ex:=by
 revert h0
 unfold Aj
 dsimp only
 split
 ·split
  ·intro h;simp at h
  ·rename_i L a hpl;intro _;exact Ez hpl hc
 ·split
  ·split
   ·intro h;simp at h
   ·split<;>(intro _;rfl)
  ·split
   ·intro h;simp at h
   ·split
    ·intro _;rfl
    ·split<;>(intro _;rfl)
theorem F4 {p:Po}{o:Opr}(hp:Ai p=true)(h0:(BT p o).1=0){k:Nat}{v:Vo}(hv:p.vs[k]?=some v)(hne:v.nm.toList≠(DM o).toList∨v.fx=true∧o.k≠7):Dj p (BT p o).2 v:=by
 have hc:∀ x∈v.its,(Ak x.ps p.ex).isSome=true:=fun x hx=>by
  have h1:=(b0_ (bL_ hp).2.1 v (Zc hv)).1
  simp only[itemsB,Zf] at h1
  exact db_ h1.2 x hx
 have ha:Dj p p v:=⟨k,v,hv,rfl,rfl,fun _ _=>rfl⟩
 have hm:=(Zb.1 hv).1
 revert h0
 unfold BT
 split
 ·rename_i hkk
  intro h0
  unfold Ap at h0 ⊢
  dsimp only at h0 ⊢
  have hb:v.nm.toList≠(if o.k=5 then o.to else o.vol).toList∨v.fx=true∧o.k≠7:=hne
  cases hi:volI p.vs (if o.k=5 then o.to else o.vol) with
  |none=>rw[hi] at h0;simp at h0
  |some i=>
   rw[hi] at h0;dsimp only at h0 ⊢
   cases hu:p.vs[i]? with
   |none=>rw[hu] at h0;simp at h0
   |some u=>
    rw[hu] at h0;dsimp only at h0 ⊢
    have hl:=EH hi hu
    by_cases hfx:u.fx=true
    ·rw[if_pos hfx] at h0;simp at h0
    ·rw[if_neg hfx] at h0 ⊢
     by_cases hr:(Aj p o).1=0
     ·rw[if_pos hr] at h0 ⊢
      refine GW hv hu ?_ (fun x hx=>G2 hr (hc x hx))
      rcases hb with hn | ⟨hf,_⟩
      ·rw[hl];exact hn
      ·intro he
       have hg:i=k:=by
        have h1:=pH_ (bL_ hp).2.2.2.2 hv
        have h2:=pH_ (bL_ hp).2.2.2.2 hu
        have h3:volI p.vs v.nm=volI p.vs u.nm:=by unfold volI;rw[he]
        rw[h1,h2] at h3;exact (Zi h3).symm
       subst hg
       rw[hu] at hv;cases hv;exact hfx hf
     ·rw[if_neg hr] at h0;exact absurd h0 hr
 ·rename_i hkk
  intro h0
  unfold Az at h0 ⊢
  have hh:∀ (y:Vo) (nx:Int),Dj p {p with vs:=p.vs++[y],next:=nx} v:=fun y nx=>⟨k,v,by show (p.vs++[y])[k]?=_;rw[ZD hm];exact hv,rfl,rfl,fun _ _=>rfl⟩
  have h5:o.k≠5:=by intro h;exact hkk (.inr (.inr (.inl h)))
  have hb:v.nm.toList≠o.vol.toList∨v.fx=true∧o.k≠7:=by simpa only[DM,if_neg h5] using hne
  cases hi:volI p.vs o.vol with
  |none=>
   rw[hi] at h0;dsimp only at h0 ⊢
   by_cases hk:o.k=1
   ·rw[if_pos hk];exact hh _ _
   ·rw[if_neg hk];exact ha
  |some i=>
   rw[hi] at h0;dsimp only at h0 ⊢
   cases hu:p.vs[i]? with
   |none=>dsimp only;exact ha
   |some u=>
    rw[hu] at h0;dsimp only at h0 ⊢
    have hl:=EH hi hu
    by_cases hk1:o.k=1
    ·rw[if_pos hk1];exact ha
    rw[if_neg hk1] at h0 ⊢
    by_cases hk6:o.k=6
    ·rw[if_pos hk6]
     cases volI p.vs o.to with
     |none=>exact hh _ _
     |some _=>exact ha
    rw[if_neg hk6] at h0 ⊢
    by_cases hk7:o.k=7
    ·rw[if_pos hk7]
     have hn:v.nm.toList≠u.nm.toList:=by
      rcases hb with hn | ⟨_,hn⟩
      ·rw[hl];exact hn
      ·exact absurd hk7 hn
     have hg:i≠k:=by rintro rfl;rw[hu] at hv;cases hv;exact hn rfl
     have ho:=(Zb.1 hu).1
     by_cases hlt2:k<i
     ·exact⟨k,v,by
       show (p.vs.take i++p.vs.drop (i+1))[k]?=_
       rw[ZD (by rw[Zz];omega),Ya hlt2];exact hv,rfl,rfl,fun _ _=>rfl⟩
     ·exact⟨k-1,v,by
       show (p.vs.take i++p.vs.drop (i+1))[k-1]?=_
       rw[Zv (by rw[Zz];omega),Zz,List.getElem?_drop,show i+1+(k-1-min i p.vs.length)=k by omega];exact hv,rfl,rfl,fun _ _=>rfl⟩
    rw[if_neg hk7] at h0 ⊢
    by_cases hk8:o.k=8
    ·rw[if_pos hk8]
     by_cases hfx:u.fx=true
     ·rw[if_pos hfx];exact ha
     ·rw[if_neg hfx]
      by_cases hg:i=k
      ·subst hg
       rw[hu] at hv;cases hv
       exact⟨i,{v with fx:=true},by show (p.vs.set i _)[i]?=_;rw[Zx hm],rfl,rfl,fun _ _=>rfl⟩
      ·exact⟨k,v,by show (p.vs.set i _)[k]?=_;rw[ZJ hg];exact hv,rfl,rfl,fun _ _=>rfl⟩
    rw[if_neg hk8] at h0 ⊢
    by_cases hk4:o.k=4
    ·rw[if_pos hk4] at h0 ⊢
     by_cases hfx:u.fx=true
     ·rw[if_pos hfx];exact ha
     ·rw[if_neg hfx] at h0 ⊢
      cases hj:itI u.its o.file with
      |none=>exact ha
      |some j=>
       dsimp only
       have hg:i≠k:=by
        rintro rfl
        rw[hu] at hv;cases hv
        rcases hb with hn | ⟨hf,_⟩
        ·exact hn hl
        ·exact hfx hf
       exact⟨k,v,by show (p.vs.set i _)[k]?=_;rw[ZJ hg];exact hv,rfl,rfl,fun _ _=>rfl⟩
    rw[if_neg hk4];exact ha
theorem Hq {p:Po}{o:Opr}(hp:Ai p=true)(h0:(opS p o).1=0){k:Nat}{v:Vo}(hv:p.vs[k]?=some v)(hne:v.nm.toList≠(DM o).toList∨v.fx=true∧o.k≠7):Ai (opS p o).2=true∧Dj p (opS p o).2 v:=by
 revert h0
 unfold opS
 split
 ·split
  ·intro _
   exact⟨le_ hp,k,v,hv,rfl,rfl,fun x hx=>iy_ hp (Zc hv) hx⟩
  ·split
   ·rename_i ht
    split
    ·rename_i hb
     intro _
     exact⟨hb,(F4 hp ht hv hne).late⟩
    ·intro h;simp at h
   ·rename_i ht
    intro h;exact absurd h ht
 ·intro h;simp at h
def nlB:ByteArray:=⟨#[10]⟩
def DU (p:Po)(vol f:ByteArray):ByteArray:=(Du p vol f 0 (DN p vol f).1).1
def BG (p:Po)(vol:ByteArray):List ByteArray->ByteArray->ByteArray
 |[],acc=>acc
 |f::r,acc=>BG p vol r ((((acc++f)++nlB)++DU p vol f)++nlB)
def BN (p:Po)(vol:ByteArray):ByteArray:=match Cn p vol with
 |none=>⟨#[110,111,110,101]⟩
 |some l=>BG p vol l ⟨#[]⟩
theorem Ep (p:Po)(vol f:ByteArray):∀ (l:List ByteArray) (acc:ByteArray),BG p vol (l++[f]) acc=(((BG p vol l acc++f)++nlB)++DU p vol f)++nlB
 |[],acc=>rfl
 |x::r,acc=>by rw[YF,BG,BG,Ep p vol f r]
theorem En {p n:Po}{vol:ByteArray}(h:∀ f,DU n vol f=DU p vol f):∀ (l:List ByteArray) (acc:ByteArray),BG n vol l acc=BG p vol l acc
 |[],_=>rfl
 |x::r,acc=>by rw[BG,BG,h,En h r]
theorem Gz {p n:Po}{v:Vo}{k:Nat}(hp:Ai p=true)(hn:Ai n=true)(hv:p.vs[k]?=some v)(h:Dj p n v):BN n v.nm=BN p v.nm:=by
 obtain⟨j,u,hu,hf,ha,hb⟩:=h
 have i1:=pH_ (bL_ hp).2.2.2.2 hv
 have i2:volI n.vs v.nm=some j:=by rw[<-hf];exact pH_ (bL_ hn).2.2.2.2 hu
 have q1:∀ f,Ar p.vs v.nm f=(itI v.its f).bind fun m=>v.its[m]?.map (·.ps):=fun f=>by
  unfold Ar;rw[i1];dsimp only[Option.bind];rw[hv]
 have q2:∀ f,Ar n.vs v.nm f=Ar p.vs v.nm f:=fun f=>by
  rw[q1];unfold Ar;rw[i2];dsimp only[Option.bind];rw[hu];dsimp only;rw[ha]
 have he:∀ f,DU n v.nm f=DU p v.nm f:=fun f=>by
  unfold DU Du DN BZ
  rw[if_pos hp,if_pos hn,if_pos hp,if_pos hn,q2]
  cases hq:Ar p.vs v.nm f with
  |none=>rfl
  |some ps=>
   have hc:Ak ps n.ex=Ak ps p.ex:=by
    rw[q1] at hq
    cases hm:itI v.its f with
    |none=>rw[hm] at hq;cases hq
    |some m=>
     rw[hm] at hq;dsimp only[Option.bind] at hq
     cases hx:v.its[m]? with
     |none=>rw[hx] at hq;cases hq
     |some x=>
      rw[hx] at hq
      have hg:x.ps=ps:=Zi hq
      rw[<-hg]
      exact hb x (Zc hx)
   dsimp only
   rw[hc]
 unfold BN Cn
 rw[if_pos hp,if_pos hn,i1,i2]
 dsimp only[Option.bind]
 rw[hv,hu]
 dsimp only[Option.map]
 rw[ha]
 exact En he _ _
theorem Gw {p:Po}{vol f:ByteArray}:(DU p vol f).size<=100:=by
 unfold DU Du
 split
 ·exact Zg _
 ·rename_i ps hps
  split
  ·dsimp only
   cases hc:Ak ps p.ex with
   |none=>dsimp only[Option.getD];exact Zl (by rw[ByteArray.size_extract];show min _ 0-_<=0;omega) (Zg _)
   |some s=>
    dsimp only[Option.getD]
    have:=(Cv hc).2
    rw[ByteArray.size_extract];omega
  ·exact Zg _
theorem Eo {p:Po}{vol:ByteArray}{M:Nat}:∀ {l:List ByteArray} {acc:ByteArray},(∀ f∈l,f.size<=M)->(BG p vol l acc).size<=acc.size+l.length*(M+102)
 |[],acc,_=>by simp[BG]
 |x::r,acc,h=>by
  rw[BG]
  have h1:=Eo (p:=p) (vol:=vol) (l:=r) (acc:=(((acc++x)++nlB)++DU p vol x)++nlB) (fun f hf=>h f (ZY _ hf))
  have h2:=h x (by simp)
  have h3:=Gw (p:=p) (vol:=vol) (f:=x)
  have h4:nlB.size=1:=rfl
  simp only[ByteArray.size_append,h4] at h1
  rw[Zw,Yd]
  omega
theorem Ce {p:Po}{o:Opr}{R:Int×Po}(hR:Br p o=R)(hc:R.1≠1):Ai p=true∧opS p o=R:=by
 unfold Br at hR
 split at hR
 ·rename_i hp;exact⟨hp,hR⟩
 ·rw[<-hR] at hc;exact absurd rfl hc
theorem DC {p q:Po}{o:Opr}{R:Int×Po}(hR:Br p o=R)(hc:R.1=0)(hq:R.2=q){k:Nat}{v:Vo}(hv:p.vs[k]?=some v)(hne:v.nm.toList≠(DM o).toList∨v.fx=true∧o.k≠7):BN q v.nm=BN p v.nm:=by
 obtain⟨hp,ho⟩:=Ce hR (by omega)
 have h1:=Hq hp (by rw[ho];exact hc) hv hne
 rw[ho,hq] at h1
 exact Gz hp h1.1 hv h1.2
theorem DJ {p:Po}(hp:Ai p=true){k:Nat}{v:Vo}(hv:p.vs[k]?=some v):v.nm.size<=1048576:=by
 have h1:=(b0_ (bL_ hp).2.1 v (Zc hv)).2.1
 simp only[nameB,Zf,ZU] at h1
 omega
theorem AG.vsOf {B:Nat}{w:World}{p:Po}{ea va ra la:Option Addr}{en ec vn vc rn rc ln lc:Nat}(h:AG B w (.agg #[.int .i64 p.size,.int .i64 p.next,.slice ea en ec,.slice va vn vc,.slice ra rn rc,.slice la ln lc]) p):Bb B w va vn p.vs:=by
 obtain⟨_,_,_,_,_,_,_,_,_,_,_,_,hv,_,⟨h2,_⟩,_⟩:=h
 simp only[Value.agg.injEq,Array.mk.injEq,List.cons.injEq,Value.slice.injEq,and_true,true_and] at hv
 obtain⟨_,⟨rfl,rfl,_⟩,_,_⟩:=hv
 exact h2
theorem FX {p:Po}{o:Opr}(h:(opS p o).1≠0):(opS p o).2=p:=by
 revert h
 unfold opS
 split
 ·split
  ·intro h;exact absurd rfl h
  ·split
   ·split
    ·intro h;exact absurd rfl h
    ·intro _;rfl
   ·intro _;rfl
 ·intro _;rfl
theorem FR {p q:Po}{o:Opr}{R:Int×Po}(hR:Br p o=R)(hc:R.1≠1)(hq:R.2=q){k:Nat}{v:Vo}(hv:p.vs[k]?=some v)(hf:v.fx=true)(hk:o.k≠7):BN q v.nm=BN p v.nm:=by
 by_cases h0:R.1=0
 ·exact DC hR h0 hq hv (.inr ⟨hf,hk⟩)
 ·have ho:=(Ce hR hc).2
  have:=FX (p:=p) (o:=o) (by rw[ho];exact h0)
  rw[ho,hq] at this
  rw[this]
theorem CN {P:Program}{fn:Func}{p q:Tmp}{ty ty':TypeId}(h:fn.results=#[.cell p ty,.cell q ty'])(tmps:Array Value)(w:World)(g:Nat)(t:TypeId)(cs:Array Value)(g':Nat)(t':TypeId)(cs':Array Value)(d d':TypeDesc)
  (hp:tmps.getD p undef=.pointer (some ⟨g,0,none⟩)) (hq:tmps.getD q undef=.pointer (some ⟨g',0,none⟩)) (hg:Blk w g cs t) (hg':Blk w g' cs' t')
  (hu:P.underlying ty=some d) (hu':P.underlying ty'=some d') (hd:(match d with | .struct _ | .array _ _=>true | _=>false)=true) (hd':(match d' with | .struct _ | .array _ _=>true | _=>false)=true) (hi:(P.info? ty).map (·.size)=some cs.size) (hi':(P.info? ty').map (·.size)=some cs'.size) :
  (results fn tmps).run P w=.ok (.tuple #[.agg cs,.agg cs']) w:=by
 have ha:tmps[p]?.getD undef=.pointer (some ⟨g,0,none⟩):=by simpa using hp
 have hb:tmps[q]?.getD undef=.pointer (some ⟨g',0,none⟩):=by simpa using hq
 simp[results,h,ha,hb,asAddr,run_loadVar_row w g t ty cs _ d hg hu hd hi,run_loadVar_row w g' t' ty' cs' _ d' hg' hu' hd' hi']
theorem Am.tyO {B:Nat}{w w':World}{v:Value}{p:Po}{row:Option Nat}(h:Am B w v p)(hg:w.grownBy w' row)(hr:BA w row 39):Am B w' v p:=by
 obtain⟨ea,en,ec,va,vn,vc,ra,rn,rc,la,ln,lc,rows,hv,h1,⟨h2,h3⟩,h4,h5,h6⟩:=h
 exact⟨ea,en,ec,va,vn,vc,ra,rn,rc,la,ln,lc,rows,hv,h1.ty hg hr (by decide),⟨h2.ty hg hr (by decide),h3.ty hg hr (by decide) (by decide)⟩,h4.ty hg hr (by decide),h5.ty hg hr (by decide),h6⟩
theorem BH {w:World}{b:Nat}{c0 c1 c2 c3 c4 c5:Value}{t:TypeId}(h:Blk w b #[c0,c1,c2,c3,c4,c5] t):w.cell? ⟨b,0,none⟩=some c0∧w.cell? ⟨b,1,none⟩=some c1∧w.cell? ⟨b,2,none⟩=some c2∧w.cell? ⟨b,3,none⟩=some c3∧w.cell? ⟨b,4,none⟩=some c4∧w.cell? ⟨b,5,none⟩=some c5:=⟨h.cell 0,h.cell 1,h.cell 2,h.cell 3,h.cell 4,h.cell 5⟩
theorem Dd (a:Option Addr)(n cap:Nat)(w:World)(h:BX w a n)(hn:n<=1048576) :
  Calls prog 33 #[.slice a n cap] w fun e w'=>(∃ (v:Value) (p:Po) (o:Opr),e=.returned (.tuple #[v,.agg #[.int .i64 o.k,.string o.vol,.string o.file,.string o.to,.string o.into,.int .i64 o.at',.int .i64 o.fr,.int .i64 o.ln,.string o.data]])∧Am (w.heap.size+1) w' v p∧FI p∧BC o)∧Below w.heap.size w w':=by
 go_enter func33,ntmps33
 go_wp2_with fail
 have hr:Below w.heap.size w ((w.alloc (.cells #[.int .i64 0,.int .i64 0,.slice none 0 0,.slice none 0 0,.slice none 0 0,.slice none 0 0] 35)).alloc (.cells #[.int .i64 0,.string ⟨#[]⟩,.string ⟨#[]⟩,.string ⟨#[]⟩,.string ⟨#[]⟩,.int .i64 0,.int .i64 0,.int .i64 0,.string ⟨#[]⟩] 39)):=by go_grown
 have D0:=(Blk.new w #[.int .i64 0,.int .i64 0,.slice none 0 0,.slice none 0 0,.slice none 0 0,.slice none 0 0] 35).alloc (.cells #[.int .i64 0,.string ⟨#[]⟩,.string ⟨#[]⟩,.string ⟨#[]⟩,.string ⟨#[]⟩,.int .i64 0,.int .i64 0,.int .i64 0,.string ⟨#[]⟩] 39)
 have O0:Blk ((w.alloc (.cells #[.int .i64 0,.int .i64 0,.slice none 0 0,.slice none 0 0,.slice none 0 0,.slice none 0 0] 35)).alloc (.cells #[.int .i64 0,.string ⟨#[]⟩,.string ⟨#[]⟩,.string ⟨#[]⟩,.string ⟨#[]⟩,.int .i64 0,.int .i64 0,.int .i64 0,.string ⟨#[]⟩] 39)) (w.heap.size+1) #[.int .i64 0,.string ⟨#[]⟩,.string ⟨#[]⟩,.string ⟨#[]⟩,.string ⟨#[]⟩,.int .i64 0,.int .i64 0,.int .i64 0,.string ⟨#[]⟩] 39:=Blk.new' _ _ _ _ (by simp)
 have hD:((w.alloc (.cells #[.int .i64 0,.int .i64 0,.slice none 0 0,.slice none 0 0,.slice none 0 0,.slice none 0 0] 35)).alloc (.cells #[.int .i64 0,.string ⟨#[]⟩,.string ⟨#[]⟩,.string ⟨#[]⟩,.string ⟨#[]⟩,.int .i64 0,.int .i64 0,.int .i64 0,.string ⟨#[]⟩] 39)).heap.size=w.heap.size+2:=by simp
 have h0:=h.below hr
 generalize (w.alloc (.cells #[.int .i64 0,.int .i64 0,.slice none 0 0,.slice none 0 0,.slice none 0 0,.slice none 0 0] 35)).alloc (.cells #[.int .i64 0,.string ⟨#[]⟩,.string ⟨#[]⟩,.string ⟨#[]⟩,.string ⟨#[]⟩,.int .i64 0,.int .i64 0,.int .i64 0,.string ⟨#[]⟩] 39)=w0 at *
 refine (FH a n cap w0 h0 hn).mono ?_
 rintro e w1 ⟨rfl,hq,hp⟩
 rw[hD] at hq ⊢
 have D1:=D0.below hp
 have O1:=O0.below hp
 have hv:=Aa hr hp
 have hJ:=hq.lt
 clear D0 O0 hp hr h0 hD w0
 go_wp2_with fail
 refine (GC (w.heap.size+2) 14 (by omega) (by omega) _ hq).mono ?_
 rintro e w2 ⟨⟨v,p,rfl,PT,hd⟩,hA,ho⟩
 have ha:=PT.mono (show w.heap.size+3<=w1.heap.size by omega)
 obtain⟨ea,en,ec,va,vn,vc,ra,rn,rc,la,ln,lc,rows,rfl,_⟩:=PT
 have D2:=D1.grown ho (by omega)
 have O2:=O1.grown ho (by omega)
 have hw:=ao_ hv ho (by omega)
 have hL:=ho.size
 clear D1 O1 hv ho hq
 have hk:Below w2.heap.size w2 (w2.alloc (.cells #[.int .i64 p.size,.int .i64 p.next,.slice ea en ec,.slice va vn vc,.slice ra rn rc,.slice la ln lc] 35)):=(Yg _ _).alloc (Zd _) _
 have P3:=Blk.new w2 #[.int .i64 p.size,.int .i64 p.next,.slice ea en ec,.slice va vn vc,.slice ra rn rc,.slice la ln lc] 35
 have hE:(w2.alloc (.cells #[.int .i64 p.size,.int .i64 p.next,.slice ea en ec,.slice va vn vc,.slice ra rn rc,.slice la ln lc] 35)).heap.size=w2.heap.size+1:=by simp
 go_wp2_with fail
 have R3:=hA.below hk
 have D3:=D2.below hk
 have O3:=O2.below hk
 have hx:=Aa hw hk
 replace ha:=ha.below hk
 obtain⟨pb,hs⟩:∃ pb,pb=w2.heap.size:=⟨_,rfl⟩
 rw[<-hs] at P3 hE
 generalize w2.alloc (.cells #[.int .i64 p.size,.int .i64 p.next,.slice ea en ec,.slice va vn vc,.slice ra rn rc,.slice la ln lc] 35)=w3 at *
 rw[<-hs]
 have hG:w.heap.size+3<=pb:=by omega
 clear hk D2 O2 hw hA hs
 refine (EV (w.heap.size+2) _ R3).mono ?_
 rintro e w4 ⟨⟨o,rfl,hf⟩,R4,hh⟩
 have D4:=D3.grown hh (by omega)
 have O4:=O3.grown hh (by omega)
 have P4:=P3.grown hh (by omega)
 have hy:=ao_ hx hh (by omega)
 replace ha:=ha.lowB hh (by omega)
 have hI:pb+1<=w4.heap.size:=by have:=hh.size;omega
 clear D3 O3 P3 hx hh R3 hE
 have hg:Below w4.heap.size w4 (w4.alloc (.cells #[.int .i64 o.k,.string o.vol,.string o.file,.string o.to,.string o.into,.int .i64 o.at',.int .i64 o.fr,.int .i64 o.ln,.string o.data] 39)):=(Yg _ _).alloc (Zd _) _
 have Q5:=Blk.new w4 #[.int .i64 o.k,.string o.vol,.string o.file,.string o.to,.string o.into,.int .i64 o.at',.int .i64 o.fr,.int .i64 o.ln,.string o.data] 39
 go_wp2_with fail
 have R5:=R4.below hg
 have D5:=D4.below hg
 have O5:=O4.below hg
 have P5:=P4.below hg
 have hz:=Aa hy hg
 replace ha:=ha.below hg
 obtain⟨qb,ht⟩:∃ qb,qb=w4.heap.size:=⟨_,rfl⟩
 rw[<-ht] at Q5
 generalize w4.alloc (.cells #[.int .i64 o.k,.string o.vol,.string o.file,.string o.to,.string o.into,.int .i64 o.at',.int .i64 o.fr,.int .i64 o.ln,.string o.data] 39)=w5 at *
 rw[<-ht]
 have hH:pb+1<=qb:=by omega
 clear hg D4 O4 P4 hy R4 ht hI
 refine (CV (w.heap.size+2) 24 _ R5 (by omega) (by omega)).mono ?_
 rintro e w6 ⟨⟨bx,rfl⟩,R6,hj⟩
 have D:=D5.grown hj (by omega)
 have O:=O5.grown hj (by omega)
 have P:=P5.grown hj (by omega)
 have Q:=Q5.grown hj (by omega)
 have hC:=ao_ hz hj (by omega)
 replace ha:=ha.lowB hj (by omega)
 clear D5 O5 P5 Q5 hz hj R5
 cases bx
 ·obtain⟨kv,hB⟩:∃ kv,kv=o.k:=⟨_,rfl⟩
  rw[<-hB] at Q
  go_wp2_with fail
  generalize w6=w7 at *
  clear hB
  have hW:Below w7.heap.size w7 w7.drew:=(Yg _ _).drew
  replace D:=D.below hW
  replace O:=O.below hW
  replace P:=P.below hW
  replace Q:=Q.below hW
  replace hC:=Aa hC hW
  replace ha:=ha.below hW
  clear hW
  have hF:(fun u=>(u.cell? ⟨pb,0,none⟩=some (.int .i64 p.size)∧u.cell? ⟨pb,1,none⟩=some (.int .i64 p.next)∧u.cell? ⟨pb,2,none⟩=some (.slice ea en ec)∧u.cell? ⟨pb,3,none⟩=some (.slice va vn vc)∧u.cell? ⟨pb,4,none⟩=some (.slice ra rn rc)∧u.cell? ⟨pb,5,none⟩=some (.slice la ln lc))∧u.cell? ⟨qb,0,none⟩=some (.int .i64 kv)∧u.cell? ⟨qb,1,none⟩=some (.string o.vol)∧u.cell? ⟨qb,2,none⟩=some (.string o.file)∧u.cell? ⟨qb,3,none⟩=some (.string o.to)∧u.cell? ⟨qb,4,none⟩=some (.string o.into)∧u.cell? ⟨qb,5,none⟩=some (.int .i64 o.at')∧u.cell? ⟨qb,6,none⟩=some (.int .i64 o.fr)∧u.cell? ⟨qb,7,none⟩=some (.int .i64 o.ln)∧u.cell? ⟨qb,8,none⟩=some (.string o.data)) w7.drew:=⟨BH P,ce9 Q⟩
  refine aC_ (S:=(fun u=>(u.cell? ⟨pb,0,none⟩=some (.int .i64 p.size)∧u.cell? ⟨pb,1,none⟩=some (.int .i64 p.next)∧u.cell? ⟨pb,2,none⟩=some (.slice ea en ec)∧u.cell? ⟨pb,3,none⟩=some (.slice va vn vc)∧u.cell? ⟨pb,4,none⟩=some (.slice ra rn rc)∧u.cell? ⟨pb,5,none⟩=some (.slice la ln lc))∧u.cell? ⟨qb,0,none⟩=some (.int .i64 kv)∧u.cell? ⟨qb,1,none⟩=some (.string o.vol)∧u.cell? ⟨qb,2,none⟩=some (.string o.file)∧u.cell? ⟨qb,3,none⟩=some (.string o.to)∧u.cell? ⟨qb,4,none⟩=some (.string o.into)∧u.cell? ⟨qb,5,none⟩=some (.int .i64 o.at')∧u.cell? ⟨qb,6,none⟩=some (.int .i64 o.fr)∧u.cell? ⟨qb,7,none⟩=some (.int .i64 o.ln)∧u.cell? ⟨qb,8,none⟩=some (.string o.data))) 4 (by kernel_rfl) rfl ?_
  generalize w7.drew=u0 at *
  refine tk 0 ?_
  refine tk 1 ?_
  obtain⟨y0,y1,y2,y3,y4,y5⟩:=BH D
  obtain⟨e0,e1,e2,e3,e4,e5⟩:=fz6 D
  refine AX (i:=2) (by kernel_rfl) rfl (fun K hK=>?_)
  go_simp
  obtain⟨W8,hm,D8,hc⟩:=AV D (.int .i64 p.size) (.int .i64 p.next) (.slice ea en ec) (.slice va vn vc) (.slice ra rn rc) (.slice la ln lc)
  rw[<-hm]
  clear hm
  have P8:=P.grown hc (by omega)
  have Q8:=Q.grown hc (by omega)
  have O8:=O.grown hc (by omega)
  have T8:=ha.tyP hc (aa_ D)
  have C8:=ao_ hC hc (Zd _)
  refine hK.out _ _ ⟨BH P8,ce9 Q8⟩ (fun hHeld=>?_)
  clear hK K
  try simp only[Act.put,Yj,Yq,Yr]
  clear y0 y1 y2 y3 y4 y5 e0 e1 e2 e3 e4 e5 hc
  obtain⟨y0,y1,y2,y3,y4,y5,y6,y7,y8⟩:=ce9 O8
  have e0:=O8.frozen 0
  have e1:=O8.frozen 1
  have e2:=O8.frozen 2
  have e3:=O8.frozen 3
  have e4:=O8.frozen 4
  have e5:=O8.frozen 5
  have e6:=O8.frozen 6
  have e7:=O8.frozen 7
  have e8:=O8.frozen 8
  refine AX (i:=3) (by kernel_rfl) rfl (fun K hK=>?_)
  go_simp
  obtain⟨O9,he⟩:=Db O8 (.int .i64 kv) (.string o.vol) (.string o.file) (.string o.to) (.string o.into) (.int .i64 o.at') (.int .i64 o.fr) (.int .i64 o.ln) (.string o.data)
  have D9:=D8.grown he (by omega)
  have P9:=P8.grown he (by omega)
  have Q9:=Q8.grown he (by omega)
  have T9:=T8.tyO he (aa_ O8)
  have C9:=ao_ C8 he (by omega)
  refine hK.out _ _ ⟨BH P9,ce9 Q9⟩ (fun hHeld=>?_)
  clear hK K
  try simp only[Act.put,Yj,Yq,Yr]
  clear y0 y1 y2 y3 y4 y5 y6 y7 y8 e0 e1 e2 e3 e4 e5 e6 e7 e8
  generalize (((((((((W8.setCell ⟨w.heap.size+1,0,none⟩ (.int .i64 kv)).setCell ⟨w.heap.size+1,1,none⟩ (.string o.vol)).setCell ⟨w.heap.size+1,2,none⟩ (.string o.file)).setCell ⟨w.heap.size+1,3,none⟩ (.string o.to)).setCell ⟨w.heap.size+1,4,none⟩ (.string o.into)).setCell ⟨w.heap.size+1,5,none⟩ (.int .i64 o.at')).setCell ⟨w.heap.size+1,6,none⟩ (.int .i64 o.fr)).setCell ⟨w.heap.size+1,7,none⟩ (.int .i64 o.ln)).setCell ⟨w.heap.size+1,8,none⟩ (.string o.data))=W9 at *
  refine wpAnyH_done (by kernel_rfl) ?_ _
  go_wp2
  refine YW (CN rfl _ W9 w.heap.size _ _ (w.heap.size+1) _ _ _ _ rfl rfl D9 O9 underlying35 underlying39 rfl rfl (by kernel_rfl) (by kernel_rfl)) rfl ?_
  exact⟨⟨_,p,⟨kv,o.vol,o.file,o.to,o.into,o.at',o.fr,o.ln,o.data⟩,rfl,T9.mono (by omega),hd,⟨hf.vol,hf.file,hf.to,hf.into,hf.data⟩⟩,C9⟩
 ·go_wp2_with fail
  refine (CO (w.heap.size+2) 1 10 _ R6 (by omega) (by omega) (by omega)).mono ?_
  rintro e hu ⟨⟨kv,rfl,_,_⟩,R6b,hb⟩
  replace D:=D.grown hb (by omega)
  replace O:=O.grown hb (by omega)
  replace P:=P.grown hb (by omega)
  replace Q:=Q.grown hb (by omega)
  replace hC:=ao_ hC hb (by omega)
  replace ha:=ha.lowB hb (by omega)
  have z0:=Q.cell 0
  simp only[Yp,Yo] at z0
  have g0:=Q.frozen 0
  go_wp2_with fail
  have hl:hu.grownBy (hu.setCell ⟨qb,0,none⟩ (.int .i64 kv)) (some qb):=af_ (Yh _ _) _ _
  replace D:=D.grown hl (by omega)
  replace O:=O.grown hl (by omega)
  replace P:=P.grown hl (by omega)
  replace ha:=ha.tyO hl (aa_ Q)
  replace Q:=Q.set 0 (.int .i64 kv)
  simp only[Yj,Yq] at Q
  replace hC:=ao_ hC hl (by omega)
  generalize hu.setCell ⟨qb,0,none⟩ (.int .i64 kv)=w7 at *
  clear hl z0 g0
  have hW:Below w7.heap.size w7 w7.drew:=(Yg _ _).drew
  replace D:=D.below hW
  replace O:=O.below hW
  replace P:=P.below hW
  replace Q:=Q.below hW
  replace hC:=Aa hC hW
  replace ha:=ha.below hW
  clear hW
  have hF:(fun u=>(u.cell? ⟨pb,0,none⟩=some (.int .i64 p.size)∧u.cell? ⟨pb,1,none⟩=some (.int .i64 p.next)∧u.cell? ⟨pb,2,none⟩=some (.slice ea en ec)∧u.cell? ⟨pb,3,none⟩=some (.slice va vn vc)∧u.cell? ⟨pb,4,none⟩=some (.slice ra rn rc)∧u.cell? ⟨pb,5,none⟩=some (.slice la ln lc))∧u.cell? ⟨qb,0,none⟩=some (.int .i64 kv)∧u.cell? ⟨qb,1,none⟩=some (.string o.vol)∧u.cell? ⟨qb,2,none⟩=some (.string o.file)∧u.cell? ⟨qb,3,none⟩=some (.string o.to)∧u.cell? ⟨qb,4,none⟩=some (.string o.into)∧u.cell? ⟨qb,5,none⟩=some (.int .i64 o.at')∧u.cell? ⟨qb,6,none⟩=some (.int .i64 o.fr)∧u.cell? ⟨qb,7,none⟩=some (.int .i64 o.ln)∧u.cell? ⟨qb,8,none⟩=some (.string o.data)) w7.drew:=⟨BH P,ce9 Q⟩
  refine aC_ (S:=(fun u=>(u.cell? ⟨pb,0,none⟩=some (.int .i64 p.size)∧u.cell? ⟨pb,1,none⟩=some (.int .i64 p.next)∧u.cell? ⟨pb,2,none⟩=some (.slice ea en ec)∧u.cell? ⟨pb,3,none⟩=some (.slice va vn vc)∧u.cell? ⟨pb,4,none⟩=some (.slice ra rn rc)∧u.cell? ⟨pb,5,none⟩=some (.slice la ln lc))∧u.cell? ⟨qb,0,none⟩=some (.int .i64 kv)∧u.cell? ⟨qb,1,none⟩=some (.string o.vol)∧u.cell? ⟨qb,2,none⟩=some (.string o.file)∧u.cell? ⟨qb,3,none⟩=some (.string o.to)∧u.cell? ⟨qb,4,none⟩=some (.string o.into)∧u.cell? ⟨qb,5,none⟩=some (.int .i64 o.at')∧u.cell? ⟨qb,6,none⟩=some (.int .i64 o.fr)∧u.cell? ⟨qb,7,none⟩=some (.int .i64 o.ln)∧u.cell? ⟨qb,8,none⟩=some (.string o.data))) 4 (by kernel_rfl) rfl ?_
  generalize w7.drew=u0 at *
  refine tk 0 ?_
  refine tk 1 ?_
  obtain⟨y0,y1,y2,y3,y4,y5⟩:=BH D
  obtain⟨e0,e1,e2,e3,e4,e5⟩:=fz6 D
  refine AX (i:=2) (by kernel_rfl) rfl (fun K hK=>?_)
  go_simp
  obtain⟨W8,hm,D8,hc⟩:=AV D (.int .i64 p.size) (.int .i64 p.next) (.slice ea en ec) (.slice va vn vc) (.slice ra rn rc) (.slice la ln lc)
  rw[<-hm]
  clear hm
  have P8:=P.grown hc (by omega)
  have Q8:=Q.grown hc (by omega)
  have O8:=O.grown hc (by omega)
  have T8:=ha.tyP hc (aa_ D)
  have C8:=ao_ hC hc (Zd _)
  refine hK.out _ _ ⟨BH P8,ce9 Q8⟩ (fun hHeld=>?_)
  clear hK K
  try simp only[Act.put,Yj,Yq,Yr]
  clear y0 y1 y2 y3 y4 y5 e0 e1 e2 e3 e4 e5 hc
  obtain⟨y0,y1,y2,y3,y4,y5,y6,y7,y8⟩:=ce9 O8
  have e0:=O8.frozen 0
  have e1:=O8.frozen 1
  have e2:=O8.frozen 2
  have e3:=O8.frozen 3
  have e4:=O8.frozen 4
  have e5:=O8.frozen 5
  have e6:=O8.frozen 6
  have e7:=O8.frozen 7
  have e8:=O8.frozen 8
  refine AX (i:=3) (by kernel_rfl) rfl (fun K hK=>?_)
  go_simp
  obtain⟨O9,he⟩:=Db O8 (.int .i64 kv) (.string o.vol) (.string o.file) (.string o.to) (.string o.into) (.int .i64 o.at') (.int .i64 o.fr) (.int .i64 o.ln) (.string o.data)
  have D9:=D8.grown he (by omega)
  have P9:=P8.grown he (by omega)
  have Q9:=Q8.grown he (by omega)
  have T9:=T8.tyO he (aa_ O8)
  have C9:=ao_ C8 he (by omega)
  refine hK.out _ _ ⟨BH P9,ce9 Q9⟩ (fun hHeld=>?_)
  clear hK K
  try simp only[Act.put,Yj,Yq,Yr]
  clear y0 y1 y2 y3 y4 y5 y6 y7 y8 e0 e1 e2 e3 e4 e5 e6 e7 e8
  generalize (((((((((W8.setCell ⟨w.heap.size+1,0,none⟩ (.int .i64 kv)).setCell ⟨w.heap.size+1,1,none⟩ (.string o.vol)).setCell ⟨w.heap.size+1,2,none⟩ (.string o.file)).setCell ⟨w.heap.size+1,3,none⟩ (.string o.to)).setCell ⟨w.heap.size+1,4,none⟩ (.string o.into)).setCell ⟨w.heap.size+1,5,none⟩ (.int .i64 o.at')).setCell ⟨w.heap.size+1,6,none⟩ (.int .i64 o.fr)).setCell ⟨w.heap.size+1,7,none⟩ (.int .i64 o.ln)).setCell ⟨w.heap.size+1,8,none⟩ (.string o.data))=W9 at *
  refine wpAnyH_done (by kernel_rfl) ?_ _
  go_wp2
  refine YW (CN rfl _ W9 w.heap.size _ _ (w.heap.size+1) _ _ _ _ rfl rfl D9 O9 underlying35 underlying39 rfl rfl (by kernel_rfl) (by kernel_rfl)) rfl ?_
  exact⟨⟨_,p,⟨kv,o.vol,o.file,o.to,o.into,o.at',o.fr,o.ln,o.data⟩,rfl,T9.mono (by omega),hd,⟨hf.vol,hf.file,hf.to,hf.into,hf.data⟩⟩,C9⟩
theorem Eb {a b:ByteArray}(h:(a++b).size<=1000000):¬ 9223372036854775807<a.size+b.size∧a.size<=1000000:=by
 rw[ByteArray.size_append] at h;omega
theorem Fe {p:Po}{vol:ByteArray}{l:List ByteArray}(h:Cn p vol=some l):l.length<=5∧∀ f∈l,f.size<=8:=by
 unfold Cn at h
 split at h
 ·rename_i hp
  cases hi:volI p.vs vol with
  |none=>rw[hi] at h;cases h
  |some i=>
   rw[hi] at h;dsimp only[Option.bind] at h
   cases hv:p.vs[i]? with
   |none=>rw[hv] at h;cases h
   |some v=>
    rw[hv] at h
    have hl:v.its.map (·.nm)=l:=Zi h
    have h1:=(b0_ (bL_ hp).2.1 v (Zc hv)).1
    simp only[itemsB,Zf,ZU] at h1
    refine ⟨by rw[<-hl,List.length_map];exact h1.1,fun f hf=>?_⟩
    rw[<-hl] at hf
    obtain⟨x,hx,rfl⟩:=ZT.1 hf
    have:=hR_ h1.2 x hx
    simp only[nameB,Zf,ZU] at this
    omega
 ·cases h
theorem Cb (B:Nat)(hB0:0<B)(v:Value)(p:Po)(vol:ByteArray)(w:World)(h:AG B w v p)(hd:AC p)(hvol:vol.size<=1048576) :
  Calls prog 34 #[v,.string vol] w fun e w'=>e=.returned (.string (BN p vol))∧Below w.heap.size w w':=by
 obtain⟨ea,en,ec,va,vn,vc,ra,rn,rc,la,ln,lc,rfl⟩:=h.cells
 have hR:Hid (BN p vol=match Cn p vol with | none=>⟨#[110,111,110,101]⟩ | some l=>BG p vol l ⟨#[]⟩):=by show _=_;rfl
 generalize BN p vol=R at *
 go_enter func34,ntmps34
 go_wp2_with fail
 have hA:Below w.heap.size w (w.alloc (.cells #[.int .i64 p.size,.int .i64 p.next,.slice ea en ec,.slice va vn vc,.slice ra rn rc,.slice la ln lc] 35)):=by go_grown
 have C0:=Blk.new w #[.int .i64 p.size,.int .i64 p.next,.slice ea en ec,.slice va vn vc,.slice ra rn rc,.slice la ln lc] 35
 have h0:=h.below hA
 generalize w.alloc (.cells #[.int .i64 p.size,.int .i64 p.next,.slice ea en ec,.slice va vn vc,.slice ra rn rc,.slice la ln lc] 35)=w1 at *
 refine (EP B _ p vol w1 h0 hd hvol).mono ?_
 rintro e w2 ⟨⟨a,n,cap,rfl,hn,RS⟩,hg⟩
 have C2:=C0.below hg
 have h2:=h0.below hg
 have hp:=Aa hA hg
 clear hA C0 h0 hg h
 cases hf:Cn p vol with
 |none=>
  rw[hf] at hR
  clear RS hf
  dsimp only[Option.isSome]
  go_wp2
  go_returns
  exact⟨by rw[hR.out];rfl,hp⟩
 |some l=>
  rw[hf] at hR RS
  have ht:=Fe hf
  have hq:AF scs 1 w2 a n l:=RS.sl
  have hh:Hid (l.length=n):=hq.len
  clear hf RS
  dsimp only[Option.isSome]
  go_wp2_with fail
  go_loopw [7,8] (fun s ix wr=>∃ k:Nat,k<=n∧ix=.int .i64 k∧s=.string (BG p vol (l.take k) ⟨#[]⟩)∧Below w2.heap.size w2 wr) (fun _ ix _=>n-(intOf ix).toNat)
  case atStart=>exact⟨0,Zg _,rfl,rfl,Yg _ _⟩
  case round=>
   obtain⟨k,hk,rfl,rfl,hB⟩:=hrel
   by_cases hlt:k<n
   ·obtain⟨b,o,f,rfl,hx,hc⟩:=HX (hq.below hB) hlt
    have hl:Hid (BG p vol (l.take (k+1)) ⟨#[]⟩=(((BG p vol (l.take k) ⟨#[]⟩++f)++nlB)++DU p vol f)++nlB):=by
     show _=_
     rw[bx_ hx,Ep]
    have ha:(BG p vol (l.take (k+1)) ⟨#[]⟩).size<=1000000:=by
     have h5:=Eo (p:=p) (vol:=vol) (M:=8) (l:=l.take (k+1)) (acc:=⟨#[]⟩) (fun y hy=>ht.2 y (ZX hy))
     have h6:(l.take (k+1)).length<=5:=by rw[Zz];have:=ht.1;omega
     have h7:(⟨#[]⟩:ByteArray).size=0:=rfl
     have h8:(l.take (k+1)).length*(8+102)<=5*110:=Nat.mul_le_mul h6 (by omega)
     omega
    rw[hl.out] at ha
    obtain⟨S,hS⟩:∃ S,Hid (BG p vol (l.take k) ⟨#[]⟩=S):=⟨_,rfl⟩
    rw[hS.out] at ha ⊢
    obtain⟨T,hT⟩:∃ T,Hid (DU p vol f=T):=⟨_,rfl⟩
    rw[hT.out] at ha
    obtain⟨e4,ha⟩:=Eb ha
    obtain⟨e3,ha⟩:=Eb ha
    obtain⟨e2,ha⟩:=Eb ha
    obtain⟨e1,ha⟩:=Eb ha
    have hF:(k:Int)<n:=by omega
    have hE:(0:Int)<=k:=by omega
    have C3:=C2.below hB
    have h3:=h2.below hB
    obtain⟨N,hN⟩:∃ N,Hid ((DN p vol f)=N):=⟨_,rfl⟩
    have kA:∀ u,Below wr.heap.size wr u->Calls prog 35 #[.agg #[.int .i64 p.size,.int .i64 p.next,.slice ea en ec,.slice va vn vc,.slice ra rn rc,.slice la ln lc],.string vol,.string f] u fun e w'=>e=.returned (.tuple #[.int .i64 N.1,.bool N.2])∧Below u.heap.size u w':=fun u hu=>by
     rw[<-hN.out];exact Fg B _ p vol f u (h3.below hu) hd hvol
    obtain⟨z0,z1,z2,z3,z4,z5⟩:=BH C3
    have g0:=Ad z0
    have g1:=Ad z1
    have g2:=Ad z2
    have g3:=Ad z3
    have g4:=Ad z4
    have g5:=Ad z5
    have g6:=Ad hc
    have hj:=aA_ wr
    go_wp2_with fail
    refine ab_ (by kernel_rfl) (by kernel_rfl) ?_
    repeat (go_big_quiet_step (first | (go_at_call 35;exact an_ (kA _ (Grw.h _)))))
    refine wpQuiet_nil ?_
    intro w4 hv
    have hb:=ah_ hv
    clear hv g0 g1 g2 g3 g4 g5 g6 hj kA
    have hC:=hb
    have C4:=C3.below hb
    have h4:=h3.below hb
    have hr:=Ab hb hc
    have hG:=hb.size
    have kB:∀ u,Below w4.heap.size w4 u->Calls prog 36 #[.agg #[.int .i64 p.size,.int .i64 p.next,.slice ea en ec,.slice va vn vc,.slice ra rn rc,.slice la ln lc],.string vol,.string f,.int .i64 0,.int .i64 N.1] u fun e w'=>e=.returned (.tuple #[.string T,.bool (Du p vol f 0 N.1).2])∧Below u.heap.size u w':=fun u hu=>by
     have:=Ff B hB0 _ p vol f 0 N.1 u (h4.below hu) hd hvol
     have e0:(Du p vol f 0 N.1).1=T:=by rw[<-hN.out];exact hT.out
     rw[e0] at this;exact this
    clear z0 z1 z2 z3 z4 z5 C3 h3 hc
    obtain⟨z0,z1,z2,z3,z4,z5⟩:=BH C4
    have g0:=Ad z0
    have g1:=Ad z1
    have g2:=Ad z2
    have g3:=Ad z3
    have g4:=Ad z4
    have g5:=Ad z5
    have g6:=Ad hr
    have hj:=aA_ w4
    go_wp2_with fail
    refine ab_ (by kernel_rfl) (by kernel_rfl) ?_
    repeat (go_big_quiet_step (first | (go_at_call 36;exact an_ (kB _ (Grw.h _)))))
    refine wpQuiet_nil ?_
    intro w5 hw
    have ho:=ah_ hw
    clear hw g0 g1 g2 g3 g4 g5 g6 hj kB z0 z1 z2 z3 z4 z5
    have hD:=Ab ho hr
    have hz:=Aa (Aa hB hb) ho
    have hs:nlB=⟨#[10]⟩:=rfl
    rw[hs] at e2 e3 e4
    have hm:Hid (BG p vol (l.take (k+1)) ⟨#[]⟩=(((S++f)++⟨#[10]⟩)++T)++⟨#[10]⟩):=by
     show _=_
     rw[hl.out,hS.out,hT.out];rfl
    clear hl hS hT hN hs
    go_wp2
    go_roundw
    case rel=>exact⟨k+1,by omega,by go_num,by rw[hm.out],hz⟩
    case measure=>simp[intOf];omega
   ·obtain rfl:k=n:=by omega
    have he:l.take k=l:=Zk (by rw[hh.out];exact Zd _)
    rw[he]
    clear he
    go_wp2
    go_returns
    exact⟨by rw[hR.out];rfl,Aa hp hB⟩
end
section
open Go Go.ChangeShapes Go.WideShapes Go.ChangeAt Go.RowKit Go.Deep Go.Joins Go.BigFrame _root_.Go.Proofs.Tryz
theorem Bx {P:Program}{x y:String×DataW Unit}{r:List (String×DataW Unit)}{w:World}(h:laidMet P (x::y::r) w):laidMet P (x::r) w:=by
 obtain⟨ps,hv,hnd,ha⟩:=h
 obtain⟨n,d⟩:=x
 obtain⟨m,d2⟩:=y
 obtain⟨g,t,cs,fuel,p,q,a1,a2,a3,a4,⟨g2,t2,cs2,fuel2,p2,q2,_,_,_,_,b5,rfl⟩,rfl⟩:=hv
 have hs:(MemPlace.row ⟨g,0,none⟩ cs.size++p++q2).Sublist (MemPlace.row ⟨g,0,none⟩ cs.size++p++(MemPlace.row ⟨g2,0,none⟩ cs2.size++p2++q2)):=(List.Sublist.refl _).append (List.sublist_append_right _ _)
 exact⟨_,⟨g,t,cs,fuel,p,q2,a1,a2,a3,a4,b5,rfl⟩,hnd.sublist hs,fun b off hm=>ha b off (hs.subset hm)⟩
theorem Ic:ownKnob prog.godebug=none:=by kernel_rfl
theorem HE:"*"++"errors.errorString"="*errors.errorString":=by decide
theorem Ip (u:TypeId)(h:prog.typeName? 3 u=some "*errors.errorString"):u=348:=
 typeName_ptr_named (nm:="errors.errorString") (by rw[HE];kernel_rfl) (by kernel_rfl) (by decide) u (by rw[HE];exact h)
theorem HN:prog.cellsOf 367=1:=by kernel_rfl
theorem Hl:prog.cellsOf 9=1:=by kernel_rfl
theorem Cw {W:World}{n0 n1:String}{text0 text1:List UInt8}{r:List (String×DataW Unit)}{g0 g1:Nat}(h:laidMet prog ((n0,.iface "*errors.errorString" (.ptr (.agg [.lit (.string text0)])))::(n1,.iface "*errors.errorString" (.ptr (.agg [.lit (.string text1)])))::r) W)(hg0:prog.globalNamed n0=some g0)(ht0:(prog.globals[g0]?).map (·.type)=some 94)(hg1:prog.globalNamed n1=some g1)(ht1:(prog.globals[g1]?).map (·.type)=some 94):∃ a0 a1,Two W n0 n1 a0 a1:=by
 obtain⟨a0,a1,s0,s1,c0,c1,t0,t1,he,hf,hg,hj,hl,hh,hk,hm,hc,ha,hb⟩:=laid_sentinels2 h hg0 ht0 hg1 ht1 underlying94 Ip underlying348 underlying367 rfl rfl underlying9 HN Hl
 exact⟨a0,a1,he,hf,hc,⟨c0,t0,ha⟩,⟨c1,t1,hb⟩⟩
theorem G7 {W:World}(h:laidMetH prog CS W):∃ ep a_errOp a_errVolume a_errFile a_errBytes a_errThere a_errFixed a_errRoom a_errParts a_errAfter,Ten W ep a_errOp a_errVolume a_errFile a_errBytes a_errThere a_errFixed a_errRoom a_errParts a_errAfter:=by
 have h':laidMet prog ER W∧handlesMet prog [("errors.errorType",Rows.laid_errors_errorType)] W:=h
 have q1:=h'.1
 unfold ER at q1
 obtain⟨e0,a_errOp,ha⟩:=Cw q1 ih_ mt_ lr_ pd_
 replace q1:=Bx q1
 obtain⟨e1,a_errVolume,hb⟩:=Cw q1 ih_ mt_ gb_ jM_
 replace q1:=Bx q1
 obtain⟨e2,a_errFile,hj⟩:=Cw q1 ih_ mt_ ii_ mu_
 replace q1:=Bx q1
 obtain⟨e3,a_errBytes,he⟩:=Cw q1 ih_ mt_ gO_ ls_
 replace q1:=Bx q1
 obtain⟨e4,a_errThere,hh⟩:=Cw q1 ih_ mt_ gP_ lt_
 replace q1:=Bx q1
 obtain⟨e5,a_errFixed,hf⟩:=Cw q1 ih_ mt_ gQ_ lu_
 replace q1:=Bx q1
 obtain⟨e6,a_errRoom,hk⟩:=Cw q1 ih_ mt_ ij_ mv_
 replace q1:=Bx q1
 obtain⟨e7,a_errParts,hg⟩:=Cw q1 ih_ mt_ gR_ lv_
 replace q1:=Bx q1
 obtain⟨e8,a_errAfter,hc⟩:=Cw q1 ih_ mt_ gS_ lw_
 obtain rfl:=ha.same hb
 obtain rfl:=ha.same hj
 obtain rfl:=ha.same he
 obtain rfl:=ha.same hh
 obtain rfl:=ha.same hf
 obtain rfl:=ha.same hk
 obtain rfl:=ha.same hg
 obtain rfl:=ha.same hc
 exact⟨_,a_errOp,a_errVolume,a_errFile,a_errBytes,a_errThere,a_errFixed,a_errRoom,a_errParts,a_errAfter,ha,hb,hj,he,hh,hf,hk,hg,hc⟩
theorem Fl:laidOutB prog=true:=by kernel_rfl
end
end Go.Proofs.YtahenegmbmnmjaaGreatDoor
