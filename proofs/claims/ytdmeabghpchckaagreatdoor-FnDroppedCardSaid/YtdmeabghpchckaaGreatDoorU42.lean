/- What is done to one volume changes nothing of any other one: plain facts. -/
import Derived.Test.YtdmeabghpchckaaGreatDoorCards
import Derived.Test.YtdmeabghpchckaaGreatDoorTie
import Derived.Test.YtdmeabghpchckaaGreatDoorU40
set_option maxHeartbeats 20000000
set_option maxRecDepth 100000
namespace Go.Proofs.YtdmeabghpchckaaGreatDoor
section
open Go Go.RowKit Go.BigFrame _root_.Go.Proofs.Tryz
theorem GT:∀ {l:List Pt} {q:Option Pt} {left:Int},pgo q left l=true->∀ x∈l,Ag x=true
 |[],_,_,_=>by simp
 |p::r,q,left,h=>by
  have h2:Ag p=true∧∃ left',pgo (some p) left' r=true:=by
   cases q<;>simp only[pgo,Zf] at h
   ·exact⟨h.1.1,_,h.2⟩
   ·exact⟨h.1.1.1,_,h.2⟩
  intro x hx
  rcases Zn.1 hx with rfl | hx
  ·exact h2.1
  ·obtain⟨_,h3⟩:=h2.2;exact GT h3 x hx
theorem Dw {a:Int}:∀ {l:List Ex},(∀ e∈l,e.a≠a)->AK a l=⟨#[]⟩
 |[],_=>rfl
 |e::r,h=>by
  have h1:=h e (by simp)
  have h2:(e.a==a)=false:=ZV.2 h1
  simp only[AK,h2,Zj,if_false]
  exact Dw (fun x hx=>h x (ZY _ hx))
theorem Es {e:List Ex}:∀ {l:List Pt} {acc s:ByteArray},cgo e acc l=some s->(∀ x∈l,Ag x=true)->∀ q∈l,q.a≠0->∃ x∈e,x.a=q.a
 |[],_,_,_,_=>by simp
 |p::r,acc,s,h,hok=>by
  intro q hq h0
  simp only[cgo] at h
  cases hp:pieceO e p with
  |none=>rw[hp] at h;cases h
  |some d=>
   rw[hp] at h
   rcases Zn.1 hq with rfl | hq
   ·have h1:=hok q (by simp)
    have h2:(q.a==0)=false:=ZV.2 h0
    apply Classical.byContradiction
    intro ha
    have h3:AK q.a e=⟨#[]⟩:=Dw (fun x hx hb=>ha ⟨x,hx,hb⟩)
    simp only[Ag,h2,Zj,if_false,Zf,ZU] at h1
    simp only[pieceO,h2,Zj,if_false,h3] at hp
    split at hp
    ·cases hp
    ·rename_i h4
     apply h4
     show ((⟨#[]⟩:ByteArray).size:Int)<_
     have:(⟨#[]⟩:ByteArray).size=0:=rfl
     rw[this];omega
   ·exact Es h (fun x hx=>hok x (ZY _ hx)) q hq h0
theorem Em {size a:Int}{l L:List Ex}{d:ByteArray}{ps:List Pt}(h:AV size l d=some (L,a))(hc:(Aj ps l).isSome=true):Aj ps L=Aj ps l:=by
 obtain⟨h1,_,h3,_,_,h6,_⟩:=jC_ h
 obtain⟨s,hs⟩:=Option.isSome_iff_exists.1 hc
 have hl:l=L.filter (fun e=>!(e.a==a)):=by
  unfold EH at h6
  split at h6
  ·exact (Zi h6).symm
  ·cases h6
 have ha:=(fl_ hs).1
 have hb:cgo l ⟨#[]⟩ ps=some s:=by
  have:=hs;unfold Aj at this;rw[if_pos ⟨ha,(fl_ hs).2⟩] at this;exact this
 simp only[Ac,Zf] at ha
 have h7:=h9_ (f:=fun e:Ex=>!(e.a==a)) (ps:=ps) (iI_ h3) (fun q hq h0 x _ he=>by
  obtain⟨y,hy,hf⟩:=Es hb (GT ha.2) q hq h0
  rw[hl] at hy
  have:=(YG.1 hy).2
  rw[he,<-hf];exact this)
 rw[<-hl] at h7
 exact h7.symm
def FR (o:Opr):ByteArray:=if o.k=5 then o.to else o.vol
def Db (p n:Po)(v:Vo):Prop:=∃ (j:Nat) (u:Vo),n.vs[j]?=some u∧u.nm=v.nm∧u.its=v.its∧∀ x∈v.its,Aj x.ps n.ex=Aj x.ps p.ex
theorem Db.late {p q n:Po}{v:Vo}(h:Db p n v):Db p (A6 q n) v:=h
theorem GM {p:Po}{L:List Ex}{i k:Nat}{v u u':Vo}(hv:p.vs[k]?=some v)(hu:p.vs[i]?=some u)(hne:v.nm.toList≠u.nm.toList)(hL:∀ x∈v.its,Aj x.ps L=Aj x.ps p.ex):Db p {p with ex:=L,vs:=p.vs.set i u'} v:=by
 have ha:i≠k:=by
  rintro rfl
  rw[hu] at hv;cases hv;exact hne rfl
 exact⟨k,v,by show (p.vs.set i u')[k]?=_;rw[ZJ ha];exact hv,rfl,rfl,hL⟩
theorem Ev {vs:List Vo}{s:ByteArray}{i:Nat}{u:Vo}(h:volI vs s=some i)(hu:vs[i]?=some u):u.nm.toList=s.toList:=by
 obtain⟨h1,h2,_⟩:=ZA.1 h
 have:vs[i]=u:=by rw[ZI h1] at hu;exact Zi hu
 rw[this] at h2
 exact beq_iff_eq.1 h2
theorem GS {p:Po}{o:Opr}{ps:List Pt}(h0:(Ah p o).1=0)(hc:(Aj ps p.ex).isSome=true):Aj ps (Ah p o).2.1=Aj ps p.ex:=by
 revert h0
 unfold Ah
 dsimp only
 split
 ·split
  ·intro h;simp at h
  ·rename_i L a hpl;intro _;exact Em hpl hc
 ·split
  ·split
   ·intro h;simp at h
   ·split<;>(intro _;rfl)
  ·split
   ·intro h;simp at h
   ·split
    ·intro _;rfl
    ·split<;>(intro _;rfl)
theorem FN {p:Po}{o:Opr}(hp:Ai p=true)(h0:(BQ p o).1=0){k:Nat}{v:Vo}(hv:p.vs[k]?=some v)(hne:v.nm.toList≠(FR o).toList∨v.fx=true∧o.k≠7):Db p (BQ p o).2 v:=by
 have hc:∀ x∈v.its,(Aj x.ps p.ex).isSome=true:=fun x hx=>by
  have h1:=(b0_ (bL_ hp).2.1 v (Zc hv)).1
  simp only[itemsB,Zf] at h1
  exact db_ h1.2 x hx
 have ha:Db p p v:=⟨k,v,hv,rfl,rfl,fun _ _=>rfl⟩
 have hm:=(Zb.1 hv).1
 revert h0
 unfold BQ
 split
 ·rename_i hkk
  intro h0
  unfold Ap at h0 ⊢
  dsimp only at h0 ⊢
  have hb:v.nm.toList≠(if o.k=5 then o.to else o.vol).toList∨v.fx=true∧o.k≠7:=hne
  cases hi:volI p.vs (if o.k=5 then o.to else o.vol) with
  |none=>rw[hi] at h0;simp at h0
  |some i=>
   rw[hi] at h0;dsimp only at h0 ⊢
   cases hu:p.vs[i]? with
   |none=>rw[hu] at h0;simp at h0
   |some u=>
    rw[hu] at h0;dsimp only at h0 ⊢
    have hl:=Ev hi hu
    by_cases hfx:u.fx=true
    ·rw[if_pos hfx] at h0;simp at h0
    ·rw[if_neg hfx] at h0 ⊢
     by_cases hr:(Ah p o).1=0
     ·rw[if_pos hr] at h0 ⊢
      refine GM hv hu ?_ (fun x hx=>GS hr (hc x hx))
      rcases hb with hn | ⟨hf,_⟩
      ·rw[hl];exact hn
      ·intro he
       have hg:i=k:=by
        have h1:=pH_ (bL_ hp).2.2.2.2 hv
        have h2:=pH_ (bL_ hp).2.2.2.2 hu
        have h3:volI p.vs v.nm=volI p.vs u.nm:=by unfold volI;rw[he]
        rw[h1,h2] at h3;exact (Zi h3).symm
       subst hg
       rw[hu] at hv;cases hv;exact hfx hf
     ·rw[if_neg hr] at h0;exact absurd h0 hr
 ·rename_i hkk
  intro h0
  unfold Ay at h0 ⊢
  have hh:∀ (y:Vo) (nx:Int),Db p {p with vs:=p.vs++[y],next:=nx} v:=fun y nx=>⟨k,v,by show (p.vs++[y])[k]?=_;rw[ZD hm];exact hv,rfl,rfl,fun _ _=>rfl⟩
  have h5:o.k≠5:=by intro h;exact hkk (.inr (.inr (.inl h)))
  have hb:v.nm.toList≠o.vol.toList∨v.fx=true∧o.k≠7:=by simpa only[FR,if_neg h5] using hne
  cases hi:volI p.vs o.vol with
  |none=>
   rw[hi] at h0;dsimp only at h0 ⊢
   by_cases hk:o.k=1
   ·rw[if_pos hk];exact hh _ _
   ·rw[if_neg hk];exact ha
  |some i=>
   rw[hi] at h0;dsimp only at h0 ⊢
   cases hu:p.vs[i]? with
   |none=>dsimp only;exact ha
   |some u=>
    rw[hu] at h0;dsimp only at h0 ⊢
    have hl:=Ev hi hu
    by_cases hk1:o.k=1
    ·rw[if_pos hk1];exact ha
    rw[if_neg hk1] at h0 ⊢
    by_cases hk6:o.k=6
    ·rw[if_pos hk6]
     cases volI p.vs o.to with
     |none=>exact hh _ _
     |some _=>exact ha
    rw[if_neg hk6] at h0 ⊢
    by_cases hk7:o.k=7
    ·rw[if_pos hk7]
     have hn:v.nm.toList≠u.nm.toList:=by
      rcases hb with hn | ⟨_,hn⟩
      ·rw[hl];exact hn
      ·exact absurd hk7 hn
     have hg:i≠k:=by rintro rfl;rw[hu] at hv;cases hv;exact hn rfl
     have ho:=(Zb.1 hu).1
     by_cases hlt2:k<i
     ·exact⟨k,v,by
       show (p.vs.take i++p.vs.drop (i+1))[k]?=_
       rw[ZD (by rw[Zz];omega),Ya hlt2];exact hv,rfl,rfl,fun _ _=>rfl⟩
     ·exact⟨k-1,v,by
       show (p.vs.take i++p.vs.drop (i+1))[k-1]?=_
       rw[Zv (by rw[Zz];omega),Zz,List.getElem?_drop,show i+1+(k-1-min i p.vs.length)=k by omega];exact hv,rfl,rfl,fun _ _=>rfl⟩
    rw[if_neg hk7] at h0 ⊢
    by_cases hk8:o.k=8
    ·rw[if_pos hk8]
     by_cases hfx:u.fx=true
     ·rw[if_pos hfx];exact ha
     ·rw[if_neg hfx]
      by_cases hg:i=k
      ·subst hg
       rw[hu] at hv;cases hv
       exact⟨i,{v with fx:=true},by show (p.vs.set i _)[i]?=_;rw[Zx hm],rfl,rfl,fun _ _=>rfl⟩
      ·exact⟨k,v,by show (p.vs.set i _)[k]?=_;rw[ZJ hg];exact hv,rfl,rfl,fun _ _=>rfl⟩
    rw[if_neg hk8] at h0 ⊢
    by_cases hk4:o.k=4
    ·rw[if_pos hk4] at h0 ⊢
     by_cases hfx:u.fx=true
     ·rw[if_pos hfx];exact ha
     ·rw[if_neg hfx] at h0 ⊢
      cases hj:itI u.its o.file with
      |none=>exact ha
      |some j=>
       dsimp only
       have hg:i≠k:=by
        rintro rfl
        rw[hu] at hv;cases hv
        rcases hb with hn | ⟨hf,_⟩
        ·exact hn hl
        ·exact hfx hf
       exact⟨k,v,by show (p.vs.set i _)[k]?=_;rw[ZJ hg];exact hv,rfl,rfl,fun _ _=>rfl⟩
    rw[if_neg hk4];exact ha
theorem Hg {p:Po}{o:Opr}(hp:Ai p=true)(h0:(opS p o).1=0){k:Nat}{v:Vo}(hv:p.vs[k]?=some v)(hne:v.nm.toList≠(FR o).toList∨v.fx=true∧o.k≠7):Ai (opS p o).2=true∧Db p (opS p o).2 v:=by
 revert h0
 unfold opS
 split
 ·split
  ·intro _
   exact⟨le_ hp,k,v,hv,rfl,rfl,fun x hx=>iy_ hp (Zc hv) hx⟩
  ·split
   ·rename_i ht
    split
    ·rename_i hb
     intro _
     exact⟨hb,(FN hp ht hv hne).late⟩
    ·intro h;simp at h
   ·rename_i ht
    intro h;exact absurd h ht
 ·intro h;simp at h
def nlB:ByteArray:=⟨#[10]⟩
def DE (p:Po)(vol f:ByteArray):ByteArray:=(Dj p vol f 0 (Dx p vol f).1).1
def BF (p:Po)(vol:ByteArray):List ByteArray->ByteArray->ByteArray
 |[],acc=>acc
 |f::r,acc=>BF p vol r ((((acc++f)++nlB)++DE p vol f)++nlB)
def CV (p:Po)(vol:ByteArray):ByteArray:=match Ci p vol with
 |none=>⟨#[110,111,110,101]⟩
 |some l=>BF p vol l ⟨#[]⟩
theorem Ed {p n:Po}{vol:ByteArray}(h:∀ f,DE n vol f=DE p vol f):∀ (l:List ByteArray) (acc:ByteArray),BF n vol l acc=BF p vol l acc
 |[],_=>rfl
 |x::r,acc=>by rw[BF,BF,h,Ed h r]
theorem Gp {p n:Po}{v:Vo}{k:Nat}(hp:Ai p=true)(hn:Ai n=true)(hv:p.vs[k]?=some v)(h:Db p n v):CV n v.nm=CV p v.nm:=by
 obtain⟨j,u,hu,hf,ha,hb⟩:=h
 have i1:=pH_ (bL_ hp).2.2.2.2 hv
 have i2:volI n.vs v.nm=some j:=by rw[<-hf];exact pH_ (bL_ hn).2.2.2.2 hu
 have q1:∀ f,Ar p.vs v.nm f=(itI v.its f).bind fun m=>v.its[m]?.map (·.ps):=fun f=>by
  unfold Ar;rw[i1];dsimp only[Option.bind];rw[hv]
 have q2:∀ f,Ar n.vs v.nm f=Ar p.vs v.nm f:=fun f=>by
  rw[q1];unfold Ar;rw[i2];dsimp only[Option.bind];rw[hu];dsimp only;rw[ha]
 have he:∀ f,DE n v.nm f=DE p v.nm f:=fun f=>by
  unfold DE Dj Dx BV
  rw[if_pos hp,if_pos hn,if_pos hp,if_pos hn,q2]
  cases hq:Ar p.vs v.nm f with
  |none=>rfl
  |some ps=>
   have hc:Aj ps n.ex=Aj ps p.ex:=by
    rw[q1] at hq
    cases hm:itI v.its f with
    |none=>rw[hm] at hq;cases hq
    |some m=>
     rw[hm] at hq;dsimp only[Option.bind] at hq
     cases hx:v.its[m]? with
     |none=>rw[hx] at hq;cases hq
     |some x=>
      rw[hx] at hq
      have hg:x.ps=ps:=Zi hq
      rw[<-hg]
      exact hb x (Zc hx)
   dsimp only
   rw[hc]
 unfold CV Ci
 rw[if_pos hp,if_pos hn,i1,i2]
 dsimp only[Option.bind]
 rw[hv,hu]
 dsimp only[Option.map]
 rw[ha]
 exact Ed he _ _
theorem DU {p:Po}{o:Opr}{R:Int×Po}(hR:Bz p o=R)(hc:R.1≠1):Ai p=true∧opS p o=R:=by
 unfold Bz at hR
 split at hR
 ·rename_i hp;exact⟨hp,hR⟩
 ·rw[<-hR] at hc;exact absurd rfl hc
theorem Gi {p q:Po}{o:Opr}{R:Int×Po}(hR:Bz p o=R)(hc:R.1=0)(hq:R.2=q){k:Nat}{v:Vo}(hv:p.vs[k]?=some v)(hne:v.nm.toList≠(FR o).toList∨v.fx=true∧o.k≠7):CV q v.nm=CV p v.nm:=by
 obtain⟨hp,ho⟩:=DU hR (by omega)
 have h1:=Hg hp (by rw[ho];exact hc) hv hne
 rw[ho,hq] at h1
 exact Gp hp h1.1 hv h1.2
theorem FI {p:Po}{o:Opr}(h:(opS p o).1≠0):(opS p o).2=p:=by
 revert h
 unfold opS
 split
 ·split
  ·intro h;exact absurd rfl h
  ·split
   ·split
    ·intro h;exact absurd rfl h
    ·intro _;rfl
   ·intro _;rfl
 ·intro _;rfl
theorem HG {p q:Po}{o:Opr}{R:Int×Po}(hR:Bz p o=R)(hc:R.1≠1)(hq:R.2=q){k:Nat}{v:Vo}(hv:p.vs[k]?=some v)(hf:v.fx=true)(hk:o.k≠7):CV q v.nm=CV p v.nm:=by
 by_cases h0:R.1=0
 ·exact Gi hR h0 hq hv (.inr ⟨hf,hk⟩)
 ·have ho:=(DU hR hc).2
  have:=FI (p:=p) (o:=o) (by rw[ho];exact h0)
  rw[ho,hq] at this
  rw[this]
end
section
open Go Go.ChangeShapes Go.WideShapes Go.RowKit Go.BigFrame _root_.Go.Proofs.Tryz
variable{a_errAfter a_errBytes a_errFile a_errFixed a_errOp a_errParts a_errRoom a_errThere a_errVolume ep:Addr}{W:World}
theorem ih_:prog.globalNamed "loop.example/g00336/impl.errPool"=some 0:=by kernel_rfl
theorem mt_:(prog.globals[0]?).map (·.type)=some 58:=by kernel_rfl
theorem lr_:prog.globalNamed "loop.example/g00336/impl.errOp"=some 1:=by kernel_rfl
theorem pd_:(prog.globals[1]?).map (·.type)=some 58:=by kernel_rfl
theorem gb_:prog.globalNamed "loop.example/g00336/impl.errVolume"=some 4:=by kernel_rfl
theorem jM_:(prog.globals[4]?).map (·.type)=some 58:=by kernel_rfl
theorem ii_:prog.globalNamed "loop.example/g00336/impl.errFile"=some 8:=by kernel_rfl
theorem mu_:(prog.globals[8]?).map (·.type)=some 58:=by kernel_rfl
theorem gO_:prog.globalNamed "loop.example/g00336/impl.errBytes"=some 9:=by kernel_rfl
theorem ls_:(prog.globals[9]?).map (·.type)=some 58:=by kernel_rfl
theorem gP_:prog.globalNamed "loop.example/g00336/impl.errThere"=some 6:=by kernel_rfl
theorem lt_:(prog.globals[6]?).map (·.type)=some 58:=by kernel_rfl
theorem gQ_:prog.globalNamed "loop.example/g00336/impl.errFixed"=some 5:=by kernel_rfl
theorem lu_:(prog.globals[5]?).map (·.type)=some 58:=by kernel_rfl
theorem ij_:prog.globalNamed "loop.example/g00336/impl.errRoom"=some 7:=by kernel_rfl
theorem mv_:(prog.globals[7]?).map (·.type)=some 58:=by kernel_rfl
theorem gR_:prog.globalNamed "loop.example/g00336/impl.errParts"=some 10:=by kernel_rfl
theorem lv_:(prog.globals[10]?).map (·.type)=some 58:=by kernel_rfl
theorem gS_:prog.globalNamed "loop.example/g00336/impl.errAfter"=some 2:=by kernel_rfl
theorem lw_:(prog.globals[2]?).map (·.type)=some 58:=by kernel_rfl
def DN:List (String×DataW Unit):=[("errors.errorType",Rows.laid_errors_errorType),("loop.example/g00336/impl.errPool",Rows.laid_loop_example_g00336_impl_errPool),("loop.example/g00336/impl.errOp",Rows.laid_loop_example_g00336_impl_errOp),("loop.example/g00336/impl.errVolume",Rows.laid_loop_example_g00336_impl_errVolume),("loop.example/g00336/impl.errFile",Rows.laid_loop_example_g00336_impl_errFile),("loop.example/g00336/impl.errBytes",Rows.laid_loop_example_g00336_impl_errBytes),("loop.example/g00336/impl.errThere",Rows.laid_loop_example_g00336_impl_errThere),("loop.example/g00336/impl.errFixed",Rows.laid_loop_example_g00336_impl_errFixed),("loop.example/g00336/impl.errRoom",Rows.laid_loop_example_g00336_impl_errRoom),("loop.example/g00336/impl.errParts",Rows.laid_loop_example_g00336_impl_errParts),("loop.example/g00336/impl.errAfter",Rows.laid_loop_example_g00336_impl_errAfter)]
def EG:List (String×DataW Unit):=[("loop.example/g00336/impl.errPool",Rows.laid_loop_example_g00336_impl_errPool),("loop.example/g00336/impl.errOp",Rows.laid_loop_example_g00336_impl_errOp),("loop.example/g00336/impl.errVolume",Rows.laid_loop_example_g00336_impl_errVolume),("loop.example/g00336/impl.errFile",Rows.laid_loop_example_g00336_impl_errFile),("loop.example/g00336/impl.errBytes",Rows.laid_loop_example_g00336_impl_errBytes),("loop.example/g00336/impl.errThere",Rows.laid_loop_example_g00336_impl_errThere),("loop.example/g00336/impl.errFixed",Rows.laid_loop_example_g00336_impl_errFixed),("loop.example/g00336/impl.errRoom",Rows.laid_loop_example_g00336_impl_errRoom),("loop.example/g00336/impl.errParts",Rows.laid_loop_example_g00336_impl_errParts),("loop.example/g00336/impl.errAfter",Rows.laid_loop_example_g00336_impl_errAfter)]
structure Two (W:World)(n0 n1:String)(a0 a1:Addr):Prop where
 v0:W.var? prog n0=some #[.iface 277 (.pointer (some a0))]
 v1:W.var? prog n1=some #[.iface 277 (.pointer (some a1))]
 ne:a0≠a1
 b0:∃ c t,W.heap[a0.block]?=some (.cells c t (0,0))
 b1:∃ c t,W.heap[a1.block]?=some (.cells c t (0,0))
theorem Two.same {n0 n1 n2:String}{a0 a1 b0 b1:Addr}(h:Two W n0 n1 a0 a1)(h':Two W n0 n2 b0 b1):b0=a0:=by
 have e:=h.v0.symm.trans h'.v0;simp only[Zo,Array.mk.injEq,List.cons.injEq,Value.iface.injEq,Value.pointer.injEq,and_true,true_and] at e;exact e.symm
structure Ten (W:World)(ep:Addr)(a_errOp a_errVolume a_errFile a_errBytes a_errThere a_errFixed a_errRoom a_errParts a_errAfter:Addr):Prop where
 errOp:Two W "loop.example/g00336/impl.errPool" "loop.example/g00336/impl.errOp" ep a_errOp
 errVolume:Two W "loop.example/g00336/impl.errPool" "loop.example/g00336/impl.errVolume" ep a_errVolume
 errFile:Two W "loop.example/g00336/impl.errPool" "loop.example/g00336/impl.errFile" ep a_errFile
 errBytes:Two W "loop.example/g00336/impl.errPool" "loop.example/g00336/impl.errBytes" ep a_errBytes
 errThere:Two W "loop.example/g00336/impl.errPool" "loop.example/g00336/impl.errThere" ep a_errThere
 errFixed:Two W "loop.example/g00336/impl.errPool" "loop.example/g00336/impl.errFixed" ep a_errFixed
 errRoom:Two W "loop.example/g00336/impl.errPool" "loop.example/g00336/impl.errRoom" ep a_errRoom
 errParts:Two W "loop.example/g00336/impl.errPool" "loop.example/g00336/impl.errParts" ep a_errParts
 errAfter:Two W "loop.example/g00336/impl.errPool" "loop.example/g00336/impl.errAfter" ep a_errAfter
end
section
open Go.ChangeShapes Go.WideShapes Go.ChangeAt Go.RowKit Go.Deep _root_.Go.Proofs.Tryz
theorem HS {H:Type}{enc:TypeId×Value->H}{w:World}{spare:Nat->Bool}{held:Bool}{a:Option Addr}{n cap:Nat}{d:DataW H}{p:List MemPlace}
  (h:DataW.Trod enc prog w 0 spare held 22 (.slice a n cap) d p):n<=maxLen∧Ch w a n:=by
 obtain⟨fuel,hf⟩:=h
 rcases open_slice underlying22 hf with⟨hb,_⟩ | ⟨ad,len,cap',m,n',D,Pl,hb,_,hl,hm,hn,_,hk⟩
 ·simp[Value.cells] at hb
  obtain⟨rfl,rfl,rfl⟩:=hb
  exact⟨Zg _,fun i hi=>by omega⟩
 ·simp[Value.cells] at hb
  obtain⟨rfl,rfl,rfl⟩:=hb
  have ho:n<=m:=by rw[hn];split<;>omega
  refine ⟨Zl hl hm,fun i hi=>?_⟩
  have he:∀ i,i<n->∃ z:Int,0<=z∧z<=255∧w.cell? (ad.add i)=some (.int .u8 z):=by
   intro i hi
   obtain⟨cs',h1,h2⟩:=hk i (by omega)
   rw[c5] at h1
   obtain⟨_,hg,ha⟩:=World.cells?_some h1
   obtain⟨z,e,_,hz⟩:=DataW.trod_int underlying5 h2
   match cs',hg with
   |[x0],_=>
    simp at e
    subst e
    have hc:=ha 0 (by omega)
    rw[Addr.add_add] at hc
    have hh:=bounds_u8 hz
    exact⟨z,hh.1,hh.2,by simpa using hc⟩
  obtain⟨z,h0,h1,hc⟩:=he i hi
  obtain⟨z',_,_,hj⟩:=he 0 (by omega)
  obtain⟨b,o,rfl⟩:=GW hj rfl
  exact⟨b,o,z,rfl,h0,h1,by rw[Addr.add_lit] at hc;exact hc⟩
end
end Go.Proofs.YtdmeabghpchckaaGreatDoor
