/- What is not there behind a drop or an unlinking, and what room is free then: plain facts. -/
import Derived.Test.YtdmeabghpchckaaGreatDoorKq
set_option maxHeartbeats 20000000
set_option maxRecDepth 100000
namespace Go.Proofs.YtdmeabghpchckaaGreatDoor
open Go Go.RowKit Go.BigFrame _root_.Go.Proofs.Tryz
theorem walk_iff (l:List Vo)(o:Ow):(∃ c∈AA l,c.o=o)↔∃ c∈A7 l,c.o=o:=by
 obtain⟨w1,w2,w3⟩:=bR_ l
 constructor
 ·rintro⟨c,hc,rfl⟩
  apply Classical.byContradiction;intro hn
  have h1:=bB_ (o:=c.o) (l:=A7 l) (fun x hx e=>hn ⟨x,hx,e⟩)
  have h2:=fG_ w1 hc
  rw[w3,h1] at h2
  exact w2 c hc h2.symm
 ·rintro⟨c,hc,rfl⟩
  apply Classical.byContradiction;intro hn
  have h1:=bB_ (o:=c.o) (l:=AA l) (fun x hx e=>hn ⟨x,hx,e⟩)
  have h2:=m0_ (fZ_ l) hc
  rw[<-w3,h1] at h2
  omega
theorem vgo_ids {next:Int}{e:List Ex}:∀ {l:List Vo} {last:Int},vgo next e last l=true->l.Pairwise (fun a b=>a.id<b.id)
 |[],_,_=>YT
 |v::r,last,h=>by
  have h2:vgo next e v.id r=true:=by simp only[vgo,Zf] at h;exact h.2
  exact Ye.2 ⟨fun b hb=>(b0_ h2 b hb).2.2.1,vgo_ids h2⟩
theorem mem_drop_one {α:Type}{l:List α}{i:Nat}{v x:α}(hv:l[i]?=some v):x∈l.take i++l.drop (i+1)↔∃ j,j≠i∧l[j]?=some x:=by
 have ha:=(Zb.1 hv).1
 constructor
 ·intro h
  rcases Zs.1 h with h | h
  ·obtain⟨j,hj,rfl⟩:=YS h
   rw[Zz] at hj
   exact⟨j,by omega,by rw[List.getElem_take,ZI]⟩
  ·obtain⟨j,hj,rfl⟩:=YS h
   rw[List.length_drop] at hj
   exact⟨i+1+j,by omega,by rw[List.getElem_drop,ZI]⟩
 ·rintro⟨j,hj,hx⟩
  by_cases h:j<i
  ·refine Yu _ (Zc (i:=j) ?_)
   rw[Ya h];exact hx
  ·refine Ym _ (Zc (i:=j-(i+1)) ?_)
   rw[List.getElem?_drop,show i+1+(j-(i+1))=j by omega];exact hx
theorem ids_ne {l:List Vo}(h:l.Pairwise (fun a b=>a.id<b.id)){i j:Nat}{u v:Vo}(hu:l[j]?=some u)(hv:l[i]?=some v):u.id=v.id↔j=i:=by
 obtain⟨h1,rfl⟩:=Zb.1 hu
 obtain⟨h2,rfl⟩:=Zb.1 hv
 constructor
 ·intro e
  rcases Nat.lt_trichotomy j i with h3 | h3 | h3
  ·have:=Yb.1 h j i h1 h2 h3;omega
  ·exact h3
  ·have:=Yb.1 h i j h2 h1 h3;omega
 ·rintro rfl;rfl
theorem cs_vol {v:Vo}{c:Ct}(h:c∈Ei v):c.o.v=v.id:=by
 obtain⟨x,_,hx⟩:=ZL.1 h
 obtain⟨q,_,rfl⟩:=ZT.1 hx
 rfl
theorem drop_any {l:List Vo}(h:l.Pairwise (fun a b=>a.id<b.id)){i:Nat}{v:Vo}(hv:l[i]?=some v)(a:Int):(AA (l.take i++l.drop (i+1))).any (fun c=>c.o.a==a)=(AA l).any (fun c=>c.o.a==a&&!(c.o.v==v.id)):=by
 apply YH.2
 simp only[ZN,Zf,beq_iff_eq,Bool.not_eq_true',ZV]
 constructor
 ·rintro⟨c,hc,ha⟩
  obtain⟨d,hd,he⟩:=(walk_iff _ c.o).1 ⟨c,hc,rfl⟩
  obtain⟨u,hu,hb⟩:=ZL.1 hd
  obtain⟨j,hj,hf⟩:=(mem_drop_one hv).1 hu
  obtain⟨e,hh,hg⟩:=(walk_iff l c.o).2 ⟨d,ZL.2 ⟨u,Zc hf,hb⟩,he⟩
  refine ⟨e,hh,by rw[hg];exact ha,?_⟩
  rw[hg,<-he,cs_vol hb]
  exact fun h9=>hj ((ids_ne h hf hv).1 h9)
 ·rintro⟨c,hc,ha,hl⟩
  obtain⟨d,hd,he⟩:=(walk_iff l c.o).1 ⟨c,hc,rfl⟩
  obtain⟨u,hu,hb⟩:=ZL.1 hd
  obtain⟨j,hj,rfl⟩:=YS hu
  have hf:l[j]?=some l[j]:=ZI hj
  have hk:j≠i:=fun h9=>hl (by rw[<-he,cs_vol hb];exact (ids_ne h hf hv).2 h9)
  obtain⟨e,hh,hg⟩:=(walk_iff _ c.o).2 ⟨d,ZL.2 ⟨l[j],(mem_drop_one hv).2 ⟨j,hk,hf⟩,hb⟩,he⟩
  exact⟨e,hh,by rw[hg];exact ha⟩
theorem sum_mine {W V:List Ct}{id:Int}(h:∀ a:Int,V.any (fun c=>c.o.a==a)=W.any (fun c=>c.o.a==a&&!(c.o.v==id))):∀ ex:List Ex,(EL (ex.filter (fun e=>W.any (fun c=>c.o.a==e.a))):Int)=EL (ex.filter (fun e=>V.any (fun c=>c.o.a==e.a)))+onlyS id W ex
 |[]=>rfl
 |e::r=>by
  have ih:=sum_mine h r
  have h1:=h e.a
  have h2:W.any (fun c=>c.o.a==e.a)=(W.any (fun c=>c.o.a==e.a&&c.o.v==id)||W.any (fun c=>c.o.a==e.a&&!(c.o.v==id))):=by
   apply YH.2
   simp only[Bool.or_eq_true,ZN,Zf,beq_iff_eq,Bool.not_eq_true',ZV]
   constructor
   ·rintro⟨c,hc,ha⟩
    by_cases hv:c.o.v=id
    ·exact .inl ⟨c,hc,ha,hv⟩
    ·exact .inr ⟨c,hc,ha,hv⟩
   ·rintro (⟨c,hc,ha,_⟩ | ⟨c,hc,ha,_⟩)<;>exact⟨c,hc,ha⟩
  rw[ZH,ZH,h1,h2]
  unfold onlyS mineB
  cases hA:W.any (fun c=>c.o.a==e.a&&c.o.v==id)<;>cases hB:W.any (fun c=>c.o.a==e.a&&!(c.o.v==id))
  ·simpa using ih
  ·simp only[Bool.false_or,if_true,EL,Zr,Zj,if_false];omega
  ·simp only[Bool.or_false,if_true,EL,Bool.not_false,Bool.and_true,Zj,if_false];omega
  ·simp only[Bool.or_true,if_true,EL,Bool.not_true,Bool.and_false,Zj,if_false];omega
theorem room_bd {size:Int}{l:List Ex}(h:Ao size l=true):roomV size l=size-EL l∧0<=roomV size l∧roomV size l<=400:=by
 obtain⟨h1,h2,_,h4⟩:=cu_ h
 obtain⟨q1,q2⟩:=ggo_facts h4 (by omega)
 have hs:∀ m:List (Int×Int),(∀ x∈m,1<=x.2)->0<=sumG m:=by
  intro m
  induction m with
  |nil=>intro _;exact YB _
  |cons x r ih=>intro hm;have:=ih (fun y hy=>hm y (ZY _ hy));have:=hm x (by simp);simp only[sumG];omega
 have h5:=hs _ q1
 have h6:=sumD_nonneg l
 have h7:roomV size l=size-EL l:=by unfold roomV;rw[if_pos h]
 rw[h7]
 exact⟨rfl,by omega,by omega⟩
theorem vol_after {p:Po}{o:Opr}(hk:¬ (o.k=2∨o.k=3∨o.k=5∨o.k=10))(hk9:¬ o.k=9)(h0:(opS p o).1=0):opB o=true∧(Ay p o).1=0∧Ai (opS p o).2=true∧(opS p o).2=A6 p (Ay p o).2:=by
 have ht:BQ p o=Ay p o:=by unfold BQ;rw[if_neg hk]
 have ho:opB o=true:=by
  cases h:opB o with
  |true=>rfl
  |false=>unfold opS at h0;rw[h] at h0;simp at h0
 have e1:opS p o=if (Ay p o).1=0 then (if Ai (A6 p (Ay p o).2)=true then (0,A6 p (Ay p o).2) else (5,p)) else ((Ay p o).1,p):=by
  unfold opS;rw[if_pos ho,if_neg hk9,ht]
 have hf:(Ay p o).1=0:=by
  apply Classical.byContradiction;intro h
  rw[e1,if_neg h] at h0;exact h h0
 have hb:Ai (A6 p (Ay p o).2)=true:=by
  apply Classical.byContradiction;intro h
  rw[e1,if_pos hf,if_neg h] at h0;simp at h0
 have e2:(opS p o).2=A6 p (Ay p o).2:=by rw[e1,if_pos hf,if_pos hb]
 exact⟨ho,hf,by rw[e2];exact hb,e2⟩
theorem flush_done {p:Po}(hp:Ai p=true):Bz p ⟨9,⟨#[]⟩,⟨#[]⟩,⟨#[]⟩,⟨#[]⟩,0,0,0,⟨#[]⟩⟩=(0,flushS p):=by
 unfold Bz
 rw[if_pos hp]
 unfold opS
 rw[if_pos (by simp[opB,zB]),if_pos rfl]
/-- Dropped: it is not there, and its room is free behind a flush as far as nobody else names it. -/
theorem drop_after {p:Po}{o:Opr}(hp:Ai p=true)(hk:o.k=7)(h0:(opS p o).1=0):opB o=true∧Ai (opS p o).2=true∧CV (opS p o).2 o.vol=⟨#[110,111,110,101]⟩∧∃ a m:Int,roomV (flushS p).size (flushS p).ex=a∧(onlyO p o.vol).1=m∧roomV (flushS (opS p o).2).size (flushS (opS p o).2).ex=a+m∧0<=a∧a<=400∧0<=a+m∧a+m<=400:=by
 obtain⟨ho,hf,hb,e2⟩:=vol_after (by omega) (by omega) h0
 rw[e2] at hb ⊢
 clear e2 h0
 have hc:¬ o.k=1:=by omega
 have hh:¬ o.k=6:=by omega
 cases hi:volI p.vs o.vol with
 |none=>unfold Ay at hf;rw[hi] at hf;dsimp only at hf;rw[if_neg hc] at hf;simp at hf
 |some i=>
  cases hv:p.vs[i]? with
  |none=>unfold Ay at hf;rw[hi] at hf;dsimp only at hf;rw[hv] at hf;simp at hf
  |some v=>
   have e3:(Ay p o).2={p with vs:=p.vs.take i++p.vs.drop (i+1)}:=by
    unfold Ay;rw[hi];dsimp only;rw[hv];dsimp only;rw[if_neg hc,if_neg hh,if_pos hk]
   rw[e3] at hb ⊢
   generalize hn:A6 p {p with vs:=p.vs.take i++p.vs.drop (i+1)}=n at *
   have n1:n.vs=p.vs.take i++p.vs.drop (i+1):=by rw[<-hn];rfl
   have n2:n.ex=p.ex:=by rw[<-hn];rfl
   have n3:n.size=p.size:=by rw[<-hn];rfl
   clear hn e3 hf
   have hr:=Ev hi hv
   refine ⟨ho,hb,?_,?_⟩
   ·have:volI n.vs o.vol=none:=by
     unfold volI
     apply YL.2
     intro x hx
     rw[n1] at hx
     obtain⟨j,hj,hg⟩:=(mem_drop_one hv).1 hx
     apply ZV.2
     intro he
     have h1:=pH_ (bL_ hp).2.2.2.2 hg
     have h2:=pH_ (bL_ hp).2.2.2.2 hv
     have h3:volI p.vs x.nm=volI p.vs v.nm:=by unfold volI;rw[he,hr]
     rw[h1,h2] at h3;exact hj (Zi h3)
    unfold CV Ci
    rw[if_pos hb,this];rfl
   ·have hq:=bL_ (le_ hp)
    have hl:=bL_ (le_ hb)
    obtain⟨r1,r2,r3⟩:=room_bd hq.2.2.2.1
    obtain⟨s1,s2,s3⟩:=room_bd hl.2.2.2.1
    have hm:(onlyO p o.vol).1=onlyS v.id (AA p.vs) p.ex:=by
     unfold onlyO;rw[if_pos hp,hi];dsimp only[Option.bind];rw[hv]
    have ha:=sum_mine (W:=AA p.vs) (V:=AA n.vs) (id:=v.id) (fun a=>by rw[n1];exact drop_any (vgo_ids (bL_ hp).2.1) hv a) p.ex
    have e1:(flushS p).ex=p.ex.filter (fun e=>(AA p.vs).any (fun c=>c.o.a==e.a)):=by unfold flushS;dsimp only;rw[nS_ hp]
    have e2:(flushS n).ex=p.ex.filter (fun e=>(AA n.vs).any (fun c=>c.o.a==e.a)):=by unfold flushS;dsimp only;rw[nS_ hb,n2]
    rw[<-e1,<-e2] at ha
    have z1:(flushS p).size=p.size:=rfl
    have z2:(flushS n).size=p.size:=n3
    rw[z1] at r1 r2 r3
    rw[z2] at s1 s2 s3
    refine ⟨_,_,rfl,hm,?_,?_⟩
    ·rw[z1,z2,r1,s1,ha];omega
    ·rw[z1]
     have h9:roomV p.size (flushS n).ex=roomV p.size (flushS p).ex+onlyS v.id (AA p.vs) p.ex:=by rw[r1,s1,ha];omega
     rw[<-h9]
     exact⟨r2,r3,s2,s3⟩
/-- Unlinked: it is not there. -/
theorem unlink_after {p:Po}{o:Opr}(hp:Ai p=true)(hk:o.k=4)(h0:(opS p o).1=0):opB o=true∧(Dx (opS p o).2 o.vol o.file).2=false:=by
 obtain⟨ho,hf,hb,e2⟩:=vol_after (by omega) (by omega) h0
 refine ⟨ho,?_⟩
 rw[e2] at hb ⊢
 clear e2 h0
 have hg:¬ o.k=1:=by omega
 have hr:¬ o.k=6:=by omega
 have hs:¬ o.k=7:=by omega
 have ht:¬ o.k=8:=by omega
 cases hi:volI p.vs o.vol with
 |none=>unfold Ay at hf;rw[hi] at hf;dsimp only at hf;rw[if_neg hg] at hf;simp at hf
 |some i=>
  cases hv:p.vs[i]? with
  |none=>unfold Ay at hf;rw[hi] at hf;dsimp only at hf;rw[hv] at hf;simp at hf
  |some v=>
   have e3:Ay p o=(if v.fx=true then ((6:Int),p) else match itI v.its o.file with | none=>((3:Int),p) | some k=>((0:Int),{p with vs:=p.vs.set i {v with its:=v.its.take k++v.its.drop (k+1)}})):=by
    unfold Ay;rw[hi];dsimp only;rw[hv];dsimp only;rw[if_neg hg,if_neg hr,if_neg hs,if_neg ht,if_pos hk]
    split
    ·rfl
    ·cases itI v.its o.file<;>rfl
   by_cases hfx:v.fx=true
   ·rw[e3,if_pos hfx] at hf;simp at hf
   rw[if_neg hfx] at e3
   cases hj:itI v.its o.file with
   |none=>rw[e3,hj] at hf;simp at hf
   |some k=>
    rw[hj] at e3;dsimp only at e3
    rw[e3] at hb ⊢
    dsimp only at hb ⊢
    generalize hn:A6 p {p with vs:=p.vs.set i {v with its:=v.its.take k++v.its.drop (k+1)}}=n at *
    have n1:n.vs=p.vs.set i {v with its:=v.its.take k++v.its.drop (k+1)}:=by rw[<-hn];rfl
    clear hn e3 hf
    have hw:=(Zb.1 hv).1
    have hl:n.vs[i]?=some {v with its:=v.its.take k++v.its.drop (k+1)}:=by rw[n1];exact Zx hw
    have hB:=Ev hi hv
    have hA:=pH_ (bL_ hb).2.2.2.2 hl
    have hc:volI n.vs o.vol=some i:=by
     rw[<-hA];unfold volI;simp only[hB]
    obtain⟨k1,k2,_⟩:=ZA.1 hj
    have hu:v.its[k]?=some v.its[k]:=ZI k1
    have hh:v.its[k].nm.toList=o.file.toList:=beq_iff_eq.1 k2
    have h1:=(b0_ (bL_ hp).2.1 v (Zc hv)).1
    simp only[itemsB,Zf] at h1
    have ha:=(mS_ h1.2).2
    have hy:itI (v.its.take k++v.its.drop (k+1)) o.file=none:=by
     apply YL.2
     intro x hx
     obtain⟨j,hm,hq⟩:=(mem_drop_one hu).1 hx
     obtain⟨j1,rfl⟩:=Zb.1 hq
     apply ZV.2
     intro he
     rcases Nat.lt_or_gt_of_ne hm with h2 | h2
     ·have:=Yb.1 ha j k j1 k1 h2
      rw[he,hh,cn_] at this;cases this
     ·have:=Yb.1 ha k j k1 j1 h2
      rw[he,hh,cn_] at this;cases this
    have hz:Ar n.vs o.vol o.file=none:=by
     unfold Ar;rw[hc];dsimp only[Option.bind];rw[hl];dsimp only;rw[hy]
    unfold Dx
    rw[if_pos hb,hz]
end Go.Proofs.YtdmeabghpchckaaGreatDoor
