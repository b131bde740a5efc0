/- What a file has behind a write, and what the other files of its volume have: plain facts. -/
import Derived.Test.YtkodenjhajafpaaGreatDoorU39
import Derived.Test.YtkodenjhajafpaaGreatDoorU48
set_option maxHeartbeats 20000000
set_option maxRecDepth 100000
namespace Go.Proofs.YtkodenjhajafpaaGreatDoor
open Go Go.RowKit Go.BigFrame _root_.Go.Proofs.Tryz
theorem dataAt_all {a:Int}{d:ByteArray}:∀ {L:List Ex},(∀ e∈L,e.a=a->e.d=d)->(∃ e∈L,e.a=a)->AK a L=d
 |[],_,h=>by obtain⟨e,he,_⟩:=h;cases he
 |e::r,h,hx=>by
  unfold AK
  by_cases hea:e.a=a
  ·rw[if_pos (by simpa using hea)];exact h e (by simp) hea
  ·rw[if_neg (by simpa using hea)]
   refine dataAt_all (fun y hy=>h y (ZY _ hy)) ?_
   obtain⟨y,hy,ha⟩:=hx
   rcases Zn.1 hy with rfl | hy
   ·exact absurd ha hea
   ·exact⟨y,hy,ha⟩
theorem xgo_lowW {size:Int}:∀ {l:List Ex} {next:Int},xgo size next l=true->1<=next->∀ e∈l,1<=e.a∧e.a+e.d.size<=size+1
 |[],_,_,_,e,he=>by cases he
 |y::r,next,h,h1,e,he=>by
  simp only[xgo,Zf,ZU] at h
  rcases Zn.1 he with rfl | he
  ·omega
  ·exact xgo_lowW h.2 (by omega) e he
theorem put_content {size a:Int}{l L:List Ex}{d:ByteArray}(h:AV size l d=some (L,a))(h1:1<=d.size)(h2:d.size<=20):Ac [⟨a,0,d.size⟩]=true∧Ai [⟨a,0,d.size⟩] L=some d:=by
 obtain⟨_,_,h3,h4,_,h6,_,h8⟩:=jC_ h
 have hl:l=L.filter (fun e=>!(e.a==a)):=by
  unfold EN at h6
  split at h6
  ·exact (Zi h6).symm
  ·cases h6
 have hg:∃ e∈L,e.a=a:=by
  apply Classical.byContradiction;intro hn
  have h9:L.filter (fun e=>!(e.a==a))=L:=YA.2 (fun e he=>by
   have hf:¬ e.a=a:=fun hc=>hn ⟨e,he,hc⟩
   simpa using hf)
  rw[h9] at hl;rw[hl] at h4;omega
 have hb:∀ e∈L,e.a=a->e.d=d:=by
  intro e he hc
  rcases h8 e he with h9 | h9
  ·rw[hl] at h9
   have:=(YG.1 h9).2
   simp[hc] at this
  ·rw[h9]
 have hd:=dataAt_all hb hg
 have ha:=iI_ h3
 have hk:1<=a∧a<=400:=by
  obtain⟨e,he,hc⟩:=hg
  have h9:=ha
  simp only[Ap,Zf,ZU] at h9
  have hf:=xgo_lowW h9.2 (YB _) e he
  have hj:=hb e he hc
  rw[hj] at hf
  omega
 have hh:Ac [⟨a,0,d.size⟩]=true:=by
  have h5:(a==0)=false:=ZV.2 (by omega)
  simp[Ac,pgo,Ah,h5];omega
 refine ⟨hh,?_⟩
 rw[Bb hh ha,CE]
 have h5:(a==0)=false:=ZV.2 (by omega)
 simp only[pieceO,h5,Zj,if_false,hd]
 rw[if_neg (by omega)]
 have e1:(0:Int).toNat=0:=rfl
 have e2:((0:Int)+(d.size:Int)).toNat=d.size:=by omega
 rw[e1,e2,ByteArray.extract_zero_size]
/-- Written: it stands there, behind zeros where there was nothing. -/
theorem write_after {p:Po}{o:Opr}(hp:Aj p=true)(hk:o.k=2)(h0:(opS p o).1=0):∃ (x z:ByteArray) (t:Bool),x.size<=100∧z.size<=100∧0<=o.at'∧o.at'<=100∧o.data.size<=20∧Cm p o.vol o.file=((x.size:Int),t)∧(t=false->x=⟨#[]⟩)∧(t=true->Cj p o.vol o.file 0 x.size=(x,true))∧Cm (opS p o).2 o.vol o.file=((z.size:Int),true)∧Cj (opS p o).2 o.vol o.file 0 z.size=(z,true)∧z=(x++zs (o.at'.toNat-x.size)).extract 0 o.at'.toNat++o.data++(x++zs (o.at'.toNat-x.size)).extract (min (x++zs (o.at'.toNat-x.size)).size (o.at'.toNat+o.data.size)) (x++zs (o.at'.toNat-x.size)).size:=by
 obtain⟨f1,f2,f3,f4,f5⟩:=Ea hp (by omega) h0
 have he:¬ o.k=5:=by omega
 rw[if_neg he,if_neg he] at f5
 have ha:(0<=o.at'∧o.at'<=100)∧As o.data=true:=by
  unfold opB at f2
  rw[if_neg (by omega),if_pos hk] at f2
  simp only[inB,Zf,ZU] at f2
  exact⟨f2.1.1.2,f2.1.2⟩
 have hc:1<=o.data.size∧o.data.size<=20:=by
  have:=ha.2
  simp only[As,Zf,ZU] at this
  exact this.1
 rw[oV_ hk] at f1 f4 f5
 cases hb:AV p.size p.ex o.data with
 |none=>rw[hb] at f1;simp at f1
 |some La=>
  obtain⟨L,a⟩:=La
  rw[hb] at f1 f4 f5;dsimp only at f1 f4 f5
  obtain⟨z,z1,z2,z3,z4,z5⟩:=Ds f3 f5
  rw[f4] at z1
  obtain⟨hm,hy⟩:=put_content hb hc.1 hc.2
  obtain⟨x,t,x2,x4,x6,x5,x1⟩:∃ (x:ByteArray) (t:Bool),x.size<=100∧Cm p o.vol o.file=((x.size:Int),t)∧(t=false->x=⟨#[]⟩)∧(t=true->Cj p o.vol o.file 0 x.size=(x,true))∧Ai ((Aq p.vs o.vol o.file).getD []) L=some x:=by
   cases hq:Aq p.vs o.vol o.file with
   |none=>
    refine ⟨⟨#[]⟩,false,Zg _,?_,fun _=>rfl,fun h=>(by cases h),?_⟩
    ·unfold Cm;rw[if_pos hp,hq];rfl
    ·dsimp only[Option.getD]
     rw[Bb rfl (iI_ (jC_ hb).2.2.1)];rfl
   |some q=>
    obtain⟨x,x1,x2,x3,x4,x5⟩:=Ds hp hq
    refine ⟨x,true,x2,x4,fun h=>(by cases h),fun _=>x5,?_⟩
    dsimp only[Option.getD]
    rw[Er hb (by rw[x1];rfl)];exact x1
  refine ⟨x,z,t,x2,z2,ha.1.1,ha.1.2,hc.2,x4,x6,x5,z4,z5,?_⟩
  have hl:BJ ((Aq p.vs o.vol o.file).getD []) o.at' [⟨a,0,o.data.size⟩]=some (AH ((Aq p.vs o.vol o.file).getD []) o.at' [⟨a,0,o.data.size⟩]):=by
   rw[mj_ (fl_ x1).1 hm ha.1.1 ha.1.2,if_pos (fl_ z1).1]
  exact EI hl x1 hy z1
theorem setF_keep (x:It){y:It}(hy:y.nm.toList≠x.nm.toList):∀ (l:List It) (st:List It×Bool),(y∈st.1∨y∈l)->y∈(l.foldl (Bj x) st).1
 |[],st,h=>by
  rcases h with h | h
  ·exact h
  ·cases h
 |z::r,st,h=>by
  rw[YE]
  refine setF_keep x hy r _ ?_
  rcases h with h | h
  ·left;unfold Bj;dsimp only
   refine Yu _ ?_
   split
   ·exact Yu _ h
   ·exact h
  ·rcases Zn.1 h with rfl | h
   ·left;unfold Bj;dsimp only
    refine Ym _ ?_
    rw[if_neg (by simpa using hy)];simp
   ·exact .inr h
theorem setI_keep {x y:It}{l:List It}(hy:y.nm.toList≠x.nm.toList)(h:y∈l):y∈A7 x l:=by
 have h1:=setF_keep x hy l ([],false) (.inr h)
 unfold A7 DN
 split
 ·exact h1
 ·exact Yu _ h1
theorem vs_after {p:Po}{o:Opr}(hk:o.k=2∨o.k=3∨o.k=5∨o.k=10)(h0:(opS p o).1=0){i:Nat}{v:Vo}(hi:volI p.vs (if o.k=5 then o.to else o.vol)=some i)(hv:p.vs[i]?=some v):(opS p o).2.vs=p.vs.set i {v with its:=A7 ⟨(if o.k=5 then o.into else o.file),(Ag p o).2.2⟩ v.its}:=by
 have ha:¬ o.k=9:=by omega
 have ht:BI p o=Ao p o:=by unfold BI;rw[if_pos hk]
 have ho:opB o=true:=by
  cases h:opB o with
  |true=>rfl
  |false=>unfold opS at h0;rw[h] at h0;simp at h0
 have e1:opS p o=if (Ao p o).1=0 then (if Aj (AX p (Ao p o).2)=true then (0,AX p (Ao p o).2) else (5,p)) else ((Ao p o).1,p):=by
  unfold opS;rw[if_pos ho,if_neg ha,ht]
 have hf:(Ao p o).1=0:=by
  apply Classical.byContradiction;intro h
  rw[e1,if_neg h] at h0;exact h h0
 have hb:Aj (AX p (Ao p o).2)=true:=by
  apply Classical.byContradiction;intro h
  rw[e1,if_pos hf,if_neg h] at h0;simp at h0
 have e2:(opS p o).2=AX p (Ao p o).2:=by rw[e1,if_pos hf,if_pos hb]
 rw[e2]
 have e3:Ao p o=match volI p.vs (if o.k=5 then o.to else o.vol) with
   |none=>(3,p)
   |some i=>match p.vs[i]? with
    |none=>(3,p)
    |some v=>if v.fx=true then (6,p) else if (Ag p o).1=0 then (0,{p with ex:=(Ag p o).2.1,vs:=p.vs.set i {v with its:=A7 ⟨(if o.k=5 then o.into else o.file),(Ag p o).2.2⟩ v.its}}) else ((Ag p o).1,p):=rfl
 rw[hi] at e3;dsimp only at e3;rw[hv] at e3;dsimp only at e3
 by_cases hfx:v.fx=true
 ·rw[e3,if_pos hfx] at hf;simp at hf
 rw[if_neg hfx] at e3
 by_cases hr:(Ag p o).1=0
 ·rw[if_pos hr] at e3
  rw[e3];rfl
 ·rw[e3,if_neg hr] at hf;exact absurd hf hr
theorem write_other {p:Po}{o:Opr}(hp:Aj p=true)(hk:o.k=2)(h0:(opS p o).1=0){l:List ByteArray}(hl:Cp p o.vol=some l){f:ByteArray}(hf:f∈l)(hne:f.toList≠o.file.toList):∃ y:ByteArray,y.size<=100∧Cm p o.vol f=((y.size:Int),true)∧Cj p o.vol f 0 y.size=(y,true)∧Cj (opS p o).2 o.vol f 0 y.size=(y,true):=by
 obtain⟨f1,f2,f3,f4,f5⟩:=Ea hp (by omega) h0
 have hh:¬ o.k=5:=by omega
 unfold Cp at hl
 rw[if_pos hp] at hl
 cases hi:volI p.vs o.vol with
 |none=>rw[hi] at hl;cases hl
 |some i=>
  rw[hi] at hl;dsimp only[Option.bind] at hl
  cases hv:p.vs[i]? with
  |none=>rw[hv] at hl;cases hl
  |some v=>
   rw[hv] at hl
   have hm:v.its.map (·.nm)=l:=Zi hl
   rw[<-hm] at hf
   obtain⟨x,hx,rfl⟩:=ZT.1 hf
   have h1:=(b0_ (bL_ hp).2.1 v (Zc hv)).1
   simp only[itemsB,Zf] at h1
   obtain⟨m,ho,hq⟩:=Hj (mS_ h1.2).2 hx
   have hr:Aq p.vs o.vol x.nm=some x.ps:=by
    unfold Aq;rw[hi];dsimp only[Option.bind];rw[hv];dsimp only;rw[ho];dsimp only[Option.bind];rw[hq];rfl
   obtain⟨y,y1,y2,y3,y4,y5⟩:=Ds hp hr
   have hj:=vs_after (by omega) h0 (i:=i) (v:=v) (by rw[if_neg hh];exact hi) hv
   rw[if_neg hh] at hj
   have hn:=(Zb.1 hv).1
   have hc:(opS p o).2.vs[i]?=some {v with its:=A7 ⟨o.file,(Ag p o).2.2⟩ v.its}:=by rw[hj];exact Zx hn
   have hu:=DC hi hv
   have ht:=pH_ (bL_ f3).2.2.2.2 hc
   have hg:volI (opS p o).2.vs o.vol=some i:=by
    rw[<-ht]
    unfold volI
    simp only[hu]
   have h2:=(b0_ (bL_ f3).2.1 _ (Zc hc)).1
   simp only[itemsB,Zf] at h2
   obtain⟨m',ha,hb⟩:=Hj (mS_ h2.2).2 (setI_keep (x:=⟨o.file,(Ag p o).2.2⟩) hne hx)
   have hs:Aq (opS p o).2.vs o.vol x.nm=some x.ps:=by
    unfold Aq;rw[hg];dsimp only[Option.bind];rw[hc];dsimp only;rw[ha];dsimp only[Option.bind];rw[hb];rfl
   obtain⟨y',z1,z2,z3,z4,z5⟩:=Ds f3 hs
   have he:Ai x.ps (opS p o).2.ex=Ai x.ps p.ex:=by
    rw[f4];exact GZ f1 (by rw[y1];rfl)
   rw[he,y1] at z1
   obtain rfl:y=y':=Zi z1
   exact⟨y,y2,y4,y5,z5⟩
end Go.Proofs.YtkodenjhajafpaaGreatDoor
