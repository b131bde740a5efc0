/- weighing. -/
import Derived.Test.YtbbhcnjhohidnaaGreatDoorV34
set_option maxHeartbeats 20000000
set_option maxRecDepth 100000
namespace Go.Proofs.YtbbhcnjhohidnaaGreatDoor
section
open Go Go.RowKit Go.BigFrame _root_.Go.Proofs.Tryz
variable{α β:Type}{ad:Addr}{irs:List IQ}{its:List It}{L:List Nat}{vr:List VQ}{vs:List Vo}{B B' b c cap cap' i k0 n n' sz sz':Nat}{a a':Option Addr}{t t':TypeId}{x:VQ}{v:Value}{w w':World}{l:List α}{l' m:List β}{cs:α->List Value}{cs':β->List Value}
theorem id_ (B:Nat)(a:Option Addr)(n cap k0:Nat)(irs:List IQ)(its:List It)(w:World)(RI:ResAt IQ.cs 2 tI w B a n cap irs)(IL:Al2 (ItR w B) irs its)(hN:(ibl irs).Nodup)(hn:n<=4194304)(hpn:∀ x∈irs,x.n<=4194304)(hk1:1<=k0)(hk2:kIt k0 irs<=40000000):
  Calls prog 89 #[.slice a n cap,.int .i64 ((k0:Nat):Int)] w fun e w'=>e=.returned (.int .i64 ((kIt k0 irs:Nat):Int))∧MkI w' a irs k0∧Chg ((blkO a).toList++ibl irs) w w':=by
 have he:=RI.sl.len;rcases RI.own with⟨rfl,rfl,rfl⟩ | ⟨ib,rfl,hB,hQ,hY,c,hc,hs,_⟩
 ·obtain rfl:=Zt he;go_enter func89,ntmps89
  go_wp2_with fail
  go_rounds 1
  go_returns;exact⟨rfl,fun j x hx=>(by simp at hx),Chg.refl _ _⟩
 ·have hM:Hid (∀ j x,irs[j]?=some x->c[j*2+1]?=some (.slice x.a x.n x.c)):=fun j x hx=>by
   obtain⟨b,o,e,hq⟩:=RI.sl.cell j x hx
   cases e
   have:=hq 1 _ rfl
   rw[hc.cell] at this;simpa using this
  have hP:Hid (∀ x∈irs,∃ ps,ResAt Pt.cs 3 tP w B x.a x.n x.c ps):=fun x hx=>by
   obtain⟨y,hy⟩:=bE_ IL hx;exact⟨_,hy.ps⟩
  have hJ:Hid (∀ x∈irs,∀ ad,x.a=some ad->ad.block≠ib):=fun x hx ad e=>by
   obtain⟨ps,hp⟩:=hP.out x hx;exact eK_ hp RI (by decide) e rfl
  have hE:Hid (∀ i,kIt k0 (irs.take i)<=40000000):=fun i=>Zl (o9_ i) hk2;have hO:Hid (∀ i,1<=kIt k0 (irs.take i)):=fun i=>Zl hk1 (jI_ _ _);obtain⟨kE,hD⟩:∃ kE,Hid (kIt k0 irs=kE):=⟨_,rfl⟩;rw[hD.out];go_enter func89,ntmps89
  go_wp2_with fail
  go_loopw [1,5] (fun kk ix wr=>∃ (i:Nat) (c':Array Value),i<=n∧ix=.int .i64 i∧kk=.int .i64 ((kIt k0 (irs.take i):Nat):Int)∧Blk wr ib c' tI∧Hid (c'.size=c.size)∧Hid (∀ j x,irs[j]?=some x->c'[j*2+1]?=some (.slice x.a x.n x.c))∧Hid (∀ j,j<i->c'[j*2]?=some (.string (markT (kIt k0 (irs.take j)))))∧Hid (∀ j x,j<i->irs[j]?=some x->MkP wr x.a x.n (kIt k0 (irs.take j)+1))∧Chg (ib::ibl (irs.take i)) w wr) (fun _ ix _=>n-(intOf ix).toNat)
  case atStart=>exact⟨0,c,Zg _,rfl,rfl,hc,rfl,hM.out,fun j hj=>(by omega),fun j x hj=>(by omega),Chg.refl _ _⟩
  case round=>
   obtain⟨i,c',hi,rfl,rfl,ha,hH,hg,hf,hG,hC⟩:=hrel;by_cases hlt:i<n
   ·obtain⟨x,hx⟩:∃ x,irs[i]?=some x:=⟨irs[i]'(by omega),by simp⟩;have hw:=Zc hx;obtain⟨ps,hI⟩:=hP.out x hw;have hW:i*2+1<c'.size:=by rw[hH.out,hs];have:=ZS 2 hQ;omega
    have hZ:(i:Int)<n:=by omega
    have hU:(0:Int)<=i:=by omega
    obtain⟨q,hq⟩:∃ q,Hid (kIt k0 (irs.take i)=q):=⟨_,rfl⟩;have hT:1<=q:=by rw[<-hq.out];exact hO.out i
    have hV:q<=40000000:=by rw[<-hq.out];exact hE.out i
    have hK:Hid (kIt k0 (irs.take (i+1))=q+1+3*x.n):=by show _=_;rw[lo_ hx,hq.out]
    have hX:q+1+3*x.n<=40000000:=by rw[<-hK.out];exact hE.out (i+1)
    have hL:=hpn x hw;rw[hq.out]
    go_wp2_with fail
    refine (aR_ q _ rfl _ (by omega) (by omega)).mono ?_;rintro e w1 ⟨rfl,hl⟩;have b1:=ha.below hl;obtain⟨v0,y0⟩:=b1.has (i:=i*2) (by omega);have f0:=b1.frozen (i*2);have y1:w1.cell? ⟨ib,i*2+1,none⟩=some (.slice x.a x.n x.c):=by rw[b1.cell];exact hg.out i x hx
    go_wp2_with fail
    rw[show ((q:Nat):Int)+1=((q+1:Nat):Int) by omega];have b2:=b1.set (i*2) (.string (markT q));have hr:Chg [ib] wr (w1.setCell ⟨ib,i*2,none⟩ (.string (markT q))):=(Chg.ofB hl).trans (Chg.ofG (af_ (World.grownBy.refl _ _) _ _) (fun b e=>by cases e;simp));generalize w1.setCell ⟨ib,i*2,none⟩ (.string (markT q))=W2 at *;clear y0 y1 f0 b1;have hA:Chg (ib::ibl (irs.take i)) w W2:=hC.trans (hr.mono (by simp))
    have hb:=hI.chg hA (fun ad e=>by
     simp only[Zn,not_or];exact⟨hJ.out x hw ad e,pb_ hN hx e⟩)
    refine (markMkP B x.a x.n x.c (q+1) ps W2 hb hL ⟨by omega,by omega⟩).mono ?_;rintro e w3 ⟨rfl,hF,ho⟩;have b3:=b2.ty ho (hb.rowTy (m:=x.n) (k:=x.c)) (by decide);have hh:=jL_ ho
    have hR:Chg (ib::ibl (irs.take (i+1))) w w3:=(hA.mono (fun k hk=>by
     rw[ic_ hx];rcases Zn.1 hk with rfl | hk
     ·simp
     ·exact ZY _ (List.mem_append_left _ hk))).trans (hh.mono (fun k hk=>by rw[ic_ hx];exact ZY _ (List.mem_append_right _ hk)))
    have hu:Hid (∀ j z,j<i+1->irs[j]?=some z->MkP w3 z.a z.n (kIt k0 (irs.take j)+1)):=fun j z hj hz=>by
     by_cases hji:j=i
     ·subst hji;obtain rfl:x=z:=Zi (hx.symm.trans hz);rw[hq.out];exact hF
     ·have hS:=Zc hz;have h1:=hG.out j z (by omega) hz;refine (h1.chg hr (fun _ ad e=>by simpa using hJ.out z hS ad e)).chg hh (fun _ ad e=>?_);intro hm
      cases hv:x.a with
      |none=>rw[hv] at hm;simp[blkO] at hm
      |some ax=>
       rw[hv] at hm;simp[blkO] at hm;refine pb_ hN hx hv ?_;rw[<-hm];exact jK_ (Zc (i:=j) (by rw[Ya (by omega)];exact hz)) e
    clear hF ho hh hA hb hI hr hl ha b2;go_wp2;go_roundw
    case rel=>
     refine⟨i+1,_,by omega,by go_num,?_,b3,by show _=_;simp[hH.out],?_,?_,hu,hR⟩
     ·rw[hK.out];rfl
     ·intro j z hz;rw[Za (by omega)];exact hg.out j z hz
     ·intro j hj;by_cases hji:j=i
      ·subst hji;rw[Zh (by omega),hq.out]
      ·rw[Za (by omega)];exact hf.out j (by omega)
    case measure=>simp[intOf];omega
   ·obtain rfl:i=n:=by omega
    have ht:irs.take i=irs:=Zk (by omega);rw[ht] at hC ⊢;rw[hD.out];go_wp2;go_returns;refine⟨rfl,fun j x hx=>?_,hC⟩;have hj:j<i:=by rw[<-he];exact (Zb.1 hx).1
    exact⟨ib,rfl,by rw[ha.cell];exact hf.out j hj,by rw[ha.cell];exact hg.out j x hx,hG.out j x hj hx⟩
theorem ie_ (a:Option Addr)(n cap k0:Nat)(irs:List IQ)(w:World)(h:MkI w a irs k0)(hlen:irs.length=n)(hn:n<=4194304)(hpn:∀ x∈irs,x.n<=4194304)(hk1:1<=k0)(hk2:kIt k0 irs<=40000000):
  Calls prog 90 #[.slice a n cap,.int .i64 ((k0:Nat):Int)] w fun e w'=>e=.returned (.int .i64 ((kIt k0 irs:Nat):Int))∧Below w.heap.size w w':=by
 have hs:Hid (∀ i,kIt k0 (irs.take i)<=40000000):=fun i=>Zl (o9_ i) hk2;have hl:Hid (∀ i,1<=kIt k0 (irs.take i)):=fun i=>Zl hk1 (jI_ _ _);obtain⟨kE,hf⟩:∃ kE,Hid (kIt k0 irs=kE):=⟨_,rfl⟩;rw[hf.out];go_enter func90,ntmps90
 go_wp2_with fail
 go_loopw [1,5] (fun kk ix wr=>∃ (i:Nat),i<=n∧ix=.int .i64 i∧kk=.int .i64 ((kIt k0 (irs.take i):Nat):Int)∧Below w.heap.size w wr) (fun _ ix _=>n-(intOf ix).toNat)
 case atStart=>exact⟨0,Zg _,rfl,rfl,Below.refl _ _⟩
 case round=>
  obtain⟨i,hi,rfl,rfl,hB⟩:=hrel;by_cases hlt:i<n
  ·obtain⟨x,hx⟩:∃ x,irs[i]?=some x:=⟨irs[i]'(by omega),by simp⟩;have hk:=Zc hx;obtain⟨b,rfl,c0,c1,hm⟩:=h i x hx;have hw:(i:Int)<n:=by omega
   have hy:(0:Int)<=i:=by omega
   obtain⟨q,hq⟩:∃ q,Hid (kIt k0 (irs.take i)=q):=⟨_,rfl⟩;have hv:1<=q:=by rw[<-hq.out];exact hl.out i
   have he:Hid (kIt k0 (irs.take (i+1))=q+1+3*x.n):=by show _=_;rw[lo_ hx,hq.out]
   have hu:q+1+3*x.n<=40000000:=by rw[<-he.out];exact hs.out (i+1)
   have hg:=hpn x hk;rw[hq.out] at c0 hm ⊢;replace c0:=bcell hB c0;replace c1:=bcell hB c1;replace hm:=hm.below hB;have e0:(!((markT q).toList==(markT q).toList))=false:=by simp
   go_wp2_with fail
   have g0:=gcell c0;have hh:=aA_ wr;refine ab_ (by kernel_rfl) (by kernel_rfl) ?_
   repeat (go_big_quiet_step (first | (go_at_call 47;exact an_ (aR_ q ((q:Nat):Int) rfl _ (by omega) (by omega)))))
   refine wpQuiet_nil ?_;intro w2 hc;have hb:=ah_ hc;clear hc g0 hh e0;replace c1:=bcell hb c1;replace hm:=hm.below hb;have hp:=chain hB hb
   go_wp2_with fail
   rw[show ((q:Nat):Int)+1=((q+1:Nat):Int) by omega];refine (heldMkP x.a x.n x.c (q+1) w2 hm hg ⟨by omega,by omega⟩).mono ?_;rintro e w3 ⟨rfl,hj⟩;have ho:=chain hp hj;obtain⟨qq,ha⟩:∃ qq:Int,((q+1+3*x.n:Nat):Int)=qq:=⟨_,rfl⟩;have hr:Hid (((q+1+3*x.n:Nat):Int)=qq):=ha;have hA:0<=qq:=by omega
   have hz:¬ qq<0:=by omega
   have hC:qq<=40000000:=by omega
   rw[ha];clear ha;go_wp2;go_roundw
   case rel=>exact⟨i+1,by omega,by go_num,by rw[<-hr.out,he.out],ho⟩
   case measure=>simp[intOf];omega
  ·obtain rfl:i=n:=by omega
   have ht:irs.take i=irs:=Zk (by omega);rw[ht,hf.out];go_wp2;go_returns;exact⟨rfl,hB⟩
def vbl (vr:List VQ):List Nat:=vr.flatMap fun r=>(blkO r.a).toList++ibl r.irs
theorem lq_ (h:vr[i]?=some x):vbl (vr.take (i+1))=vbl (vr.take i)++((blkO x.a).toList++ibl x.irs):=by
 unfold vbl;rw[ZK,h];simp
theorem m3_ (h:x∈vr)(ha:x.a=some ad):ad.block∈vbl vr:=ZL.2 ⟨x,h,List.mem_append_left _ (by simp[blkO,ha])⟩
theorem m4_ {y:IQ}(h:x∈vr)(hy:y∈x.irs)(ha:y.a=some ad):ad.block∈vbl vr:=ZL.2 ⟨x,h,List.mem_append_right _ (jK_ hy ha)⟩
theorem dx_ (h:b∈vbl vr):(∃ x∈vr,∃ ad,x.a=some ad∧ad.block=b)∨∃ x∈vr,∃ y∈x.irs,∃ ad,y.a=some ad∧ad.block=b:=by
 obtain⟨x,hx,hb⟩:=ZL.1 h;rcases Zs.1 hb with hb | hb
 ·left
  cases ha:x.a with
  |none=>rw[ha] at hb;simp[blkO] at hb
  |some ad=>rw[ha] at hb;simp[blkO] at hb;exact⟨x,hx,ad,ha,hb.symm⟩
 ·right;obtain⟨y,hy,e⟩:=List.mem_filterMap.1 hb
  cases ha:y.a with
  |none=>rw[ha] at e;cases e
  |some ad=>rw[ha] at e;exact⟨x,hx,y,hy,ad,ha,Zi e⟩
theorem qj_ (AL:Al2 (VoR w B) vr vs)(N1:(vblk vr).Nodup)(N2:(pblk vr).Nodup)(h:vr[i]?=some x):(∀ ad,x.a=some ad->ad.block∉vbl (vr.take i))∧∀ y∈x.irs,∀ ad,y.a=some ad->ad.block∉vbl (vr.take i):=by
 have he:vr.take (i+1)=vr.take i++[x]:=by rw[ZK,h];rfl
 have h1:(vblk (vr.take i++[x])).Nodup:=by rw[<-he];exact List.Nodup.sublist ((List.take_sublist _ _).filterMap _) N1
 have h2:(pblk (vr.take i++[x])).Nodup:=by
  rw[<-he];unfold pblk at N2 ⊢;have e:=congrArg (fun l:List VQ=>l.flatMap fun r=>r.irs.filterMap fun x=>blkO x.a) (List.take_append_drop (i+1) vr);simp only[ZQ] at e;rw[<-e] at N2;exact (Yf.1 N2).1
 rw[o4_] at h1;rw[o5_] at h2;have ha:=Zc h;obtain⟨v,hv⟩:=bE_ AL ha;have hm:∀ z∈vr.take i,z∈vr:=fun z hz=>ZX hz
 have hc:∀ z∈vr,∀ y∈z.irs,∃ ps,ResAt Pt.cs 3 tP w B y.a y.n y.c ps:=fun z hz y hy=>by
  obtain⟨u,hu⟩:=bE_ AL hz;obtain⟨t,ht⟩:=bE_ hu.its hy;exact⟨_,ht.ps⟩
 constructor
 ·intro ad e hb;rcases dx_ hb with⟨z,hz,az,ez,eb⟩ | ⟨z,hz,y,hy,ay,ey,eb⟩
  ·exact (Yf.1 h1).2.2 _ (o7_ hz ez) ad.block (by simp[blkO,e]) eb
  ·obtain⟨ps,hp⟩:=hc z (hm z hz) y hy;exact eK_ hp hv.rows (by decide) ey e eb
 ·intro y hy ad e hb;rcases dx_ hb with⟨z,hz,az,ez,eb⟩ | ⟨z,hz,y',hf,ay,ey,eb⟩
  ·obtain⟨ps,hp⟩:=hc x ha y hy;obtain⟨u,hu⟩:=bE_ AL (hm z hz);exact eK_ hp hu.rows (by decide) e ez eb.symm
  ·exact (Yf.1 h2).2.2 _ (o8_ hz hf ey) ad.block (jK_ hy e) eb
theorem ResAt.chgA (h:Al2 (ItR w B) irs its)(hc:Chg L w w')(hn:∀ x∈irs,∀ ad,x.a=some ad->ad.block∉L):Al2 (ItR w' B) irs its:=h.imp fun x hx _ hr=>⟨hr.nm,hr.ps.chg hc (hn x hx)⟩
theorem iz_ (B:Nat)(a:Option Addr)(n cap k0:Nat)(vr:List VQ)(vs:List Vo)(w:World)(RV:ResAt VQ.cs 4 tV w B a n cap vr)(AL:Al2 (VoR w B) vr vs)(N1:(vblk vr).Nodup)(N2:(pblk vr).Nodup)(hn:n<=4194304)(hpn:∀ x∈vr,x.n<=4194304∧∀ y∈x.irs,y.n<=4194304)(hk1:1<=k0)(hk2:kVo k0 vr<=40000000):
  Calls prog 39 #[.slice a n cap,.int .i64 ((k0:Nat):Int)] w fun e w'=>e=.returned (.int .i64 ((kVo k0 vr:Nat):Int))∧MkV w' a vr k0∧Chg ((blkO a).toList++vbl vr) w w':=by
 have hl:=RV.sl.len;rcases RV.own with⟨rfl,rfl,rfl⟩ | ⟨vb,rfl,hB,h4,qb,c,hc,hs,_⟩
 ·obtain rfl:=Zt hl;go_enter func39,ntmps39
  go_wp2_with fail
  go_rounds 1
  go_returns;exact⟨rfl,fun j x hx=>(by simp at hx),Chg.refl _ _⟩
 ·have hX:Hid (∀ j x,vr[j]?=some x->c[j*4+3]?=some (.slice x.a x.n x.c)):=fun j x hx=>by
   obtain⟨b,o,e,hq⟩:=RV.sl.cell j x hx
   cases e
   have:=hq 3 _ rfl
   rw[hc.cell] at this;simpa using this
  have hV:Hid (∀ x∈vr,∃ v,VoR w B x v):=fun x hx=>bE_ AL hx
  have hS:Hid (∀ x∈vr,(∀ ad,x.a=some ad->ad.block≠vb)∧∀ y∈x.irs,∀ ad,y.a=some ad->ad.block≠vb):=fun x hx=>by
   obtain⟨v,hv⟩:=hV.out x hx;refine⟨fun ad e=>eK_ hv.rows RV (by decide) e rfl,fun y hy ad e=>?_⟩;obtain⟨t,ht⟩:=bE_ hv.its hy;exact eK_ ht.ps RV (by decide) e rfl
  have hW:Hid (∀ x∈vr,(ibl x.irs).Nodup):=fun x hx=>by
   obtain⟨l1,l2,e⟩:=List.append_of_mem hx;have h3:=N2;rw[e] at h3;unfold pblk at h3;rw[ZQ,ZF] at h3;exact (Yf.1 (Yf.1 h3).2.1).1
  have h0:Hid (∀ i,kVo k0 (vr.take i)<=40000000):=fun i=>Zl (pa_ i) hk2;have hY:Hid (∀ i,1<=kVo k0 (vr.take i)):=fun i=>Zl hk1 (jJ_ _ _);obtain⟨kE,hI⟩:∃ kE,Hid (kVo k0 vr=kE):=⟨_,rfl⟩;rw[hI.out];go_enter func39,ntmps39
  go_wp2_with fail
  go_loopw [1,5] (fun kk ix wr=>∃ (i:Nat) (c':Array Value),i<=n∧ix=.int .i64 i∧kk=.int .i64 ((kVo k0 (vr.take i):Nat):Int)∧Blk wr vb c' tV∧Hid (c'.size=c.size)∧Hid (∀ j x,vr[j]?=some x->c'[j*4+3]?=some (.slice x.a x.n x.c))∧Hid (∀ j,j<i->c'[j*4]?=some (.int .i64 ((kVo k0 (vr.take j):Nat):Int))∧c'[j*4+1]?=some (.string (markT (kVo k0 (vr.take j)+1)))∧c'[j*4+2]?=some (.bool ((((kVo k0 (vr.take j):Nat):Int)+1+1) % 3==0)))∧Hid (∀ j x,j<i->vr[j]?=some x->MkI wr x.a x.irs (kVo k0 (vr.take j)+3))∧Chg (vb::vbl (vr.take i)) w wr) (fun _ ix _=>n-(intOf ix).toNat)
  case atStart=>exact⟨0,c,Zg _,rfl,rfl,hc,rfl,hX.out,fun j hj=>(by omega),fun j x hj=>(by omega),Chg.refl _ _⟩
  case round=>
   obtain⟨i,c',hi,rfl,rfl,ha,hR,hA,ho,hP,hC⟩:=hrel;by_cases hlt:i<n
   ·obtain⟨x,hx⟩:∃ x,vr[i]?=some x:=⟨vr[i]'(by omega),by simp⟩;have hr:=Zc hx;obtain⟨v,hv⟩:=hV.out x hr;have qa:i*4+3<c'.size:=by rw[hR.out,hs];have:=ZS 4 h4;omega
    have qc:(i:Int)<n:=by omega
    have h8:(0:Int)<=i:=by omega
    obtain⟨q,hq⟩:∃ q,Hid (kVo k0 (vr.take i)=q):=⟨_,rfl⟩;have h7:1<=q:=by rw[<-hq.out];exact hY.out i
    have hT:Hid (kVo k0 (vr.take (i+1))=kIt (q+3) x.irs):=by show _=_;rw[lp_ hx,hq.out]
    have hN:kIt (q+3) x.irs<=40000000:=by rw[<-hT.out];exact h0.out (i+1)
    have h9:q+3<=40000000:=Zl (jI_ _ _) hN;have hJ:=hpn x hr;rw[hq.out];obtain⟨v0,y0⟩:=ha.has (i:=i*4) (by omega);have f0:=ha.frozen (i*4)
    go_wp2_with fail
    refine (aR_ (q+1) _ (by omega) _ (by omega) (by omega)).mono ?_;rintro e w1 ⟨rfl,hD⟩;have b0:=ha.set (i*4) (.int .i64 ((q:Nat):Int));have hU:Chg [vb] wr w1:=(Chg.ofG (af_ (World.grownBy.refl _ _) _ _) (fun b e=>by cases e;simp)).trans (Chg.ofB hD);have b1:=b0.below hD;clear y0 f0 b0 hD;obtain⟨v1,y1⟩:=b1.has (i:=i*4+1) (by simp;omega);have f1:=b1.frozen (i*4+1);obtain⟨v2,y2⟩:=b1.has (i:=i*4+2) (by simp;omega);have f2:=b1.frozen (i*4+2);have y3:w1.cell? ⟨vb,i*4+3,none⟩=some (.slice x.a x.n x.c):=by rw[b1.cell,Za (by omega)];exact hA.out i x hx
    go_wp2_with fail
    rw[show ((q:Nat):Int)+1+1+1=((q+3:Nat):Int) by omega];have b2:=(b1.set (i*4+1) (.string (markT (q+1)))).set (i*4+2) (.bool ((((q:Nat):Int)+1+1) % 3==0));have hE:Chg [vb] wr ((w1.setCell ⟨vb,i*4+1,none⟩ (.string (markT (q+1)))).setCell ⟨vb,i*4+2,none⟩ (.bool ((((q:Nat):Int)+1+1) % 3==0))):=hU.trans (Chg.ofG (af_ (af_ (World.grownBy.refl _ _) _ _) _ _) (fun b e=>by cases e;simp));generalize (w1.setCell ⟨vb,i*4+1,none⟩ (.string (markT (q+1)))).setCell ⟨vb,i*4+2,none⟩ (.bool ((((q:Nat):Int)+1+1) % 3==0))=W2 at *;clear y1 y2 y3 f1 f2 b1 hU;have hu:Chg (vb::vbl (vr.take i)) w W2:=hC.trans (hE.mono (by simp));obtain⟨hh,hf⟩:=qj_ AL N1 N2 hx;obtain⟨hw,hH⟩:=hS.out x hr
    have hQ:=hv.rows.chg hu (fun ad e=>by
     simp only[Zn,not_or];exact⟨hw ad e,hh ad e⟩)
    have IL2:=ResAt.chgA hv.its hu (fun y hy ad e=>by
     simp only[Zn,not_or];exact⟨hH y hy ad e,hf y hy ad e⟩)
    refine (id_ B x.a x.n x.c (q+3) x.irs v.its W2 hQ IL2 (hW.out x hr) hJ.1 hJ.2 (by omega) hN).mono ?_;rintro e w3 ⟨rfl,hO,hp⟩
    have hL:vb∉(blkO x.a).toList++ibl x.irs:=fun hm=>by
     rcases Zs.1 hm with hm | hm
     ·cases hg:x.a with
      |none=>rw[hg] at hm;simp[blkO] at hm
      |some ad=>rw[hg] at hm;simp[blkO] at hm;exact hw ad hg hm.symm
     ·obtain⟨y,hy,e⟩:=List.mem_filterMap.1 hm
      cases he:y.a with
      |none=>rw[he] at e;cases e
      |some ad=>rw[he] at e;exact hH y hy ad he (Zi e)
    have b3:=hp.blk b2 hL
    have h5:Chg (vb::vbl (vr.take (i+1))) w w3:=(hu.mono (fun k hk=>by
     rw[lq_ hx];rcases Zn.1 hk with rfl | hk
     ·simp
     ·exact ZY _ (List.mem_append_left _ hk))).trans (hp.mono (fun k hk=>by rw[lq_ hx];exact ZY _ (List.mem_append_right _ hk)))
    have hG:∀ b,b∈vbl (vr.take i)->b∉(blkO x.a).toList++ibl x.irs:=fun b hb hm=>by
     rcases Zs.1 hm with hm | hm
     ·cases hg:x.a with
      |none=>rw[hg] at hm;simp[blkO] at hm
      |some ad=>rw[hg] at hm;simp[blkO] at hm;exact hh ad hg (hm▸hb)
     ·obtain⟨y,hy,e⟩:=List.mem_filterMap.1 hm
      cases he:y.a with
      |none=>rw[he] at e;cases e
      |some ad=>rw[he] at e;exact hf y hy ad he (by rw[show ad.block=b from Zi e];exact hb)
    have hF:Hid (∀ j z,j<i+1->vr[j]?=some z->MkI w3 z.a z.irs (kVo k0 (vr.take j)+3)):=fun j z hj hz=>by
     by_cases hji:j=i
     ·subst hji;obtain rfl:x=z:=Zi (hx.symm.trans hz);rw[hq.out];exact hO
     ·have h6:=Zc hz;have hM:z∈vr.take i:=Zc (i:=j) (by rw[Ya (by omega)];exact hz);obtain⟨h2,hZ⟩:=hS.out z h6;have h1:=hP.out j z (by omega) hz;exact (h1.chg hE (fun ad e=>by simpa using h2 ad e) (fun y hy ad e=>by simpa using hZ y hy ad e)).chg hp (fun ad e=>hG _ (m3_ hM e)) (fun y hy ad e=>hG _ (m4_ hM hy e))
    clear hO hp hu hE ha b2 hQ IL2 hh hf hw hH hL hG;obtain⟨qe,hK⟩:∃ qe,Hid (kIt (q+3) x.irs=qe):=⟨_,rfl⟩;rw[hK.out];go_wp2;go_roundw
    case rel=>
     refine⟨i+1,_,by omega,by go_num,?_,b3,by show _=_;simp[hR.out],?_,?_,hF,h5⟩
     ·rw[hT.out,hK.out]
     ·intro j z hz;rw[Za (by omega),Za (by omega),Za (by omega)];exact hA.out j z hz
     ·intro j hj;by_cases hji:j=i
      ·subst hji;refine⟨?_,?_,?_⟩
       ·rw[Za (by omega),Za (by omega),Zh (by omega),hq.out]
       ·rw[Za (by omega),Zh (by simp;omega),hq.out]
       ·rw[Zh (by simp;omega),hq.out]
      ·obtain⟨r0,r1,r2⟩:=ho.out j (by omega);refine⟨?_,?_,?_⟩
       all_goals (rw[Za (by omega),Za (by omega),Za (by omega)];assumption)
    case measure=>simp[intOf];omega
   ·obtain rfl:i=n:=by omega
    have ht:vr.take i=vr:=Zk (by omega);rw[ht] at hC ⊢;rw[hI.out];go_wp2;go_returns;refine⟨rfl,fun j x hx=>?_,hC⟩;have hj:j<i:=by rw[<-hl];exact (Zb.1 hx).1
    obtain⟨r0,r1,r2⟩:=ho.out j hj;exact⟨vb,rfl,by rw[ha.cell];exact r0,by rw[ha.cell];exact r1,by rw[ha.cell];exact r2,by rw[ha.cell];exact hA.out j x hx,hP.out j x hj hx⟩
theorem iA_ (a:Option Addr)(n cap k0:Nat)(vr:List VQ)(w:World)(h:MkV w a vr k0)(hlen:vr.length=n)(hil:∀ x∈vr,x.irs.length=x.n)(hn:n<=4194304)(hpn:∀ x∈vr,x.n<=4194304∧∀ y∈x.irs,y.n<=4194304)(hk1:1<=k0)(hk2:kVo k0 vr<=40000000):
  Calls prog 42 #[.slice a n cap,.int .i64 ((k0:Nat):Int)] w fun e w'=>e=.returned (.int .i64 ((kVo k0 vr:Nat):Int))∧Below w.heap.size w w':=by
 have hu:Hid (∀ i,kVo k0 (vr.take i)<=40000000):=fun i=>Zl (pa_ i) hk2;have ho:Hid (∀ i,1<=kVo k0 (vr.take i)):=fun i=>Zl hk1 (jJ_ _ _);obtain⟨kE,hj⟩:∃ kE,Hid (kVo k0 vr=kE):=⟨_,rfl⟩;rw[hj.out];go_enter func42,ntmps42
 go_wp2_with fail
 go_loopw [1,5] (fun kk ix wr=>∃ (i:Nat),i<=n∧ix=.int .i64 i∧kk=.int .i64 ((kVo k0 (vr.take i):Nat):Int)∧Below w.heap.size w wr) (fun _ ix _=>n-(intOf ix).toNat)
 case atStart=>exact⟨0,Zg _,rfl,rfl,Below.refl _ _⟩
 case round=>
  obtain⟨i,hi,rfl,rfl,hB⟩:=hrel;by_cases hlt:i<n
  ·obtain⟨x,hx⟩:∃ x,vr[i]?=some x:=⟨vr[i]'(by omega),by simp⟩;have hh:=Zc hx;obtain⟨b,rfl,c0,c1,c2,c3,hm⟩:=h i x hx;have hw:(i:Int)<n:=by omega
   have hy:(0:Int)<=i:=by omega
   obtain⟨q,hq⟩:∃ q,Hid (kVo k0 (vr.take i)=q):=⟨_,rfl⟩;have hv:1<=q:=by rw[<-hq.out];exact ho.out i
   have hg:Hid (kVo k0 (vr.take (i+1))=kIt (q+3) x.irs):=by show _=_;rw[lp_ hx,hq.out]
   have hc:kIt (q+3) x.irs<=40000000:=by rw[<-hg.out];exact hu.out (i+1)
   have hA:q+3<=40000000:=Zl (jI_ _ _) hc;have he:=hpn x hh;rw[hq.out] at c0 c1 c2 hm ⊢;replace c0:=bcell hB c0;replace c1:=bcell hB c1;replace c2:=bcell hB c2;replace c3:=bcell hB c3;replace hm:=hm.below hB;have e0:(((q:Nat):Int) != ((q:Nat):Int))=false:=by simp
   have e1:(!((markT (q+1)).toList==(markT (q+1)).toList))=false:=by simp
   go_wp2_with fail
   have g1:=gcell c1;have hk:=aA_ wr;refine ab_ (by kernel_rfl) (by kernel_rfl) ?_
   repeat (go_big_quiet_step (first | (go_at_call 47;exact an_ (aR_ (q+1) (((q:Nat):Int)+1) (by omega) _ (by omega) (by omega)))))
   refine wpQuiet_nil ?_;intro w2 hf;have ha:=ah_ hf;clear hf g1 hk e1;replace c2:=bcell ha c2;replace c3:=bcell ha c3;replace hm:=hm.below ha;have hr:=chain hB ha
   go_wp2_with fail
   rw[show ((q:Nat):Int)+1+1+1=((q+3:Nat):Int) by omega];refine (ie_ x.a x.n x.c (q+3) x.irs w2 hm (hil x hh) he.1 he.2 (by omega) hc).mono ?_;rintro e w3 ⟨rfl,hl⟩;have hp:=chain hr hl;obtain⟨qq,hb⟩:∃ qq:Int,((kIt (q+3) x.irs:Nat):Int)=qq:=⟨_,rfl⟩;have hs:Hid (((kIt (q+3) x.irs:Nat):Int)=qq):=hb;have hC:0<=qq:=by omega
   have hz:¬ qq<0:=by omega
   have hD:qq<=40000000:=by omega
   rw[hb];clear hb;go_wp2;go_roundw
   case rel=>exact⟨i+1,by omega,by go_num,by rw[<-hs.out,hg.out],hp⟩
   case measure=>simp[intOf];omega
  ·obtain rfl:i=n:=by omega
   have ht:vr.take i=vr:=Zk (by omega);rw[ht,hj.out];go_wp2;go_returns;exact⟨rfl,hB⟩
def nVs (vs:List Vo):Nat:=(vs.map fun v=>3+(v.its.map fun x=>1+3*x.ps.length).sum).sum
theorem qk_ (h:Al2 (ItR w B) irs its):(irs.map fun x=>1+3*x.n).sum=(its.map fun x=>1+3*x.ps.length).sum:=by
 induction h with
 |nil=>rfl
 |cons hr _ ih=>
  simp only[List.map_cons,List.sum_cons,ih];rw[<-hr.ps.sl.len]
theorem ql_ (h:Al2 (VoR w B) vr vs):kVo k0 vr=k0+nVs vs:=by
 unfold kVo nVs;congr 1
 induction h with
 |nil=>rfl
 |cons hr _ ih=>
  simp only[List.map_cons,List.sum_cons,ih];rw[qk_ hr.its]
structure DimK (p:Po):Prop where
 small:SmallP p
 ex:p.ex.length<=60000
 vs:p.vs.length<=60000
 its:∀ v∈p.vs,v.its.length<=60000∧∀ x∈v.its,x.ps.length<=60000
 nv:nVs p.vs<=180000
 rf:p.rf.length<=60000
 lt:p.lt.length<=60000
structure MkPo (w:World)(v:Value)(k:Nat):Prop where
 out:∃ (s n:Int) (ea:Option Addr) (en ec:Nat) (va:Option Addr) (vn vc:Nat) (ra:Option Addr) (rn rc:Nat) (la:Option Addr) (ln lc:Nat) (vr:List VQ),v=.agg #[.int .i64 s,.int .i64 n,.slice ea en ec,.slice va vn vc,.slice ra rn rc,.slice la ln lc]∧
  MkE w ea en 1∧MkV w va vr (1+2*en)∧MkC w ra rn (kVo (1+2*en) vr)∧MkC w la ln (kVo (1+2*en) vr+4*rn)∧k=kVo (1+2*en) vr+4*rn+4*ln∧
  vr.length=vn∧(∀ x∈vr,x.irs.length=x.n)∧(∀ x∈vr,x.n<=4194304∧∀ y∈x.irs,y.n<=4194304)∧en<=60000∧vn<=60000∧rn<=60000∧ln<=60000∧kVo (1+2*en) vr<=400000
theorem MkPo.below {k:Nat}(h:MkPo w v k)(hb:Below w.heap.size w w'):MkPo w' v k:=by
 obtain⟨s,n,ea,en,ec,va,vn,vc,ra,rn,rc,la,ln,lc,vr,e,h1,h2,h3,h4,r⟩:=h.out;exact⟨s,n,ea,en,ec,va,vn,vc,ra,rn,rc,la,ln,lc,vr,e,h1.below hb,h2.below hb,h3.below hb,h4.below hb,r⟩
theorem c7_ (h:ResAt cs sz t w B a n cap l)(h':ResAt cs' sz' t' w B' a' n' cap' l')(ht:t≠t'):∀ ad,a=some ad->ad.block∉(blkO a').toList:=fun ad e hm=>by
 cases ha:a' with
 |none=>rw[ha] at hm;simp[blkO] at hm
 |some ad'=>rw[ha] at hm;simp[blkO] at hm;exact eK_ h h' ht e ha hm
theorem dy_ (h:ResAt cs sz t w B a n cap l)(AL:Al2 (VoR w B') vr vs)(h1:t≠tI)(h2:t≠tP):∀ ad,a=some ad->ad.block∉vbl vr:=fun ad e hm=>by
 rcases dx_ hm with⟨z,hz,az,ez,eb⟩ | ⟨z,hz,y,hy,ay,ey,eb⟩
 ·obtain⟨u,hu⟩:=bE_ AL hz;exact eK_ h hu.rows h1 e ez eb.symm
 ·obtain⟨u,hu⟩:=bE_ AL hz;obtain⟨t,ht⟩:=bE_ hu.its hy;exact eK_ h ht.ps h2 e ey eb.symm
theorem he_ (h:Chg L w w')(hL:∀ b∈L,B<=b)(hB:B<=w.heap.size):Below B w w':=⟨h.os,h.tape,h.output,h.size,fun k hk=>h.block k (by omega) (fun hm=>by have:=hL k hm;omega)⟩
theorem qm_ (AL:Al2 (VoR w B) vr vs):∀ b∈vbl vr,B<=b:=fun b hb=>by
 rcases dx_ hb with⟨z,hz,az,ez,rfl⟩ | ⟨z,hz,y,hy,ay,ey,rfl⟩
 ·obtain⟨u,hu⟩:=bE_ AL hz;exact (hu.rows.block az ez).1
 ·obtain⟨u,hu⟩:=bE_ AL hz;obtain⟨t,ht⟩:=bE_ hu.its hy;exact (ht.ps.block ay ey).1
theorem hf_ (h:ResAt cs sz t w B a n cap l):∀ b∈(blkO a).toList,B<=b:=fun b hb=>by
 cases ha:a with
 |none=>rw[ha] at hb;simp[blkO] at hb
 |some ad=>rw[ha] at hb;simp[blkO] at hb;subst hb;exact (h.block ad ha).1
theorem m5_ {R:α->β->Prop}(h:Al2 R l m){x:α}(hx:x∈l):∃ y∈m,R x y:=by
 induction h with
 |nil=>cases hx
 |cons hr _ ih=>
  rcases Zn.1 hx with rfl | hx
  ·exact⟨_,by simp,hr⟩
  ·obtain⟨y,hy,h⟩:=ih hx;exact⟨y,by simp[hy],h⟩
theorem MkE.chg (h:MkE w a n k0)(hc:Chg L w w')(hn:∀ ad,a=some ad->ad.block∉L):MkE w' a n k0:=fun j hj=>by
 obtain⟨b,ha,c0,c1⟩:=h j hj
 have:=hn _ ha
 exact⟨b,ha,hc.cell c0 this,hc.cell c1 this⟩
theorem MkC.chg (h:MkC w a n k0)(hc:Chg L w w')(hn:∀ ad,a=some ad->ad.block∉L):MkC w' a n k0:=fun j hj=>by
 obtain⟨b,ha,c0,c1,c2,c3⟩:=h j hj
 have:=hn _ ha
 exact⟨b,ha,hc.cell c0 this,hc.cell c1 this,hc.cell c2 this,hc.cell c3 this⟩
theorem m6_ (h:∀ x y,a=some x->a'=some y->x.block≠y.block):∀ ad,a=some ad->ad.block∉(blkO a').toList:=fun ad e hm=>by
 cases ha:a' with
 |none=>rw[ha] at hm;simp[blkO] at hm
 |some ad'=>rw[ha] at hm;simp[blkO] at hm;exact h ad ad' e ha hm
theorem hg_ (h:ResAt cs sz t w B a n cap l):∀ b∈(blkO a).toList,b<w.heap.size:=fun b hb=>by
 cases ha:a with
 |none=>rw[ha] at hb;simp[blkO] at hb
 |some ad=>rw[ha] at hb;simp[blkO] at hb;subst hb;exact (h.block ad ha).2
theorem qn_ (AL:Al2 (VoR w B) vr vs):∀ b∈vbl vr,b<w.heap.size:=fun b hb=>by
 rcases dx_ hb with⟨z,hz,az,ez,rfl⟩ | ⟨z,hz,y,hy,ay,ey,rfl⟩
 ·obtain⟨u,hu⟩:=bE_ AL hz;exact (hu.rows.block az ez).2
 ·obtain⟨u,hu⟩:=bE_ AL hz;obtain⟨t,ht⟩:=bE_ hu.its hy;exact (ht.ps.block ay ey).2
structure PoolK (B:Nat)(w:World)(v:Value)(p:Po):Prop where
 out:∃ ea en ec va vn vc ra rn rc la ln lc vr,v=.agg #[.int .i64 p.size,.int .i64 p.next,.slice ea en ec,.slice va vn vc,.slice ra rn rc,.slice la ln lc]∧
  ResAt Ex.cs 2 tE w B ea en ec p.ex∧ResAt VQ.cs 4 tV w B va vn vc vr∧ResAt Ct.cs 4 tC w B ra rn rc p.rf∧ResAt Ct.cs 4 tC w B la ln lc p.lt∧
  (∀ x y,ra=some x->la=some y->0<rc->0<lc->x.block≠y.block)∧Al2 (VoR w B) vr p.vs∧(vblk vr).Nodup∧(pblk vr).Nodup
theorem pc_ {c':Nat}(R:ResAt cs 4 t w B a n c l)(R':ResAt cs' 4 t' w B' a' n' c' l')(h:∀ x y,a=some x->a'=some y->0<c->0<c'->x.block≠y.block)(h0:0<c∨0<c'):∀ x y,a=some x->a'=some y->x.block≠y.block:=fun x y hx hy e=>by
 rcases R.own with⟨q,_⟩ | ⟨b,q,_,_,_,d,hd,hs,_⟩
 ·rw[q] at hx;cases hx
 rcases R'.own with⟨q',_⟩ | ⟨b',q',_,_,_,d',ha,hc,_⟩
 ·rw[q'] at hy;cases hy
 have e1:x=⟨b,0,none⟩:=Zi (hx.symm.trans q);have e2:y=⟨b',0,none⟩:=Zi (hy.symm.trans q');have hb:b=b':=by rw[e1,e2] at e;exact e
 subst hb;unfold Blk at hd ha;rw[hd] at ha;injection ha with e3;injection e3 with e4;rw[<-e4] at hc;exact h x y hx hy (by omega) (by omega) e
def rowZ (n:Nat)(a:Option Addr):List Nat:=if n=0 then [] else (blkO a).toList
theorem a1_ (h:b∈rowZ n a):b∈(blkO a).toList:=by
 unfold rowZ at h;split at h
 ·cases h
 ·exact h
theorem markMkCz (B:Nat)(a:Option Addr)(n cap k0:Nat)(l:List Ct)(w:World)(h:ResAt Ct.cs 4 tC w B a n cap l)(hn:n<=4194304)(hk0:1<=k0∧k0<=50000000):
  Calls prog 40 #[.slice a n cap,.int .i64 ((k0:Nat):Int)] w fun e w'=>e=.returned (.int .i64 ((k0+4*n:Nat):Int))∧MkC w' a n k0∧Chg (rowZ n a) w w':=by
 by_cases h0:n=0
 ·subst h0;go_enter func40,ntmps40
  go_wp2_with fail
  go_rounds 1
  go_returns;exact⟨rfl,fun j hj=>(by omega),rfl,rfl,rfl,Zd _,fun _ _ _=>rfl⟩
 ·refine (markMkC B a n cap k0 l w h hn hk0).mono ?_;rintro e w' ⟨rfl,h1,h2⟩;refine⟨rfl,h1,?_⟩;rw[rowZ,if_neg h0];exact jL_ h2
theorem kx1_ {kc:Array Value}{kb:Nat}{kt:TypeId}(h:ResAt cs sz t w B a n cap l)(K:Blk w kb kc kt)(ht:t≠kt):kb∉(blkO a).toList:=fun hm=>by
 rcases h.own with⟨q,_⟩ | ⟨b,q,_,_,_,d,hd,_⟩
 ·rw[q] at hm;simp[blkO] at hm
 ·rw[q] at hm;simp[blkO] at hm;subst hm;unfold Blk at hd K;rw[hd] at K;injection K with e;injection e with _ e2;exact ht e2
theorem ky1_ {kc:Array Value}{kb:Nat}{kt:TypeId}(AL:Al2 (VoR w B) vr vs)(K:Blk w kb kc kt)(h1:tI≠kt)(h2:tP≠kt):kb∉vbl vr:=fun hm=>by
 rcases dx_ hm with⟨z,hz,az,ez,e⟩ | ⟨z,hz,y,hy,ay,ey,e⟩
 ·obtain⟨u,hu⟩:=bE_ AL hz;exact kx1_ hu.rows K h1 (by rw[ez];simp[blkO,e])
 ·obtain⟨u,hu⟩:=bE_ AL hz;obtain⟨t,ht⟩:=bE_ hu.its hy;exact kx1_ ht.ps K h2 (by rw[ey];simp[blkO,e])
theorem if_ (B:Nat)(v:Value)(p:Po)(wT:World)(h:PoolK B wT v p)(hd:DimK p)(hB:B<=wT.heap.size)(kb:Nat)(kc:Array Value)(KB:Blk wT kb kc 35):
  Calls prog 12 #[v,.int .i64 1] wT fun e w'=>(∃ k:Nat,e=.returned (.int .i64 ((k:Nat):Int))∧MkPo w' v k∧k<=1000000)∧Below B wT w'∧Blk w' kb kc 35:=by
 obtain⟨w,hl⟩:∃ w,w=wT:=⟨_,rfl⟩;have hW:Below wT.heap.size wT w:=by rw[hl];exact Below.refl _ _
 rw[<-hl] at KB ⊢;clear hl
 obtain⟨ea,en,ec,va,vn,vc,ra,rn,rc,la,ln,lc,vr,rfl,RE,RV,RR,RL,hz,AL,N1,N2⟩:=h.out;have hI:en<=60000:=by rw[<-RE.sl.len];exact hd.ex
 have hH:vn<=60000:=by rw[<-RV.sl.len,AL.len];exact hd.vs
 have hT:rn<=60000:=by rw[<-RR.sl.len];exact hd.rf
 have hJ:ln<=60000:=by rw[<-RL.sl.len];exact hd.lt
 have hk:kVo (1+2*en) vr<=400000:=by rw[ql_ AL];have:=hd.nv;omega
 have hK:=jJ_ (1+2*en) vr;have hG:Hid (vr.length=vn):=RV.sl.len
 have hY:Hid (∀ x∈vr,x.irs.length=x.n):=fun x hx=>by
  obtain⟨u,hu⟩:=bE_ AL hx;exact hu.rows.sl.len
 have hC:Hid (∀ x∈vr,x.n<=4194304∧∀ y∈x.irs,y.n<=4194304):=fun x hx=>by
  obtain⟨u,hF,hu⟩:=m5_ AL hx;obtain⟨d1,d2⟩:=hd.its u hF;refine⟨by rw[<-hu.rows.sl.len,hu.its.len];omega,fun y hy=>?_⟩;obtain⟨t,h4,ht⟩:=m5_ hu.its hy
  have:=d2 t h4
  rw[<-ht.ps.sl.len];omega
 have hZ:Hid (∀ b∈(blkO ea).toList,b<wT.heap.size):=hg_ RE;have hP:Hid (∀ b∈(blkO va).toList++vbl vr,b<wT.heap.size):=fun b hb=>(Zs.1 hb).elim (hg_ RV b) (qn_ AL b);have h2:Hid (∀ b∈(blkO ra).toList,b<wT.heap.size):=hg_ RR;have qb:Hid (∀ b∈(blkO la).toList,b<wT.heap.size):=hg_ RL;have hM:=hf_ RE;have hS:∀ b∈(blkO va).toList++vbl vr,B<=b:=fun b hb=>(Zs.1 hb).elim (hf_ RV b) (qm_ AL b);have h3:=hf_ RR;have hD:=hf_ RL;have h1:∀ ad,ea=some ad->ad.block∉(blkO va).toList++vbl vr:=fun ad e hm=>(Zs.1 hm).elim (c7_ RE RV (by decide) ad e) (dy_ RE AL (by decide) (by decide) ad e);have hV:∀ ad,ra=some ad->ad.block∉(blkO va).toList++vbl vr:=fun ad e hm=>(Zs.1 hm).elim (c7_ RR RV (by decide) ad e) (dy_ RR AL (by decide) (by decide) ad e);have hj:∀ ad,la=some ad->ad.block∉(blkO va).toList++vbl vr:=fun ad e hm=>(Zs.1 hm).elim (c7_ RL RV (by decide) ad e) (dy_ RL AL (by decide) (by decide) ad e);have hL:=c7_ RV RE (by decide);have hX:=c7_ RE RR (by decide);have hE:=c7_ RE RL (by decide);have hQ:=c7_ RR RE (by decide);have ho:=c7_ RL RE (by decide);have hR:=c7_ RV RR (by decide);have hU:=c7_ RV RL (by decide)
 have hq:∀ b∈vbl vr,b∉(blkO ea).toList:=fun b hb hm=>by
  cases ha:ea with
  |none=>rw[ha] at hm;simp[blkO] at hm
  |some ad=>rw[ha] at hm;simp[blkO] at hm;exact dy_ RE AL (by decide) (by decide) ad ha (hm▸hb)
 have hw:∀ b∈vbl vr,b∉(blkO ra).toList:=fun b hb hm=>by
  cases ha:ra with
  |none=>rw[ha] at hm;simp[blkO] at hm
  |some ad=>rw[ha] at hm;simp[blkO] at hm;exact dy_ RR AL (by decide) (by decide) ad ha (hm▸hb)
 have hA:∀ b∈vbl vr,b∉(blkO la).toList:=fun b hb hm=>by
  cases ha:la with
  |none=>rw[ha] at hm;simp[blkO] at hm
  |some ad=>rw[ha] at hm;simp[blkO] at hm;exact dy_ RL AL (by decide) (by decide) ad ha (hm▸hb)
 have qa:rn<=rc:=by rcases RR.own with⟨_,h,_⟩ | ⟨_,_,_,h,_⟩<;>omega
 have h6:ln<=lc:=by rcases RL.own with⟨_,h,_⟩ | ⟨_,_,_,h,_⟩<;>omega
 have hO:∀ ad,ra=some ad->ad.block∉rowZ ln la:=fun ad e hm=>by
  by_cases h0:ln=0
  ·rw[rowZ,if_pos h0] at hm;cases hm
  ·exact m6_ (pc_ RR RL hz (.inr (by omega))) ad e (a1_ hm)
 have hp:∀ ad,la=some ad->ad.block∉rowZ rn ra:=fun ad e hm=>by
  by_cases h0:rn=0
  ·rw[rowZ,if_pos h0] at hm;cases hm
  ·exact m6_ (fun x y hx hy=>(pc_ RR RL hz (.inl (by omega)) y x hy hx).symm) ad e (a1_ hm)
 have kE:=kx1_ (RE.below hW) KB (by decide);have kV:=fun hm=>(Zs.1 hm).elim (kx1_ (RV.below hW) KB (by decide)) (ky1_ (AL.imp fun _ _ _ h=>VoR.below h hW) KB (by decide) (by decide));have kR:=kx1_ (RR.below hW) KB (by decide);have kL:=kx1_ (RL.below hW) KB (by decide);have h9:=hW.size;have hf:Below w.heap.size w (w.alloc (.cells #[.int .i64 p.size,.int .i64 p.next,.slice ea en ec,.slice va vn vc,.slice ra rn rc,.slice la ln lc] 35)):=(Below.refl _ _).alloc (Zd _) _;have PB:=Blk.new w #[.int .i64 p.size,.int .i64 p.next,.slice ea en ec,.slice va vn vc,.slice ra rn rc,.slice la ln lc] 35;have hh:=chain hW hf;replace KB:=KB.below hf;replace RE:=RE.below hh;replace RV:=RV.below hh;replace RR:=RR.below hh;replace RL:=RL.below hh;replace AL:Al2 (VoR _ B) vr p.vs:=AL.imp fun _ _ _ h=>h.below hh;obtain⟨K2,hc⟩:∃ K,Hid (kVo (1+2*en) vr=K):=⟨_,rfl⟩;rw[hc.out] at hk hK;go_enter func12,ntmps12
 go_wp2_with fail
 generalize w.alloc (.cells #[.int .i64 p.size,.int .i64 p.next,.slice ea en ec,.slice va vn vc,.slice ra rn rc,.slice la ln lc] 35)=W0 at *;have hs:Below B w W0:=hf.mono (by omega);have qc:=hf.size;refine (markMkE B ea en ec 1 p.ex W0 RE (by omega) ⟨by omega,by omega⟩).mono ?_;rintro e w1 ⟨rfl,he,hv⟩;have C1:=jL_ hv;replace RV:=RV.chg C1 hL;replace RR:=RR.chg C1 hQ;replace RL:=RL.chg C1 ho;replace AL:Al2 (VoR w1 B) vr p.vs:=AL.imp fun x hx _ hr=>⟨hr.id,hr.nm,hr.fx,hr.rows.chg C1 (fun ad e=>hq _ (m3_ hx e)),ResAt.chgA hr.its C1 (fun y hy ad e=>hq _ (m4_ hx hy e))⟩;replace PB:=C1.blk PB (fun hm=>by have:=hZ.out _ hm;omega);replace KB:=C1.blk KB kE;have b1:=hs.trans (he_ C1 hM (by omega));have h5:=b1.size;clear hv C1 RE hf hs;have p3:=PB.cell 3;have q2:=iz_ B va vn vc (1+2*en) vr p.vs w1 RV AL N1 N2 (by omega) hC.out (by omega) (by rw[hc.out];omega);rw[hc.out] at q2
 go_wp2_with fail
 refine q2.mono ?_;rintro e w2 ⟨rfl,hg,C2⟩;replace he:=he.chg C2 h1;replace RR:=RR.chg C2 hV;replace RL:=RL.chg C2 hj;replace PB:=C2.blk PB (fun hm=>by have:=hP.out _ hm;omega);replace KB:=C2.blk KB kV;replace b1:=b1.trans (he_ C2 hS (by omega));have h8:=b1.size;clear q2 C2 p3 RV AL;have p4:=PB.cell 4
 go_wp2_with fail
 refine (markMkCz B ra rn rc K2 p.rf w2 RR (by omega) ⟨by omega,by omega⟩).mono ?_;rintro e w3 ⟨rfl,hn,C3⟩;replace he:=he.chg C3 (fun ad e hm=>hX ad e (a1_ hm));replace hg:=hg.chg C3 (fun ad e hm=>hR ad e (a1_ hm)) (fun x hx ad e hm=>hw _ (m3_ hx e) (a1_ hm)) (fun x hx y hy ad e hm=>hw _ (m4_ hx hy e) (a1_ hm));replace RL:=RL.chg C3 hp;replace PB:=C3.blk PB (fun hm=>by have:=h2.out _ (a1_ hm);omega);replace KB:=C3.blk KB (fun hm=>kR (a1_ hm));replace b1:=b1.trans (he_ C3 (fun b hb=>h3 b (a1_ hb)) (by omega));have h7:=b1.size;clear C3 p4 RR;have p5:=PB.cell 5
 go_wp2_with fail
 refine (markMkCz B la ln lc (K2+4*rn) p.lt w3 RL (by omega) ⟨by omega,by omega⟩).mono ?_;rintro e w4 ⟨rfl,hN,C4⟩;replace he:=he.chg C4 (fun ad e hm=>hE ad e (a1_ hm));replace hg:=hg.chg C4 (fun ad e hm=>hU ad e (a1_ hm)) (fun x hx ad e hm=>hA _ (m3_ hx e) (a1_ hm)) (fun x hx y hy ad e hm=>hA _ (m4_ hx hy e) (a1_ hm));replace hn:=hn.chg C4 hO;replace b1:=b1.trans (he_ C4 (fun b hb=>hD b (a1_ hb)) (by omega));replace KB:=C4.blk KB (fun hm=>kL (a1_ hm));clear C4 p5 RL;go_wp2;go_returns;refine⟨⟨K2+4*rn+4*ln,rfl,⟨p.size,p.next,ea,en,ec,va,vn,vc,ra,rn,rc,la,ln,lc,vr,rfl,he,hg,?_,?_,?_,hG.out,hY.out,hC.out,hI,hH,hT,hJ,?_⟩,by omega⟩,b1,KB⟩
 ·rw[hc.out];exact hn
 ·rw[hc.out];exact hN
 ·rw[hc.out]
 ·rw[hc.out];exact hk
theorem ig_ (v:Value)(k:Nat)(w:World)(h:MkPo w v k):
  Calls prog 13 #[v,.int .i64 1] w fun e w'=>e=.returned (.int .i64 ((k:Nat):Int))∧Below w.heap.size w w':=by
 obtain⟨s,n,ea,en,ec,va,vn,vc,ra,rn,rc,la,ln,lc,vr,rfl,h1,h2,h3,h4,hk,hj,hh,hl,hp,ho,hr,hq,hK⟩:=h.out;have hb:Below w.heap.size w (w.alloc (.cells #[.int .i64 s,.int .i64 n,.slice ea en ec,.slice va vn vc,.slice ra rn rc,.slice la ln lc] 35)):=(Below.refl _ _).alloc (Zd _) _;have PB:=Blk.new w #[.int .i64 s,.int .i64 n,.slice ea en ec,.slice va vn vc,.slice ra rn rc,.slice la ln lc] 35;replace h1:=h1.below hb;replace h2:=h2.below hb;replace h3:=h3.below hb;replace h4:=h4.below hb;have hn:=jJ_ (1+2*en) vr;obtain⟨K2,he⟩:∃ K,Hid (kVo (1+2*en) vr=K):=⟨_,rfl⟩;rw[he.out] at h3 h4 hk hK hn;have hm:Hid (k=K2+4*rn+4*ln):=hk;have hc:Hid (vr.length=vn):=hj;have hf:Hid (∀ x∈vr,x.irs.length=x.n):=hh;have hg:Hid (∀ x∈vr,x.n<=4194304∧∀ y∈x.irs,y.n<=4194304):=hl;clear hk hj hh hl;have q2:=fun (u:World) (hu:MkV u va vr (1+2*en))=>iA_ va vn vc (1+2*en) vr u hu hc.out hf.out (by omega) hg.out (by omega) (by rw[he.out];omega);rw[he.out] at q2;go_enter func13,ntmps13
 go_wp2_with fail
 generalize w.alloc (.cells #[.int .i64 s,.int .i64 n,.slice ea en ec,.slice va vn vc,.slice ra rn rc,.slice la ln lc] 35)=W0 at *;refine (heldMkE ea en ec 1 W0 h1 (by omega) ⟨by omega,by omega⟩).mono ?_;rintro e w1 ⟨rfl,ha⟩;replace PB:=PB.below ha;replace h2:=h2.below ha;replace h3:=h3.below ha;replace h4:=h4.below ha;replace hb:=chain hb ha;clear ha h1;have p3:=PB.cell 3;have n1:¬ (((1+2*en:Nat):Int)<0):=by omega
 go_wp2_with fail
 refine (q2 w1 h2).mono ?_;rintro e w2 ⟨rfl,ha⟩;replace PB:=PB.below ha;replace h3:=h3.below ha;replace h4:=h4.below ha;replace hb:=chain hb ha;clear ha h2 p3 q2;have p4:=PB.cell 4;have n2:¬ (((K2:Nat):Int)<0):=by omega
 go_wp2_with fail
 refine (heldMkC ra rn rc K2 w2 h3 (by omega) ⟨by omega,by omega⟩).mono ?_;rintro e w3 ⟨rfl,ha⟩;replace PB:=PB.below ha;replace h4:=h4.below ha;replace hb:=chain hb ha;clear ha h3 p4;have p5:=PB.cell 5;have n3:¬ (((K2+4*rn:Nat):Int)<0):=by omega
 go_wp2_with fail
 refine (heldMkC la ln lc (K2+4*rn) w3 h4 (by omega) ⟨by omega,by omega⟩).mono ?_;rintro e w4 ⟨rfl,ha⟩;replace hb:=chain hb ha;clear ha h4 p5;have n4:¬ (((K2+4*rn+4*ln:Nat):Int)<0):=by omega
 rw[<-hm.out] at n4 ⊢;go_wp2;go_returns;exact⟨rfl,hb⟩
end
section
open Go Go.ChangeShapes Go.WideShapes Go.RowKit Go.BigFrame _root_.Go.Proofs.Tryz
theorem glET:prog.globalNamed "errors.errorType"=some 3:=by kernel_rfl
theorem rtL:(prog.cutTypes.find? (·.1=="internal/reflectlite.rtype")).map (·.2)=some 220:=by kernel_rfl
theorem sizeL:prog.types.size=347:=by kernel_rfl
theorem oneRowL:((List.range 347).filter fun t=>prog.rowNamed t [101,114,114,111,114])=[64]:=by kernel_rfl
theorem ih_:prog.globalNamed "loop.example/g00336/impl.errPool"=some 0:=by kernel_rfl
theorem mt_:(prog.globals[0]?).map (·.type)=some 64:=by kernel_rfl
theorem lr_:prog.globalNamed "loop.example/g00336/impl.errOp"=some 1:=by kernel_rfl
theorem pd_:(prog.globals[1]?).map (·.type)=some 64:=by kernel_rfl
theorem gb_:prog.globalNamed "loop.example/g00336/impl.errVolume"=some 4:=by kernel_rfl
theorem jM_:(prog.globals[4]?).map (·.type)=some 64:=by kernel_rfl
theorem ii_:prog.globalNamed "loop.example/g00336/impl.errFile"=some 8:=by kernel_rfl
theorem mu_:(prog.globals[8]?).map (·.type)=some 64:=by kernel_rfl
theorem gO_:prog.globalNamed "loop.example/g00336/impl.errBytes"=some 9:=by kernel_rfl
theorem ls_:(prog.globals[9]?).map (·.type)=some 64:=by kernel_rfl
theorem gP_:prog.globalNamed "loop.example/g00336/impl.errThere"=some 6:=by kernel_rfl
theorem lt_:(prog.globals[6]?).map (·.type)=some 64:=by kernel_rfl
theorem gQ_:prog.globalNamed "loop.example/g00336/impl.errFixed"=some 5:=by kernel_rfl
theorem lu_:(prog.globals[5]?).map (·.type)=some 64:=by kernel_rfl
theorem ij_:prog.globalNamed "loop.example/g00336/impl.errRoom"=some 7:=by kernel_rfl
theorem mv_:(prog.globals[7]?).map (·.type)=some 64:=by kernel_rfl
theorem gR_:prog.globalNamed "loop.example/g00336/impl.errParts"=some 10:=by kernel_rfl
theorem lv_:(prog.globals[10]?).map (·.type)=some 64:=by kernel_rfl
theorem gS_:prog.globalNamed "loop.example/g00336/impl.errAfter"=some 2:=by kernel_rfl
theorem lw_:(prog.globals[2]?).map (·.type)=some 64:=by kernel_rfl
end
end Go.Proofs.YtbbhcnjhohidnaaGreatDoor
