/- weighing. -/
import Derived.Test.YtbbhcnjhohidnaaGreatDoorU36
set_option maxHeartbeats 20000000
set_option maxRecDepth 100000
namespace Go.Proofs.YtbbhcnjhohidnaaGreatDoor
section
open Go Go.RowKit Go.BigFrame _root_.Go.Proofs.Tryz
variable{α β:Type}{ad:Addr}{irs:List IQ}{its:List It}{L:List Nat}{vr:List VQ}{vs:List Vo}{B B' b c cap cap' i k0 n n' sz sz':Nat}{a a':Option Addr}{t t':TypeId}{x:VQ}{v:Value}{w w':World}{l:List α}{l' m:List β}{cs:α->List Value}{cs':β->List Value}
theorem id_ (B:Nat)(a:Option Addr)(n cap k0:Nat)(irs:List IQ)(its:List It)(w:World)(RI:Ac IQ.cs 2 tI w B a n cap irs)(IL:Al2 (ItR w B) irs its)(hN:(ibl irs).Nodup)(hn:n<=4194304)(hpn:∀ x∈irs,x.n<=4194304)(hk1:1<=k0)(hk2:kIt k0 irs<=40000000):
  Calls prog 89 #[.slice a n cap,.int .i64 ((k0:Nat):Int)] w fun e w'=>e=.returned (.int .i64 ((kIt k0 irs:Nat):Int))∧MkI w' a irs k0∧Chg ((AC a).toList++ibl irs) w w':=by
 have hf:=RI.sl.len;rcases RI.own with⟨rfl,rfl,rfl⟩ | ⟨ib,rfl,hB,hO,hU,c,hc,hs,_⟩
 ·obtain rfl:=Zt hf;go_enter func89,ntmps89
  go_wp2_with fail
  go_rounds 1
  go_returns;exact⟨rfl,fun j x hx=>(by simp at hx),Chg.refl _ _⟩
 ·have hQ:Hid (∀ j x,irs[j]?=some x->c[j*2+1]?=some (.slice x.a x.n x.c)):=fun j x hx=>by
   obtain⟨b,o,e,hq⟩:=RI.sl.cell j x hx
   cases e
   have:=hq 1 _ rfl
   rw[hc.cell] at this;simpa using this
  have hP:Hid (∀ x∈irs,∃ ps,Ac Pt.cs 3 tP w B x.a x.n x.c ps):=fun x hx=>by
   obtain⟨y,hy⟩:=bE_ IL hx;exact⟨_,hy.ps⟩
  have hI:Hid (∀ x∈irs,∀ ad,x.a=some ad->ad.block≠ib):=fun x hx ad e=>by
   obtain⟨ps,hp⟩:=hP.out x hx;exact eK_ hp RI (by decide) e rfl
  have hG:Hid (∀ i,kIt k0 (irs.take i)<=40000000):=fun i=>Zl (o9_ i) hk2;have hM:Hid (∀ i,1<=kIt k0 (irs.take i)):=fun i=>Zl hk1 (jI_ _ _);obtain⟨kE,hF⟩:∃ kE,Hid (kIt k0 irs=kE):=⟨_,rfl⟩;rw[hF.out];go_enter func89,ntmps89
  go_wp2_with fail
  go_loopw [1,5] (fun kk ix wr=>∃ (i:Nat) (c':Array Value),i<=n∧ix=.int .i64 i∧kk=.int .i64 ((kIt k0 (irs.take i):Nat):Int)∧Blk wr ib c' tI∧Hid (c'.size=c.size)∧Hid (∀ j x,irs[j]?=some x->c'[j*2+1]?=some (.slice x.a x.n x.c))∧Hid (∀ j,j<i->c'[j*2]?=some (.string (Bf (kIt k0 (irs.take j)))))∧Hid (∀ j x,j<i->irs[j]?=some x->MkP wr x.a x.n (kIt k0 (irs.take j)+1))∧Chg (ib::ibl (irs.take i)) w wr) (fun _ ix _=>n-(intOf ix).toNat)
  case atStart=>exact⟨0,c,Zg _,rfl,rfl,hc,rfl,hQ.out,fun j hj=>(by omega),fun j x hj=>(by omega),Chg.refl _ _⟩
  case round=>
   obtain⟨i,c',hi,rfl,rfl,ha,hE,hr,he,hH,hC⟩:=hrel;by_cases hlt:i<n
   ·obtain⟨x,hx⟩:∃ x,irs[i]?=some x:=⟨irs[i]'(by omega),by simp⟩;have hA:=Zc hx;obtain⟨ps,hJ⟩:=hP.out x hA;have hT:i*2+1<c'.size:=by rw[hE.out,hs];have:=ZS 2 hO;omega
    have hV:(i:Int)<n:=by omega
    have hW:(0:Int)<=i:=by omega
    obtain⟨q,hq⟩:∃ q,Hid (kIt k0 (irs.take i)=q):=⟨_,rfl⟩;have hX:1<=q:=by rw[<-hq.out];exact hM.out i
    have hY:q<=40000000:=by rw[<-hq.out];exact hG.out i
    have hK:Hid (kIt k0 (irs.take (i+1))=q+1+3*x.n):=by show _=_;rw[lo_ hx,hq.out]
    have hZ:q+1+3*x.n<=40000000:=by rw[<-hK.out];exact hG.out (i+1)
    have hR:=hpn x hA;rw[hq.out]
    go_wp2_with fail
    refine (aR_ q _ rfl _ (by omega) (by omega)).mono ?_;rintro e w1 ⟨rfl,hl⟩;have b1:=ha.below hl;obtain⟨v0,y0⟩:=b1.has (i:=i*2) (by omega);have f0:=b1.frozen (i*2);have y1:w1.cell? ⟨ib,i*2+1,none⟩=some (.slice x.a x.n x.c):=by rw[b1.cell];exact hr.out i x hx
    go_wp2_with fail
    rw[show ((q:Nat):Int)+1=((q+1:Nat):Int) by omega];have b2:=b1.set (i*2) (.string (Bf q));have hg:Chg [ib] wr (w1.setCell ⟨ib,i*2,none⟩ (.string (Bf q))):=(Chg.ofB hl).trans (Chg.ofG (af_ (Yh _ _) _ _) (fun b e=>by cases e;simp));generalize w1.setCell ⟨ib,i*2,none⟩ (.string (Bf q))=W2 at *;clear y0 y1 f0 b1;have ho:Chg (ib::ibl (irs.take i)) w W2:=hC.trans (hg.mono (by simp))
    have hb:=hJ.chg ho (fun ad e=>by
     simp only[Zn,not_or];exact⟨hI.out x hA ad e,pb_ hN hx e⟩)
    refine (FX B x.a x.n x.c (q+1) ps W2 hb hR ⟨by omega,by omega⟩).mono ?_;rintro e w3 ⟨rfl,hD,hu⟩;have b3:=b2.ty hu (hb.rowTy (m:=x.n) (k:=x.c)) (by decide);have hh:=jL_ hu
    have hL:Chg (ib::ibl (irs.take (i+1))) w w3:=(ho.mono (fun k hk=>by
     rw[ic_ hx];rcases Zn.1 hk with rfl | hk
     ·simp
     ·exact ZY _ (Yu _ hk))).trans (hh.mono (fun k hk=>by rw[ic_ hx];exact ZY _ (Ym _ hk)))
    have hv:Hid (∀ j z,j<i+1->irs[j]?=some z->MkP w3 z.a z.n (kIt k0 (irs.take j)+1)):=fun j z hj hz=>by
     by_cases hji:j=i
     ·subst hji;obtain rfl:x=z:=Zi (hx.symm.trans hz);rw[hq.out];exact hD
     ·have hS:=Zc hz;have h1:=hH.out j z (by omega) hz;refine (h1.chg hg (fun _ ad e=>by simpa using hI.out z hS ad e)).chg hh (fun _ ad e=>?_);intro hm
      cases hw:x.a with
      |none=>rw[hw] at hm;simp[AC] at hm
      |some ax=>
       rw[hw] at hm;simp[AC] at hm;refine pb_ hN hx hw ?_;rw[<-hm];exact jK_ (Zc (i:=j) (by rw[Ya (by omega)];exact hz)) e
    clear hD hu hh ho hb hJ hg hl ha b2;go_wp2;go_roundw
    case rel=>
     refine⟨i+1,_,by omega,by go_num,?_,b3,by show _=_;simp[hE.out],?_,?_,hv,hL⟩
     ·rw[hK.out];rfl
     ·intro j z hz;rw[Za (by omega)];exact hr.out j z hz
     ·intro j hj;by_cases hji:j=i
      ·subst hji;rw[Zh (by omega),hq.out]
      ·rw[Za (by omega)];exact he.out j (by omega)
    case measure=>simp[intOf];omega
   ·obtain rfl:i=n:=by omega
    have ht:irs.take i=irs:=Zk (by omega);rw[ht] at hC ⊢;rw[hF.out];go_wp2;go_returns;refine⟨rfl,fun j x hx=>?_,hC⟩;have hj:j<i:=by rw[<-hf];exact (Zb.1 hx).1
    exact⟨ib,rfl,by rw[ha.cell];exact he.out j hj,by rw[ha.cell];exact hr.out j x hx,hH.out j x hj hx⟩
theorem ie_ (a:Option Addr)(n cap k0:Nat)(irs:List IQ)(w:World)(h:MkI w a irs k0)(hlen:irs.length=n)(hn:n<=4194304)(hpn:∀ x∈irs,x.n<=4194304)(hk1:1<=k0)(hk2:kIt k0 irs<=40000000):
  Calls prog 90 #[.slice a n cap,.int .i64 ((k0:Nat):Int)] w fun e w'=>e=.returned (.int .i64 ((kIt k0 irs:Nat):Int))∧Below w.heap.size w w':=by
 have hl:Hid (∀ i,kIt k0 (irs.take i)<=40000000):=fun i=>Zl (o9_ i) hk2;have hk:Hid (∀ i,1<=kIt k0 (irs.take i)):=fun i=>Zl hk1 (jI_ _ _);obtain⟨kE,hc⟩:∃ kE,Hid (kIt k0 irs=kE):=⟨_,rfl⟩;rw[hc.out];go_enter func90,ntmps90
 go_wp2_with fail
 go_loopw [1,5] (fun kk ix wr=>∃ (i:Nat),i<=n∧ix=.int .i64 i∧kk=.int .i64 ((kIt k0 (irs.take i):Nat):Int)∧Below w.heap.size w wr) (fun _ ix _=>n-(intOf ix).toNat)
 case atStart=>exact⟨0,Zg _,rfl,rfl,Yg _ _⟩
 case round=>
  obtain⟨i,hi,rfl,rfl,hB⟩:=hrel;by_cases hlt:i<n
  ·obtain⟨x,hx⟩:∃ x,irs[i]?=some x:=⟨irs[i]'(by omega),by simp⟩;have hr:=Zc hx;obtain⟨b,rfl,c0,c1,hm⟩:=h i x hx;have hu:(i:Int)<n:=by omega
   have hv:(0:Int)<=i:=by omega
   obtain⟨q,hq⟩:∃ q,Hid (kIt k0 (irs.take i)=q):=⟨_,rfl⟩;have hw:1<=q:=by rw[<-hq.out];exact hk.out i
   have he:Hid (kIt k0 (irs.take (i+1))=q+1+3*x.n):=by show _=_;rw[lo_ hx,hq.out]
   have hy:q+1+3*x.n<=40000000:=by rw[<-he.out];exact hl.out (i+1)
   have hs:=hpn x hr;rw[hq.out] at c0 hm ⊢;replace c0:=Ab hB c0;replace c1:=Ab hB c1;replace hm:=hm.below hB;have e0:(!((Bf q).toList==(Bf q).toList))=false:=by simp
   go_wp2_with fail
   have g0:=Ad c0;have ho:=aA_ wr;refine ab_ (by kernel_rfl) (by kernel_rfl) ?_
   repeat (go_big_quiet_step (first | (go_at_call 47;exact an_ (aR_ q ((q:Nat):Int) rfl _ (by omega) (by omega)))))
   refine wpQuiet_nil ?_;intro w2 hf;have ha:=ah_ hf;clear hf g0 ho e0;replace c1:=Ab ha c1;replace hm:=hm.below ha;have hh:=Aa hB ha
   go_wp2_with fail
   rw[show ((q:Nat):Int)+1=((q+1:Nat):Int) by omega];refine (Gt x.a x.n x.c (q+1) w2 hm hs ⟨by omega,by omega⟩).mono ?_;rintro e w3 ⟨rfl,hg⟩;have hj:=Aa hh hg;obtain⟨qq,hb⟩:∃ qq:Int,((q+1+3*x.n:Nat):Int)=qq:=⟨_,rfl⟩;have hp:Hid (((q+1+3*x.n:Nat):Int)=qq):=hb;have hz:0<=qq:=by omega
   have hA:¬ qq<0:=by omega
   have hC:qq<=40000000:=by omega
   rw[hb];clear hb;go_wp2;go_roundw
   case rel=>exact⟨i+1,by omega,by go_num,by rw[<-hp.out,he.out],hj⟩
   case measure=>simp[intOf];omega
  ·obtain rfl:i=n:=by omega
   have ht:irs.take i=irs:=Zk (by omega);rw[ht,hc.out];go_wp2;go_returns;exact⟨rfl,hB⟩
def vbl (vr:List VQ):List Nat:=vr.flatMap fun r=>(AC r.a).toList++ibl r.irs
theorem lq_ (h:vr[i]?=some x):vbl (vr.take (i+1))=vbl (vr.take i)++((AC x.a).toList++ibl x.irs):=by
 unfold vbl;rw[ZK,h];simp
theorem m3_ (h:x∈vr)(ha:x.a=some ad):ad.block∈vbl vr:=ZL.2 ⟨x,h,Yu _ (by simp[AC,ha])⟩
theorem m4_ {y:IQ}(h:x∈vr)(hy:y∈x.irs)(ha:y.a=some ad):ad.block∈vbl vr:=ZL.2 ⟨x,h,Ym _ (jK_ hy ha)⟩
theorem dx_ (h:b∈vbl vr):(∃ x∈vr,∃ ad,x.a=some ad∧ad.block=b)∨∃ x∈vr,∃ y∈x.irs,∃ ad,y.a=some ad∧ad.block=b:=by
 obtain⟨x,hx,hb⟩:=ZL.1 h;rcases Zs.1 hb with hb | hb
 ·left
  cases ha:x.a with
  |none=>rw[ha] at hb;simp[AC] at hb
  |some ad=>rw[ha] at hb;simp[AC] at hb;exact⟨x,hx,ad,ha,hb.symm⟩
 ·right;obtain⟨y,hy,e⟩:=YQ.1 hb
  cases ha:y.a with
  |none=>rw[ha] at e;cases e
  |some ad=>rw[ha] at e;exact⟨x,hx,y,hy,ad,ha,Zi e⟩
theorem qj_ (AL:Al2 (VoR w B) vr vs)(N1:(DI vr).Nodup)(N2:(Da vr).Nodup)(h:vr[i]?=some x):(∀ ad,x.a=some ad->ad.block∉vbl (vr.take i))∧∀ y∈x.irs,∀ ad,y.a=some ad->ad.block∉vbl (vr.take i):=by
 have hc:vr.take (i+1)=vr.take i++[x]:=by rw[ZK,h];rfl
 have h1:(DI (vr.take i++[x])).Nodup:=by rw[<-hc];exact List.Nodup.sublist ((List.take_sublist _ _).filterMap _) N1
 have h2:(Da (vr.take i++[x])).Nodup:=by
  rw[<-hc];unfold Da at N2 ⊢;have e:=congrArg (fun l:List VQ=>l.flatMap fun r=>r.irs.filterMap fun x=>AC x.a) (YM (i+1) vr);simp only[ZQ] at e;rw[<-e] at N2;exact (Yf.1 N2).1
 rw[o4_] at h1;rw[o5_] at h2;have he:=Zc h;obtain⟨v,hv⟩:=bE_ AL he;have hm:∀ z∈vr.take i,z∈vr:=fun z hz=>ZX hz
 have ha:∀ z∈vr,∀ y∈z.irs,∃ ps,Ac Pt.cs 3 tP w B y.a y.n y.c ps:=fun z hz y hy=>by
  obtain⟨u,hu⟩:=bE_ AL hz;obtain⟨t,ht⟩:=bE_ hu.its hy;exact⟨_,ht.ps⟩
 constructor
 ·intro ad e hb;rcases dx_ hb with⟨z,hz,az,ez,eb⟩ | ⟨z,hz,y,hy,ay,ey,eb⟩
  ·exact (Yf.1 h1).2.2 _ (o7_ hz ez) ad.block (by simp[AC,e]) eb
  ·obtain⟨ps,hp⟩:=ha z (hm z hz) y hy;exact eK_ hp hv.rows (by decide) ey e eb
 ·intro y hy ad e hb;rcases dx_ hb with⟨z,hz,az,ez,eb⟩ | ⟨z,hz,y',hf,ay,ey,eb⟩
  ·obtain⟨ps,hp⟩:=ha x he y hy;obtain⟨u,hu⟩:=bE_ AL (hm z hz);exact eK_ hp hu.rows (by decide) e ez eb.symm
  ·exact (Yf.1 h2).2.2 _ (o8_ hz hf ey) ad.block (jK_ hy e) eb
theorem Ac.chgA (h:Al2 (ItR w B) irs its)(hc:Chg L w w')(hn:∀ x∈irs,∀ ad,x.a=some ad->ad.block∉L):Al2 (ItR w' B) irs its:=h.imp fun x hx _ hr=>⟨hr.nm,hr.ps.chg hc (hn x hx)⟩
theorem iz_ (B:Nat)(a:Option Addr)(n cap k0:Nat)(vr:List VQ)(vs:List Vo)(w:World)(RV:Ac VQ.cs 4 tV w B a n cap vr)(AL:Al2 (VoR w B) vr vs)(N1:(DI vr).Nodup)(N2:(Da vr).Nodup)(hn:n<=4194304)(hpn:∀ x∈vr,x.n<=4194304∧∀ y∈x.irs,y.n<=4194304)(hk1:1<=k0)(hk2:kVo k0 vr<=40000000):
  Calls prog 39 #[.slice a n cap,.int .i64 ((k0:Nat):Int)] w fun e w'=>e=.returned (.int .i64 ((kVo k0 vr:Nat):Int))∧MkV w' a vr k0∧Chg ((AC a).toList++vbl vr) w w':=by
 have ho:=RV.sl.len;rcases RV.own with⟨rfl,rfl,rfl⟩ | ⟨vb,rfl,hB,h0,h8,c,hc,hs,_⟩
 ·obtain rfl:=Zt ho;go_enter func39,ntmps39
  go_wp2_with fail
  go_rounds 1
  go_returns;exact⟨rfl,fun j x hx=>(by simp at hx),Chg.refl _ _⟩
 ·have h2:Hid (∀ j x,vr[j]?=some x->c[j*4+3]?=some (.slice x.a x.n x.c)):=fun j x hx=>by
   obtain⟨b,o,e,hq⟩:=RV.sl.cell j x hx
   cases e
   have:=hq 3 _ rfl
   rw[hc.cell] at this;simpa using this
  have hV:Hid (∀ x∈vr,∃ v,VoR w B x v):=fun x hx=>bE_ AL hx
  have hO:Hid (∀ x∈vr,(∀ ad,x.a=some ad->ad.block≠vb)∧∀ y∈x.irs,∀ ad,y.a=some ad->ad.block≠vb):=fun x hx=>by
   obtain⟨v,hv⟩:=hV.out x hx;refine⟨fun ad e=>eK_ hv.rows RV (by decide) e rfl,fun y hy ad e=>?_⟩;obtain⟨t,ht⟩:=bE_ hv.its hy;exact eK_ ht.ps RV (by decide) e rfl
  have hX:Hid (∀ x∈vr,(ibl x.irs).Nodup):=fun x hx=>by
   obtain⟨l1,l2,e⟩:=List.append_of_mem hx;have h3:=N2;rw[e] at h3;unfold Da at h3;rw[ZQ,ZF] at h3;exact (Yf.1 (Yf.1 h3).2.1).1
  have hZ:Hid (∀ i,kVo k0 (vr.take i)<=40000000):=fun i=>Zl (pa_ i) hk2;have hY:Hid (∀ i,1<=kVo k0 (vr.take i)):=fun i=>Zl hk1 (jJ_ _ _);obtain⟨kE,hM⟩:∃ kE,Hid (kVo k0 vr=kE):=⟨_,rfl⟩;rw[hM.out];go_enter func39,ntmps39
  go_wp2_with fail
  go_loopw [1,5] (fun kk ix wr=>∃ (i:Nat) (c':Array Value),i<=n∧ix=.int .i64 i∧kk=.int .i64 ((kVo k0 (vr.take i):Nat):Int)∧Blk wr vb c' tV∧Hid (c'.size=c.size)∧Hid (∀ j x,vr[j]?=some x->c'[j*4+3]?=some (.slice x.a x.n x.c))∧Hid (∀ j,j<i->c'[j*4]?=some (.int .i64 ((kVo k0 (vr.take j):Nat):Int))∧c'[j*4+1]?=some (.string (Bf (kVo k0 (vr.take j)+1)))∧c'[j*4+2]?=some (.bool ((((kVo k0 (vr.take j):Nat):Int)+1+1) % 3==0)))∧Hid (∀ j x,j<i->vr[j]?=some x->MkI wr x.a x.irs (kVo k0 (vr.take j)+3))∧Chg (vb::vbl (vr.take i)) w wr) (fun _ ix _=>n-(intOf ix).toNat)
  case atStart=>exact⟨0,c,Zg _,rfl,rfl,hc,rfl,h2.out,fun j hj=>(by omega),fun j x hj=>(by omega),Chg.refl _ _⟩
  case round=>
   obtain⟨i,c',hi,rfl,rfl,ha,hL,hD,hl,hN,hC⟩:=hrel;by_cases hlt:i<n
   ·obtain⟨x,hx⟩:∃ x,vr[i]?=some x:=⟨vr[i]'(by omega),by simp⟩;have hu:=Zc hx;obtain⟨v,hv⟩:=hV.out x hu;have h7:i*4+3<c'.size:=by rw[hL.out,hs];have:=ZS 4 h0;omega
    have h9:(i:Int)<n:=by omega
    have qa:(0:Int)<=i:=by omega
    obtain⟨q,hq⟩:∃ q,Hid (kVo k0 (vr.take i)=q):=⟨_,rfl⟩;have qb:1<=q:=by rw[<-hq.out];exact hY.out i
    have hP:Hid (kVo k0 (vr.take (i+1))=kIt (q+3) x.irs):=by show _=_;rw[lp_ hx,hq.out]
    have hQ:kIt (q+3) x.irs<=40000000:=by rw[<-hP.out];exact hZ.out (i+1)
    have qc:q+3<=40000000:=Zl (jI_ _ _) hQ;have hT:=hpn x hu;rw[hq.out];obtain⟨v0,y0⟩:=ha.has (i:=i*4) (by omega);have f0:=ha.frozen (i*4)
    go_wp2_with fail
    refine (aR_ (q+1) _ (by omega) _ (by omega) (by omega)).mono ?_;rintro e w1 ⟨rfl,hA⟩;have b0:=ha.set (i*4) (.int .i64 ((q:Nat):Int));have hI:Chg [vb] wr w1:=(Chg.ofG (af_ (Yh _ _) _ _) (fun b e=>by cases e;simp)).trans (Chg.ofB hA);have b1:=b0.below hA;clear y0 f0 b0 hA;obtain⟨v1,y1⟩:=b1.has (i:=i*4+1) (by simp;omega);have f1:=b1.frozen (i*4+1);obtain⟨v2,y2⟩:=b1.has (i:=i*4+2) (by simp;omega);have f2:=b1.frozen (i*4+2);have y3:w1.cell? ⟨vb,i*4+3,none⟩=some (.slice x.a x.n x.c):=by rw[b1.cell,Za (by omega)];exact hD.out i x hx
    go_wp2_with fail
    rw[show ((q:Nat):Int)+1+1+1=((q+3:Nat):Int) by omega];have b2:=(b1.set (i*4+1) (.string (Bf (q+1)))).set (i*4+2) (.bool ((((q:Nat):Int)+1+1) % 3==0));have hw:Chg [vb] wr ((w1.setCell ⟨vb,i*4+1,none⟩ (.string (Bf (q+1)))).setCell ⟨vb,i*4+2,none⟩ (.bool ((((q:Nat):Int)+1+1) % 3==0))):=hI.trans (Chg.ofG (af_ (af_ (Yh _ _) _ _) _ _) (fun b e=>by cases e;simp));generalize (w1.setCell ⟨vb,i*4+1,none⟩ (.string (Bf (q+1)))).setCell ⟨vb,i*4+2,none⟩ (.bool ((((q:Nat):Int)+1+1) % 3==0))=W2 at *;clear y1 y2 y3 f1 f2 b1 hI;have hr:Chg (vb::vbl (vr.take i)) w W2:=hC.trans (hw.mono (by simp));obtain⟨he,hf⟩:=qj_ AL N1 N2 hx;obtain⟨hG,hH⟩:=hO.out x hu
    have hJ:=hv.rows.chg hr (fun ad e=>by
     simp only[Zn,not_or];exact⟨hG ad e,he ad e⟩)
    have IL2:=Ac.chgA hv.its hr (fun y hy ad e=>by
     simp only[Zn,not_or];exact⟨hH y hy ad e,hf y hy ad e⟩)
    refine (id_ B x.a x.n x.c (q+3) x.irs v.its W2 hJ IL2 (hX.out x hu) hT.1 hT.2 (by omega) hQ).mono ?_;rintro e w3 ⟨rfl,hK,hp⟩
    have hS:vb∉(AC x.a).toList++ibl x.irs:=fun hm=>by
     rcases Zs.1 hm with hm | hm
     ·cases hg:x.a with
      |none=>rw[hg] at hm;simp[AC] at hm
      |some ad=>rw[hg] at hm;simp[AC] at hm;exact hG ad hg hm.symm
     ·obtain⟨y,hy,e⟩:=YQ.1 hm
      cases hh:y.a with
      |none=>rw[hh] at e;cases e
      |some ad=>rw[hh] at e;exact hH y hy ad hh (Zi e)
    have b3:=hp.blk b2 hS
    have hW:Chg (vb::vbl (vr.take (i+1))) w w3:=(hr.mono (fun k hk=>by
     rw[lq_ hx];rcases Zn.1 hk with rfl | hk
     ·simp
     ·exact ZY _ (Yu _ hk))).trans (hp.mono (fun k hk=>by rw[lq_ hx];exact ZY _ (Ym _ hk)))
    have hE:∀ b,b∈vbl (vr.take i)->b∉(AC x.a).toList++ibl x.irs:=fun b hb hm=>by
     rcases Zs.1 hm with hm | hm
     ·cases hg:x.a with
      |none=>rw[hg] at hm;simp[AC] at hm
      |some ad=>rw[hg] at hm;simp[AC] at hm;exact he ad hg (hm▸hb)
     ·obtain⟨y,hy,e⟩:=YQ.1 hm
      cases hh:y.a with
      |none=>rw[hh] at e;cases e
      |some ad=>rw[hh] at e;exact hf y hy ad hh (by rw[show ad.block=b from Zi e];exact hb)
    have hF:Hid (∀ j z,j<i+1->vr[j]?=some z->MkI w3 z.a z.irs (kVo k0 (vr.take j)+3)):=fun j z hj hz=>by
     by_cases hji:j=i
     ·subst hji;obtain rfl:x=z:=Zi (hx.symm.trans hz);rw[hq.out];exact hK
     ·have h6:=Zc hz;have hU:z∈vr.take i:=Zc (i:=j) (by rw[Ya (by omega)];exact hz);obtain⟨h4,h5⟩:=hO.out z h6;have h1:=hN.out j z (by omega) hz;exact (h1.chg hw (fun ad e=>by simpa using h4 ad e) (fun y hy ad e=>by simpa using h5 y hy ad e)).chg hp (fun ad e=>hE _ (m3_ hU e)) (fun y hy ad e=>hE _ (m4_ hU hy e))
    clear hK hp hr hw ha b2 hJ IL2 he hf hG hH hS hE;obtain⟨qe,hR⟩:∃ qe,Hid (kIt (q+3) x.irs=qe):=⟨_,rfl⟩;rw[hR.out];go_wp2;go_roundw
    case rel=>
     refine⟨i+1,_,by omega,by go_num,?_,b3,by show _=_;simp[hL.out],?_,?_,hF,hW⟩
     ·rw[hP.out,hR.out]
     ·intro j z hz;rw[Za (by omega),Za (by omega),Za (by omega)];exact hD.out j z hz
     ·intro j hj;by_cases hji:j=i
      ·subst hji;refine⟨?_,?_,?_⟩
       ·rw[Za (by omega),Za (by omega),Zh (by omega),hq.out]
       ·rw[Za (by omega),Zh (by simp;omega),hq.out]
       ·rw[Zh (by simp;omega),hq.out]
      ·obtain⟨r0,r1,r2⟩:=hl.out j (by omega);refine⟨?_,?_,?_⟩
       all_goals (rw[Za (by omega),Za (by omega),Za (by omega)];assumption)
    case measure=>simp[intOf];omega
   ·obtain rfl:i=n:=by omega
    have ht:vr.take i=vr:=Zk (by omega);rw[ht] at hC ⊢;rw[hM.out];go_wp2;go_returns;refine⟨rfl,fun j x hx=>?_,hC⟩;have hj:j<i:=by rw[<-ho];exact (Zb.1 hx).1
    obtain⟨r0,r1,r2⟩:=hl.out j hj;exact⟨vb,rfl,by rw[ha.cell];exact r0,by rw[ha.cell];exact r1,by rw[ha.cell];exact r2,by rw[ha.cell];exact hD.out j x hx,hN.out j x hj hx⟩
theorem iA_ (a:Option Addr)(n cap k0:Nat)(vr:List VQ)(w:World)(h:MkV w a vr k0)(hlen:vr.length=n)(hil:∀ x∈vr,x.irs.length=x.n)(hn:n<=4194304)(hpn:∀ x∈vr,x.n<=4194304∧∀ y∈x.irs,y.n<=4194304)(hk1:1<=k0)(hk2:kVo k0 vr<=40000000):
  Calls prog 42 #[.slice a n cap,.int .i64 ((k0:Nat):Int)] w fun e w'=>e=.returned (.int .i64 ((kVo k0 vr:Nat):Int))∧Below w.heap.size w w':=by
 have hr:Hid (∀ i,kVo k0 (vr.take i)<=40000000):=fun i=>Zl (pa_ i) hk2;have hp:Hid (∀ i,1<=kVo k0 (vr.take i)):=fun i=>Zl hk1 (jJ_ _ _);obtain⟨kE,hc⟩:∃ kE,Hid (kVo k0 vr=kE):=⟨_,rfl⟩;rw[hc.out];go_enter func42,ntmps42
 go_wp2_with fail
 go_loopw [1,5] (fun kk ix wr=>∃ (i:Nat),i<=n∧ix=.int .i64 i∧kk=.int .i64 ((kVo k0 (vr.take i):Nat):Int)∧Below w.heap.size w wr) (fun _ ix _=>n-(intOf ix).toNat)
 case atStart=>exact⟨0,Zg _,rfl,rfl,Yg _ _⟩
 case round=>
  obtain⟨i,hi,rfl,rfl,hB⟩:=hrel;by_cases hlt:i<n
  ·obtain⟨x,hx⟩:∃ x,vr[i]?=some x:=⟨vr[i]'(by omega),by simp⟩;have hg:=Zc hx;obtain⟨b,rfl,c0,c1,c2,c3,hm⟩:=h i x hx;have hv:(i:Int)<n:=by omega
   have hw:(0:Int)<=i:=by omega
   obtain⟨q,hq⟩:∃ q,Hid (kVo k0 (vr.take i)=q):=⟨_,rfl⟩;have hy:1<=q:=by rw[<-hq.out];exact hp.out i
   have he:Hid (kVo k0 (vr.take (i+1))=kIt (q+3) x.irs):=by show _=_;rw[lp_ hx,hq.out]
   have hf:kIt (q+3) x.irs<=40000000:=by rw[<-he.out];exact hr.out (i+1)
   have hz:q+3<=40000000:=Zl (jI_ _ _) hf;have hh:=hpn x hg;rw[hq.out] at c0 c1 c2 hm ⊢;replace c0:=Ab hB c0;replace c1:=Ab hB c1;replace c2:=Ab hB c2;replace c3:=Ab hB c3;replace hm:=hm.below hB;have e0:(((q:Nat):Int) != ((q:Nat):Int))=false:=by simp
   have e1:(!((Bf (q+1)).toList==(Bf (q+1)).toList))=false:=by simp
   go_wp2_with fail
   have g1:=Ad c1;have hs:=aA_ wr;refine ab_ (by kernel_rfl) (by kernel_rfl) ?_
   repeat (go_big_quiet_step (first | (go_at_call 47;exact an_ (aR_ (q+1) (((q:Nat):Int)+1) (by omega) _ (by omega) (by omega)))))
   refine wpQuiet_nil ?_;intro w2 hj;have ha:=ah_ hj;clear hj g1 hs e1;replace c2:=Ab ha c2;replace c3:=Ab ha c3;replace hm:=hm.below ha;have hl:=Aa hB ha
   go_wp2_with fail
   rw[show ((q:Nat):Int)+1+1+1=((q+3:Nat):Int) by omega];refine (ie_ x.a x.n x.c (q+3) x.irs w2 hm (hil x hg) hh.1 hh.2 (by omega) hf).mono ?_;rintro e w3 ⟨rfl,hk⟩;have ho:=Aa hl hk;obtain⟨qq,hb⟩:∃ qq:Int,((kIt (q+3) x.irs:Nat):Int)=qq:=⟨_,rfl⟩;have hu:Hid (((kIt (q+3) x.irs:Nat):Int)=qq):=hb;have hA:0<=qq:=by omega
   have hC:¬ qq<0:=by omega
   have hD:qq<=40000000:=by omega
   rw[hb];clear hb;go_wp2;go_roundw
   case rel=>exact⟨i+1,by omega,by go_num,by rw[<-hu.out,he.out],ho⟩
   case measure=>simp[intOf];omega
  ·obtain rfl:i=n:=by omega
   have ht:vr.take i=vr:=Zk (by omega);rw[ht,hc.out];go_wp2;go_returns;exact⟨rfl,hB⟩
def nVs (vs:List Vo):Nat:=(vs.map fun v=>3+(v.its.map fun x=>1+3*x.ps.length).sum).sum
theorem qk_ (h:Al2 (ItR w B) irs its):(irs.map fun x=>1+3*x.n).sum=(its.map fun x=>1+3*x.ps.length).sum:=by
 induction h with
 |nil=>rfl
 |cons hr _ ih=>
  simp only[YD,List.sum_cons,ih];rw[<-hr.ps.sl.len]
theorem ql_ (h:Al2 (VoR w B) vr vs):kVo k0 vr=k0+nVs vs:=by
 unfold kVo nVs;congr 1
 induction h with
 |nil=>rfl
 |cons hr _ ih=>
  simp only[YD,List.sum_cons,ih];rw[qk_ hr.its]
structure Gb (p:Po):Prop where
 small:BZ p
 ex:p.ex.length<=60000
 vs:p.vs.length<=60000
 its:∀ v∈p.vs,v.its.length<=60000∧∀ x∈v.its,x.ps.length<=60000
 nv:nVs p.vs<=180000
 rf:p.rf.length<=60000
 lt:p.lt.length<=60000
structure FF (w:World)(v:Value)(k:Nat):Prop where
 out:∃ (s n:Int) (ea:Option Addr) (en ec:Nat) (va:Option Addr) (vn vc:Nat) (ra:Option Addr) (rn rc:Nat) (la:Option Addr) (ln lc:Nat) (vr:List VQ),v=.agg #[.int .i64 s,.int .i64 n,.slice ea en ec,.slice va vn vc,.slice ra rn rc,.slice la ln lc]∧
  MkE w ea en 1∧MkV w va vr (1+2*en)∧MkC w ra rn (kVo (1+2*en) vr)∧MkC w la ln (kVo (1+2*en) vr+4*rn)∧k=kVo (1+2*en) vr+4*rn+4*ln∧
  vr.length=vn∧(∀ x∈vr,x.irs.length=x.n)∧(∀ x∈vr,x.n<=4194304∧∀ y∈x.irs,y.n<=4194304)∧en<=60000∧vn<=60000∧rn<=60000∧ln<=60000∧kVo (1+2*en) vr<=400000
theorem FF.below {k:Nat}(h:FF w v k)(hb:Below w.heap.size w w'):FF w' v k:=by
 obtain⟨s,n,ea,en,ec,va,vn,vc,ra,rn,rc,la,ln,lc,vr,e,h1,h2,h3,h4,r⟩:=h.out;exact⟨s,n,ea,en,ec,va,vn,vc,ra,rn,rc,la,ln,lc,vr,e,h1.below hb,h2.below hb,h3.below hb,h4.below hb,r⟩
theorem c7_ (h:Ac cs sz t w B a n cap l)(h':Ac cs' sz' t' w B' a' n' cap' l')(ht:t≠t'):∀ ad,a=some ad->ad.block∉(AC a').toList:=fun ad e hm=>by
 cases ha:a' with
 |none=>rw[ha] at hm;simp[AC] at hm
 |some ad'=>rw[ha] at hm;simp[AC] at hm;exact eK_ h h' ht e ha hm
theorem dy_ (h:Ac cs sz t w B a n cap l)(AL:Al2 (VoR w B') vr vs)(h1:t≠tI)(h2:t≠tP):∀ ad,a=some ad->ad.block∉vbl vr:=fun ad e hm=>by
 rcases dx_ hm with⟨z,hz,az,ez,eb⟩ | ⟨z,hz,y,hy,ay,ey,eb⟩
 ·obtain⟨u,hu⟩:=bE_ AL hz;exact eK_ h hu.rows h1 e ez eb.symm
 ·obtain⟨u,hu⟩:=bE_ AL hz;obtain⟨t,ht⟩:=bE_ hu.its hy;exact eK_ h ht.ps h2 e ey eb.symm
theorem he_ (h:Chg L w w')(hL:∀ b∈L,B<=b)(hB:B<=w.heap.size):Below B w w':=⟨h.os,h.tape,h.output,h.size,fun k hk=>h.block k (by omega) (fun hm=>by have:=hL k hm;omega)⟩
theorem qm_ (AL:Al2 (VoR w B) vr vs):∀ b∈vbl vr,B<=b:=fun b hb=>by
 rcases dx_ hb with⟨z,hz,az,ez,rfl⟩ | ⟨z,hz,y,hy,ay,ey,rfl⟩
 ·obtain⟨u,hu⟩:=bE_ AL hz;exact (hu.rows.block az ez).1
 ·obtain⟨u,hu⟩:=bE_ AL hz;obtain⟨t,ht⟩:=bE_ hu.its hy;exact (ht.ps.block ay ey).1
theorem hf_ (h:Ac cs sz t w B a n cap l):∀ b∈(AC a).toList,B<=b:=fun b hb=>by
 cases ha:a with
 |none=>rw[ha] at hb;simp[AC] at hb
 |some ad=>rw[ha] at hb;simp[AC] at hb;subst hb;exact (h.block ad ha).1
theorem m5_ {R:α->β->Prop}(h:Al2 R l m){x:α}(hx:x∈l):∃ y∈m,R x y:=by
 induction h with
 |nil=>cases hx
 |cons hr _ ih=>
  rcases Zn.1 hx with rfl | hx
  ·exact⟨_,by simp,hr⟩
  ·obtain⟨y,hy,h⟩:=ih hx;exact⟨y,by simp[hy],h⟩
theorem MkE.chg (h:MkE w a n k0)(hc:Chg L w w')(hn:∀ ad,a=some ad->ad.block∉L):MkE w' a n k0:=fun j hj=>by
 obtain⟨b,ha,c0,c1⟩:=h j hj
 have:=hn _ ha
 exact⟨b,ha,hc.cell c0 this,hc.cell c1 this⟩
theorem MkC.chg (h:MkC w a n k0)(hc:Chg L w w')(hn:∀ ad,a=some ad->ad.block∉L):MkC w' a n k0:=fun j hj=>by
 obtain⟨b,ha,c0,c1,c2,c3⟩:=h j hj
 have:=hn _ ha
 exact⟨b,ha,hc.cell c0 this,hc.cell c1 this,hc.cell c2 this,hc.cell c3 this⟩
theorem m6_ (h:∀ x y,a=some x->a'=some y->x.block≠y.block):∀ ad,a=some ad->ad.block∉(AC a').toList:=fun ad e hm=>by
 cases ha:a' with
 |none=>rw[ha] at hm;simp[AC] at hm
 |some ad'=>rw[ha] at hm;simp[AC] at hm;exact h ad ad' e ha hm
theorem hg_ (h:Ac cs sz t w B a n cap l):∀ b∈(AC a).toList,b<w.heap.size:=fun b hb=>by
 cases ha:a with
 |none=>rw[ha] at hb;simp[AC] at hb
 |some ad=>rw[ha] at hb;simp[AC] at hb;subst hb;exact (h.block ad ha).2
theorem qn_ (AL:Al2 (VoR w B) vr vs):∀ b∈vbl vr,b<w.heap.size:=fun b hb=>by
 rcases dx_ hb with⟨z,hz,az,ez,rfl⟩ | ⟨z,hz,y,hy,ay,ey,rfl⟩
 ·obtain⟨u,hu⟩:=bE_ AL hz;exact (hu.rows.block az ez).2
 ·obtain⟨u,hu⟩:=bE_ AL hz;obtain⟨t,ht⟩:=bE_ hu.its hy;exact (ht.ps.block ay ey).2
structure Gx (B:Nat)(w:World)(v:Value)(p:Po):Prop where
 out:∃ ea en ec va vn vc ra rn rc la ln lc vr,v=.agg #[.int .i64 p.size,.int .i64 p.next,.slice ea en ec,.slice va vn vc,.slice ra rn rc,.slice la ln lc]∧
  Ac Ex.cs 2 tE w B ea en ec p.ex∧Ac VQ.cs 4 tV w B va vn vc vr∧Ac Ct.cs 4 tC w B ra rn rc p.rf∧Ac Ct.cs 4 tC w B la ln lc p.lt∧
  (∀ x y,ra=some x->la=some y->0<rc->0<lc->x.block≠y.block)∧Al2 (VoR w B) vr p.vs∧(DI vr).Nodup∧(Da vr).Nodup
theorem pc_ {c':Nat}(R:Ac cs 4 t w B a n c l)(R':Ac cs' 4 t' w B' a' n' c' l')(h:∀ x y,a=some x->a'=some y->0<c->0<c'->x.block≠y.block)(h0:0<c∨0<c'):∀ x y,a=some x->a'=some y->x.block≠y.block:=fun x y hx hy e=>by
 rcases R.own with⟨q,_⟩ | ⟨b,q,_,_,_,d,hd,hs,_⟩
 ·rw[q] at hx;cases hx
 rcases R'.own with⟨q',_⟩ | ⟨b',q',_,_,_,d',ha,hc,_⟩
 ·rw[q'] at hy;cases hy
 have e1:x=⟨b,0,none⟩:=Zi (hx.symm.trans q);have e2:y=⟨b',0,none⟩:=Zi (hy.symm.trans q');have hb:b=b':=by rw[e1,e2] at e;exact e
 subst hb;unfold Blk at hd ha;rw[hd] at ha;injection ha with e3;injection e3 with e4;rw[<-e4] at hc;exact h x y hx hy (by omega) (by omega) e
def En (n:Nat)(a:Option Addr):List Nat:=if n=0 then [] else (AC a).toList
theorem a1_ (h:b∈En n a):b∈(AC a).toList:=by
 unfold En at h;split at h
 ·cases h
 ·exact h
theorem Ep (B:Nat)(a:Option Addr)(n cap k0:Nat)(l:List Ct)(w:World)(h:Ac Ct.cs 4 tC w B a n cap l)(hn:n<=4194304)(hk0:1<=k0∧k0<=50000000):
  Calls prog 40 #[.slice a n cap,.int .i64 ((k0:Nat):Int)] w fun e w'=>e=.returned (.int .i64 ((k0+4*n:Nat):Int))∧MkC w' a n k0∧Chg (En n a) w w':=by
 by_cases h0:n=0
 ·subst h0;go_enter func40,ntmps40
  go_wp2_with fail
  go_rounds 1
  go_returns;exact⟨rfl,fun j hj=>(by omega),rfl,rfl,rfl,Zd _,fun _ _ _=>rfl⟩
 ·refine (Gj B a n cap k0 l w h hn hk0).mono ?_;rintro e w' ⟨rfl,h1,h2⟩;refine⟨rfl,h1,?_⟩;rw[En,if_neg h0];exact jL_ h2
theorem Ee {kc:Array Value}{kb:Nat}{kt:TypeId}(h:Ac cs sz t w B a n cap l)(K:Blk w kb kc kt)(ht:t≠kt):kb∉(AC a).toList:=fun hm=>by
 rcases h.own with⟨q,_⟩ | ⟨b,q,_,_,_,d,hd,_⟩
 ·rw[q] at hm;simp[AC] at hm
 ·rw[q] at hm;simp[AC] at hm;subst hm;unfold Blk at hd K;rw[hd] at K;injection K with e;injection e with _ e2;exact ht e2
theorem Hs {kc:Array Value}{kb:Nat}{kt:TypeId}(AL:Al2 (VoR w B) vr vs)(K:Blk w kb kc kt)(h1:tI≠kt)(h2:tP≠kt):kb∉vbl vr:=fun hm=>by
 rcases dx_ hm with⟨z,hz,az,ez,e⟩ | ⟨z,hz,y,hy,ay,ey,e⟩
 ·obtain⟨u,hu⟩:=bE_ AL hz;exact Ee hu.rows K h1 (by rw[ez];simp[AC,e])
 ·obtain⟨u,hu⟩:=bE_ AL hz;obtain⟨t,ht⟩:=bE_ hu.its hy;exact Ee ht.ps K h2 (by rw[ey];simp[AC,e])
theorem ig_ (v:Value)(k:Nat)(w:World)(h:FF w v k):
  Calls prog 13 #[v,.int .i64 1] w fun e w'=>e=.returned (.int .i64 ((k:Nat):Int))∧Below w.heap.size w w':=by
 obtain⟨s,n,ea,en,ec,va,vn,vc,ra,rn,rc,la,ln,lc,vr,rfl,h1,h2,h3,h4,hk,hl,hh,hj,ho,hr,hq,hp,hK⟩:=h.out;have hb:Below w.heap.size w (w.alloc (.cells #[.int .i64 s,.int .i64 n,.slice ea en ec,.slice va vn vc,.slice ra rn rc,.slice la ln lc] 35)):=(Yg _ _).alloc (Zd _) _;have PB:=Blk.new w #[.int .i64 s,.int .i64 n,.slice ea en ec,.slice va vn vc,.slice ra rn rc,.slice la ln lc] 35;replace h1:=h1.below hb;replace h2:=h2.below hb;replace h3:=h3.below hb;replace h4:=h4.below hb;have hm:=jJ_ (1+2*en) vr;obtain⟨K2,hc⟩:∃ K,Hid (kVo (1+2*en) vr=K):=⟨_,rfl⟩;rw[hc.out] at h3 h4 hk hK hm;have hn:Hid (k=K2+4*rn+4*ln):=hk;have hg:Hid (vr.length=vn):=hl;have he:Hid (∀ x∈vr,x.irs.length=x.n):=hh;have hf:Hid (∀ x∈vr,x.n<=4194304∧∀ y∈x.irs,y.n<=4194304):=hj;clear hk hl hh hj;have q2:=fun (u:World) (hu:MkV u va vr (1+2*en))=>iA_ va vn vc (1+2*en) vr u hu hg.out he.out (by omega) hf.out (by omega) (by rw[hc.out];omega);rw[hc.out] at q2;go_enter func13,ntmps13
 go_wp2_with fail
 generalize w.alloc (.cells #[.int .i64 s,.int .i64 n,.slice ea en ec,.slice va vn vc,.slice ra rn rc,.slice la ln lc] 35)=W0 at *;refine (Gd ea en ec 1 W0 h1 (by omega) ⟨by omega,by omega⟩).mono ?_;rintro e w1 ⟨rfl,ha⟩;replace PB:=PB.below ha;replace h2:=h2.below ha;replace h3:=h3.below ha;replace h4:=h4.below ha;replace hb:=Aa hb ha;clear ha h1;have p3:=PB.cell 3;have n1:¬ (((1+2*en:Nat):Int)<0):=by omega
 go_wp2_with fail
 refine (q2 w1 h2).mono ?_;rintro e w2 ⟨rfl,ha⟩;replace PB:=PB.below ha;replace h3:=h3.below ha;replace h4:=h4.below ha;replace hb:=Aa hb ha;clear ha h2 p3 q2;have p4:=PB.cell 4;have n2:¬ (((K2:Nat):Int)<0):=by omega
 go_wp2_with fail
 refine (ET ra rn rc K2 w2 h3 (by omega) ⟨by omega,by omega⟩).mono ?_;rintro e w3 ⟨rfl,ha⟩;replace PB:=PB.below ha;replace h4:=h4.below ha;replace hb:=Aa hb ha;clear ha h3 p4;have p5:=PB.cell 5;have n3:¬ (((K2+4*rn:Nat):Int)<0):=by omega
 go_wp2_with fail
 refine (ET la ln lc (K2+4*rn) w3 h4 (by omega) ⟨by omega,by omega⟩).mono ?_;rintro e w4 ⟨rfl,ha⟩;replace hb:=Aa hb ha;clear ha h4 p5;have n4:¬ (((K2+4*rn+4*ln:Nat):Int)<0):=by omega
 rw[<-hn.out] at n4 ⊢;go_wp2;go_returns;exact⟨rfl,hb⟩
end
section
open Go Go.ChangeShapes Go.WideShapes Go.RowKit Go.BigFrame _root_.Go.Proofs.Tryz
variable{H:Type}{a_errAfter a_errBytes a_errFile a_errFixed a_errOp a_errParts a_errRoom a_errThere a_errVolume ep:Addr}{W W':World}
theorem Ht:prog.globalNamed "errors.errorType"=some 3:=by kernel_rfl
theorem rtL:(prog.cutTypes.find? (·.1=="internal/reflectlite.rtype")).map (·.2)=some 220:=by kernel_rfl
theorem Hq:prog.types.size=347:=by kernel_rfl
theorem Gl:((List.range 347).filter fun t=>prog.rowNamed t [101,114,114,111,114])=[64]:=by kernel_rfl
theorem ih_:prog.globalNamed "loop.example/g00336/impl.errPool"=some 0:=by kernel_rfl
theorem mt_:(prog.globals[0]?).map (·.type)=some 64:=by kernel_rfl
theorem lr_:prog.globalNamed "loop.example/g00336/impl.errOp"=some 1:=by kernel_rfl
theorem pd_:(prog.globals[1]?).map (·.type)=some 64:=by kernel_rfl
theorem gb_:prog.globalNamed "loop.example/g00336/impl.errVolume"=some 4:=by kernel_rfl
theorem jM_:(prog.globals[4]?).map (·.type)=some 64:=by kernel_rfl
theorem ii_:prog.globalNamed "loop.example/g00336/impl.errFile"=some 8:=by kernel_rfl
theorem mu_:(prog.globals[8]?).map (·.type)=some 64:=by kernel_rfl
theorem gO_:prog.globalNamed "loop.example/g00336/impl.errBytes"=some 9:=by kernel_rfl
theorem ls_:(prog.globals[9]?).map (·.type)=some 64:=by kernel_rfl
theorem gP_:prog.globalNamed "loop.example/g00336/impl.errThere"=some 6:=by kernel_rfl
theorem lt_:(prog.globals[6]?).map (·.type)=some 64:=by kernel_rfl
theorem gQ_:prog.globalNamed "loop.example/g00336/impl.errFixed"=some 5:=by kernel_rfl
theorem lu_:(prog.globals[5]?).map (·.type)=some 64:=by kernel_rfl
theorem ij_:prog.globalNamed "loop.example/g00336/impl.errRoom"=some 7:=by kernel_rfl
theorem mv_:(prog.globals[7]?).map (·.type)=some 64:=by kernel_rfl
theorem gR_:prog.globalNamed "loop.example/g00336/impl.errParts"=some 10:=by kernel_rfl
theorem lv_:(prog.globals[10]?).map (·.type)=some 64:=by kernel_rfl
theorem gS_:prog.globalNamed "loop.example/g00336/impl.errAfter"=some 2:=by kernel_rfl
theorem lw_:(prog.globals[2]?).map (·.type)=some 64:=by kernel_rfl
def CU:List (String×DataW Unit):=[("errors.errorType",Rows.laid_errors_errorType),("loop.example/g00336/impl.errPool",Rows.laid_loop_example_g00336_impl_errPool),("loop.example/g00336/impl.errOp",Rows.laid_loop_example_g00336_impl_errOp),("loop.example/g00336/impl.errVolume",Rows.laid_loop_example_g00336_impl_errVolume),("loop.example/g00336/impl.errFile",Rows.laid_loop_example_g00336_impl_errFile),("loop.example/g00336/impl.errBytes",Rows.laid_loop_example_g00336_impl_errBytes),("loop.example/g00336/impl.errThere",Rows.laid_loop_example_g00336_impl_errThere),("loop.example/g00336/impl.errFixed",Rows.laid_loop_example_g00336_impl_errFixed),("loop.example/g00336/impl.errRoom",Rows.laid_loop_example_g00336_impl_errRoom),("loop.example/g00336/impl.errParts",Rows.laid_loop_example_g00336_impl_errParts),("loop.example/g00336/impl.errAfter",Rows.laid_loop_example_g00336_impl_errAfter)]
def Ef:List (String×DataW Unit):=[("loop.example/g00336/impl.errPool",Rows.laid_loop_example_g00336_impl_errPool),("loop.example/g00336/impl.errOp",Rows.laid_loop_example_g00336_impl_errOp),("loop.example/g00336/impl.errVolume",Rows.laid_loop_example_g00336_impl_errVolume),("loop.example/g00336/impl.errFile",Rows.laid_loop_example_g00336_impl_errFile),("loop.example/g00336/impl.errBytes",Rows.laid_loop_example_g00336_impl_errBytes),("loop.example/g00336/impl.errThere",Rows.laid_loop_example_g00336_impl_errThere),("loop.example/g00336/impl.errFixed",Rows.laid_loop_example_g00336_impl_errFixed),("loop.example/g00336/impl.errRoom",Rows.laid_loop_example_g00336_impl_errRoom),("loop.example/g00336/impl.errParts",Rows.laid_loop_example_g00336_impl_errParts),("loop.example/g00336/impl.errAfter",Rows.laid_loop_example_g00336_impl_errAfter)]
theorem ik_ (h:laidMetH prog CU W):W.cell? ⟨3,0,none⟩=some (.iface 220 (.agg #[.pointer (some ⟨11,64,none⟩)])):=by
 have h':laidMet prog Ef W∧handlesMet prog [("errors.errorType",Rows.laid_errors_errorType)] W:=h;obtain⟨name,u,ty,e1,e2,e3,e4,e5⟩:=h'.2 _ (YP.2 rfl);have en:name=[101,114,114,111,114]:=(Zi e1).symm;subst en;obtain rfl:=Zi (rtL.symm.trans e2);have hm:ty∈(List.range 347).filter fun t=>prog.rowNamed t [101,114,114,111,114]:=YG.2 ⟨List.mem_range.2 (by rw[<-Hq];exact e3),e4⟩;rw[Gl] at hm;obtain rfl:=YP.1 hm;have hh:typeHandle prog 64=.pointer (some ⟨11,64,none⟩):=by kernel_rfl
 rw[hh] at e5;simpa using World.var?_cell Ht e5 0
structure Two (W:World)(n0 n1:String)(a0 a1:Addr):Prop where
 v0:W.var? prog n0=some #[.iface 315 (.pointer (some a0))]
 v1:W.var? prog n1=some #[.iface 315 (.pointer (some a1))]
 ne:a0≠a1
 b0:∃ c t,W.heap[a0.block]?=some (.cells c t (0,0))
 b1:∃ c t,W.heap[a1.block]?=some (.cells c t (0,0))
theorem Two.same {n0 n1 n2:String}{a0 a1 b0 b1:Addr}(h:Two W n0 n1 a0 a1)(h':Two W n0 n2 b0 b1):b0=a0:=by
 have e:=h.v0.symm.trans h'.v0;simp only[Zo,Array.mk.injEq,List.cons.injEq,Value.iface.injEq,Value.pointer.injEq,and_true,true_and] at e;exact e.symm
structure Ten (W:World)(ep:Addr)(a_errOp a_errVolume a_errFile a_errBytes a_errThere a_errFixed a_errRoom a_errParts a_errAfter:Addr):Prop where
 errOp:Two W "loop.example/g00336/impl.errPool" "loop.example/g00336/impl.errOp" ep a_errOp
 errVolume:Two W "loop.example/g00336/impl.errPool" "loop.example/g00336/impl.errVolume" ep a_errVolume
 errFile:Two W "loop.example/g00336/impl.errPool" "loop.example/g00336/impl.errFile" ep a_errFile
 errBytes:Two W "loop.example/g00336/impl.errPool" "loop.example/g00336/impl.errBytes" ep a_errBytes
 errThere:Two W "loop.example/g00336/impl.errPool" "loop.example/g00336/impl.errThere" ep a_errThere
 errFixed:Two W "loop.example/g00336/impl.errPool" "loop.example/g00336/impl.errFixed" ep a_errFixed
 errRoom:Two W "loop.example/g00336/impl.errPool" "loop.example/g00336/impl.errRoom" ep a_errRoom
 errParts:Two W "loop.example/g00336/impl.errPool" "loop.example/g00336/impl.errParts" ep a_errParts
 errAfter:Two W "loop.example/g00336/impl.errPool" "loop.example/g00336/impl.errAfter" ep a_errAfter
def Dg (l:List Addr)(a:Addr):Prop:=a∈l
theorem c8_ {n:String}{g:Nat}{a:Addr}(hg:prog.globalNamed n=some g)(h:W.var? prog n=some #[.iface 315 (.pointer (some a))]):BC W g a:=by
 unfold BC;simpa using World.var?_cell hg h 0
theorem Ten.errs (h:Ten W ep a_errOp a_errVolume a_errFile a_errBytes a_errThere a_errFixed a_errRoom a_errParts a_errAfter)(hL:laidMetH prog CU W):DT (Dg [a_errOp,a_errVolume,a_errFile,a_errBytes,a_errThere,a_errFixed,a_errRoom,a_errParts,a_errAfter]) ep W:=by
 refine⟨⟨⟨_,c8_ lr_ h.errOp.v1,by simp[Dg]⟩,⟨_,c8_ gb_ h.errVolume.v1,by simp[Dg]⟩,⟨_,c8_ ii_ h.errFile.v1,by simp[Dg]⟩,⟨_,c8_ gO_ h.errBytes.v1,by simp[Dg]⟩,⟨_,c8_ gP_ h.errThere.v1,by simp[Dg]⟩,⟨_,c8_ gQ_ h.errFixed.v1,by simp[Dg]⟩,⟨_,c8_ ij_ h.errRoom.v1,by simp[Dg]⟩,⟨_,c8_ gR_ h.errParts.v1,by simp[Dg]⟩,⟨_,c8_ gS_ h.errAfter.v1,by simp[Dg]⟩⟩,c8_ ih_ h.errOp.v0,fun a ha=>?_,h.errOp.b0,fun a ha=>?_,ik_ hL⟩
 ·simp only[Dg,Zn,List.not_mem_nil,or_false] at ha;rcases ha with rfl | rfl | rfl | rfl | rfl | rfl | rfl | rfl | rfl
  ·exact h.errOp.ne.symm
  ·exact h.errVolume.ne.symm
  ·exact h.errFile.ne.symm
  ·exact h.errBytes.ne.symm
  ·exact h.errThere.ne.symm
  ·exact h.errFixed.ne.symm
  ·exact h.errRoom.ne.symm
  ·exact h.errParts.ne.symm
  ·exact h.errAfter.ne.symm
 ·simp only[Dg,Zn,List.not_mem_nil,or_false] at ha;rcases ha with rfl | rfl | rfl | rfl | rfl | rfl | rfl | rfl | rfl
  ·exact h.errOp.b1
  ·exact h.errVolume.b1
  ·exact h.errFile.b1
  ·exact h.errBytes.b1
  ·exact h.errThere.b1
  ·exact h.errFixed.b1
  ·exact h.errRoom.b1
  ·exact h.errParts.b1
  ·exact h.errAfter.b1
theorem bw_ {n:String}{cs:Array Value}(h:W.var? prog n=some cs)(hb:Below W.heap.size W W'):W'.var? prog n=some cs:=by
 unfold World.var? at h ⊢
 cases hg:prog.globalNamed n with
 |none=>simp[hg] at h
 |some g=>
  simp only[hg,YO] at h ⊢
  have ha:g<W.heap.size:=by
   rcases Nat.lt_or_ge g W.heap.size with h' | h'
   ·exact h'
   ·simp[Array.getElem?_eq_none h'] at h
  rw[hb.block g ha];exact h
theorem il_ (enc:TypeId×Value->H)(sp:Nat->Bool):∀ (l:List (String×Nat×Addr)),(∀ x∈l,prog.globalNamed x.1=some x.2.1∧(prog.globals[x.2.1]?).map (·.type)=some 64∧W.var? prog x.1=some #[.iface 315 (.pointer (some x.2.2))])->DataW.TrodVars enc prog W sp (l.map (·.1)) (l.map (fun x=>tok enc (.iface 315 (.pointer (some x.2.2))))) (l.map (fun x=>.cell x.2.1 0))
 |[],_=>rfl
 |x::r,h=>by
  obtain⟨h1,h2,h3⟩:=h x (by simp);exact⟨x.2.1,64,_,1,[],_,h1,h2,h3,trod_held underlying64 (show IsIface (.iface 315 (.pointer (some x.2.2))) from trivial) 0,il_ enc sp r (fun y hy=>h y (by simp[hy])),rfl⟩
def FW (ep a_errOp a_errVolume a_errFile a_errBytes a_errThere a_errFixed a_errRoom a_errParts a_errAfter:Addr):List (String×Nat×Addr):=[("loop.example/g00336/impl.errPool",0,ep),("loop.example/g00336/impl.errOp",1,a_errOp),("loop.example/g00336/impl.errAfter",2,a_errAfter),("loop.example/g00336/impl.errVolume",4,a_errVolume),("loop.example/g00336/impl.errFixed",5,a_errFixed),("loop.example/g00336/impl.errThere",6,a_errThere),("loop.example/g00336/impl.errRoom",7,a_errRoom),("loop.example/g00336/impl.errParts",10,a_errParts),("loop.example/g00336/impl.errFile",8,a_errFile),("loop.example/g00336/impl.errBytes",9,a_errBytes)]
end
end Go.Proofs.YtbbhcnjhohidnaaGreatDoor
