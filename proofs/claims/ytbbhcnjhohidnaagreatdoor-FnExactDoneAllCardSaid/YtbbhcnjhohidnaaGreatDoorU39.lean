/- Marks of a pool, with the blocks that turn. -/
import Derived.Test.YtbbhcnjhohidnaaGreatDoorU38
set_option maxHeartbeats 20000000
set_option maxRecDepth 100000
namespace Go.Proofs.YtbbhcnjhohidnaaGreatDoor
open Go Go.RowKit Go.BigFrame _root_.Go.Proofs.Tryz
theorem HD (B:Nat)(v:Value)(p:Po)(wT:World)(h:Gx B wT v p)(hd:Gb p)(hB:B<=wT.heap.size) :
  Calls prog 12 #[v,.int .i64 1] wT fun e w'=>∃ k:Nat,e=.returned (.int .i64 ((k:Nat):Int))∧k<=1000000∧∃ L,Chg L wT w'∧(∀ b∈L,B<=b)∧(∀ kb kc kt,Blk wT kb kc kt->tE≠kt->tV≠kt->tC≠kt->tI≠kt->tP≠kt->kb∉L)∧∀ M w'',(∀ b∈M,b∉L)->Chg M w' w''->FF w'' v k:=by
 obtain⟨w,hj⟩:∃ w,w=wT:=⟨_,rfl⟩;have hW:Below wT.heap.size wT w:=by rw[hj];exact Yg _ _
 have hK:∀ {kb kc kt},Blk w kb kc kt->Blk wT kb kc kt:=fun h=>by rw[<-hj];exact h
 rw[<-hj];clear hj
 obtain⟨ea,en,ec,va,vn,vc,ra,rn,rc,la,ln,lc,vr,rfl,RE,RV,RR,RL,hA,AL,N1,N2⟩:=h.out;have hY:en<=60000:=by rw[<-RE.sl.len];exact hd.ex
 have h9:vn<=60000:=by rw[<-RV.sl.len,AL.len];exact hd.vs
 have h4:rn<=60000:=by rw[<-RR.sl.len];exact hd.rf
 have h3:ln<=60000:=by rw[<-RL.sl.len];exact hd.lt
 have hk:kVo (1+2*en) vr<=400000:=by rw[ql_ AL];have:=hd.nv;omega
 have h2:=jJ_ (1+2*en) vr;have h8:Hid (vr.length=vn):=RV.sl.len
 have h1:Hid (∀ x∈vr,x.irs.length=x.n):=fun x hx=>by
  obtain⟨u,hu⟩:=bE_ AL hx;exact hu.rows.sl.len
 have hD:Hid (∀ x∈vr,x.n<=4194304∧∀ y∈x.irs,y.n<=4194304):=fun x hx=>by
  obtain⟨u,h7,hu⟩:=m5_ AL hx;obtain⟨d1,d2⟩:=hd.its u h7;refine⟨by rw[<-hu.rows.sl.len,hu.its.len];omega,fun y hy=>?_⟩;obtain⟨t,h5,ht⟩:=m5_ hu.its hy
  have:=d2 t h5
  rw[<-ht.ps.sl.len];omega
 have hO:Hid (∀ b∈(AC ea).toList,b<wT.heap.size):=hg_ RE;have hQ:Hid (∀ b∈(AC va).toList++vbl vr,b<wT.heap.size):=fun b hb=>(Zs.1 hb).elim (hg_ RV b) (qn_ AL b);have hP:Hid (∀ b∈(AC ra).toList,b<wT.heap.size):=hg_ RR;have qa:Hid (∀ b∈(AC la).toList,b<wT.heap.size):=hg_ RL;have hs:=hf_ RE;have hz:∀ b∈(AC va).toList++vbl vr,B<=b:=fun b hb=>(Zs.1 hb).elim (hf_ RV b) (qm_ AL b);have hw:=hf_ RR;have hv:=hf_ RL;have hJ:∀ ad,ea=some ad->ad.block∉(AC va).toList++vbl vr:=fun ad e hm=>(Zs.1 hm).elim (c7_ RE RV (by decide) ad e) (dy_ RE AL (by decide) (by decide) ad e);have hT:∀ ad,ra=some ad->ad.block∉(AC va).toList++vbl vr:=fun ad e hm=>(Zs.1 hm).elim (c7_ RR RV (by decide) ad e) (dy_ RR AL (by decide) (by decide) ad e);have ho:∀ ad,la=some ad->ad.block∉(AC va).toList++vbl vr:=fun ad e hm=>(Zs.1 hm).elim (c7_ RL RV (by decide) ad e) (dy_ RL AL (by decide) (by decide) ad e);have hU:=c7_ RV RE (by decide);have hI:=c7_ RE RR (by decide);have hH:=c7_ RE RL (by decide);have hR:=c7_ RR RE (by decide);have hl:=c7_ RL RE (by decide);have hX:=c7_ RV RR (by decide);have hV:=c7_ RV RL (by decide)
 have hE:∀ b∈vbl vr,b∉(AC ea).toList:=fun b hb hm=>by
  cases ha:ea with
  |none=>rw[ha] at hm;simp[AC] at hm
  |some ad=>rw[ha] at hm;simp[AC] at hm;exact dy_ RE AL (by decide) (by decide) ad ha (hm▸hb)
 have hG:∀ b∈vbl vr,b∉(AC ra).toList:=fun b hb hm=>by
  cases ha:ra with
  |none=>rw[ha] at hm;simp[AC] at hm
  |some ad=>rw[ha] at hm;simp[AC] at hm;exact dy_ RR AL (by decide) (by decide) ad ha (hm▸hb)
 have hF:∀ b∈vbl vr,b∉(AC la).toList:=fun b hb hm=>by
  cases ha:la with
  |none=>rw[ha] at hm;simp[AC] at hm
  |some ad=>rw[ha] at hm;simp[AC] at hm;exact dy_ RL AL (by decide) (by decide) ad ha (hm▸hb)
 have qc:rn<=rc:=by rcases RR.own with⟨_,h,_⟩ | ⟨_,_,_,h,_⟩<;>omega
 have qb:ln<=lc:=by rcases RL.own with⟨_,h,_⟩ | ⟨_,_,_,h,_⟩<;>omega
 have hS:∀ ad,ra=some ad->ad.block∉En ln la:=fun ad e hm=>by
  by_cases h0:ln=0
  ·rw[En,if_pos h0] at hm;cases hm
  ·exact m6_ (pc_ RR RL hA (.inr (by omega))) ad e (a1_ hm)
 have hn:∀ ad,la=some ad->ad.block∉En rn ra:=fun ad e hm=>by
  by_cases h0:rn=0
  ·rw[En,if_pos h0] at hm;cases hm
  ·exact m6_ (fun x y hx hy=>(pc_ RR RL hA (.inl (by omega)) y x hy hx).symm) ad e (a1_ hm)
 obtain⟨L,hL⟩:∃ L,Hid (L=(AC ea).toList++(((AC va).toList++vbl vr)++((AC ra).toList++(AC la).toList))):=⟨_,rfl⟩
 have h6:∀ kb kc kt,Blk wT kb kc kt->tE≠kt->tV≠kt->tC≠kt->tI≠kt->tP≠kt->kb∉L:=fun kb kc kt K a1 a2 a3 a4 a5 hm=>by
  rw[hL.out] at hm;simp only[Zs] at hm
  rcases hm with hm | (hm | hm) | hm | hm
  ·exact Ee RE K a1 hm
  ·exact Ee RV K a2 hm
  ·exact Hs AL K a4 a5 hm
  ·exact Ee RR K a3 hm
  ·exact Ee RL K a3 hm
 have hZ:∀ b∈L,B<=b:=fun b hm=>by
  rw[hL.out] at hm;simp only[Zs] at hm
  rcases hm with hm | hm | hm | hm
  ·exact hs b hm
  ·exact hz b (Zs.2 hm)
  ·exact hw b hm
  ·exact hv b hm
 have qh:=hW.size;have hf:Below w.heap.size w (w.alloc (.cells #[.int .i64 p.size,.int .i64 p.next,.slice ea en ec,.slice va vn vc,.slice ra rn rc,.slice la ln lc] 35)):=(Yg _ _).alloc (Zd _) _;have PB:=Blk.new w #[.int .i64 p.size,.int .i64 p.next,.slice ea en ec,.slice va vn vc,.slice ra rn rc,.slice la ln lc] 35;have hh:=Aa hW hf;have CL:Chg L w _:=Chg.ofB hf;replace RE:=RE.below hh;replace RV:=RV.below hh;replace RR:=RR.below hh;replace RL:=RL.below hh;replace AL:Al2 (VoR _ B) vr p.vs:=AL.imp fun _ _ _ h=>h.below hh;obtain⟨K2,he⟩:∃ K,Hid (kVo (1+2*en) vr=K):=⟨_,rfl⟩;rw[he.out] at hk h2;go_enter func12,ntmps12
 go_wp2_with fail
 generalize w.alloc (.cells #[.int .i64 p.size,.int .i64 p.next,.slice ea en ec,.slice va vn vc,.slice ra rn rc,.slice la ln lc] 35)=W0 at *;have hq:Below B w W0:=hf.mono (by omega);have qd:=hf.size;refine (F7 B ea en ec 1 p.ex W0 RE (by omega) ⟨by omega,by omega⟩).mono ?_;rintro e w1 ⟨rfl,hc,hC⟩;have C1:=jL_ hC;replace RV:=RV.chg C1 hU;replace RR:=RR.chg C1 hR;replace RL:=RL.chg C1 hl;replace AL:Al2 (VoR w1 B) vr p.vs:=AL.imp fun x hx _ hr=>⟨hr.id,hr.nm,hr.fx,hr.rows.chg C1 (fun ad e=>hE _ (m3_ hx e)),Ac.chgA hr.its C1 (fun y hy ad e=>hE _ (m4_ hx hy e))⟩;replace PB:=C1.blk PB (fun hm=>by have:=hO.out _ hm;omega);replace CL:=CL.trans (C1.mono (fun k hk=>by rw[hL.out];exact Yu _ hk));have b1:=hq.trans (he_ C1 hs (by omega));have qe:=b1.size;clear hC C1 RE hf hq;have p3:=PB.cell 3;have q2:=iz_ B va vn vc (1+2*en) vr p.vs w1 RV AL N1 N2 (by omega) hD.out (by omega) (by rw[he.out];omega);rw[he.out] at q2
 go_wp2_with fail
 refine q2.mono ?_;rintro e w2 ⟨rfl,hg,C2⟩;replace hc:=hc.chg C2 hJ;replace RR:=RR.chg C2 hT;replace RL:=RL.chg C2 ho;replace PB:=C2.blk PB (fun hm=>by have:=hQ.out _ hm;omega);replace CL:=CL.trans (C2.mono (fun k hk=>by rw[hL.out];exact Ym _ (Yu _ hk)));replace b1:=b1.trans (he_ C2 hz (by omega));have qf:=b1.size;clear q2 C2 p3 RV AL;have p4:=PB.cell 4
 go_wp2_with fail
 refine (Ep B ra rn rc K2 p.rf w2 RR (by omega) ⟨by omega,by omega⟩).mono ?_;rintro e w3 ⟨rfl,hp,C3⟩;replace hc:=hc.chg C3 (fun ad e hm=>hI ad e (a1_ hm));replace hg:=hg.chg C3 (fun ad e hm=>hX ad e (a1_ hm)) (fun x hx ad e hm=>hG _ (m3_ hx e) (a1_ hm)) (fun x hx y hy ad e hm=>hG _ (m4_ hx hy e) (a1_ hm));replace RL:=RL.chg C3 hn;replace PB:=C3.blk PB (fun hm=>by have:=hP.out _ (a1_ hm);omega);replace CL:=CL.trans (C3.mono (fun k hk=>by rw[hL.out];exact Ym _ (Ym _ (Yu _ (a1_ hk)))));replace b1:=b1.trans (he_ C3 (fun b hb=>hw b (a1_ hb)) (by omega));have qg:=b1.size;clear C3 p4 RR;have p5:=PB.cell 5
 go_wp2_with fail
 refine (Ep B la ln lc (K2+4*rn) p.lt w3 RL (by omega) ⟨by omega,by omega⟩).mono ?_;rintro e w4 ⟨rfl,hN,C4⟩;replace hc:=hc.chg C4 (fun ad e hm=>hH ad e (a1_ hm));replace hg:=hg.chg C4 (fun ad e hm=>hV ad e (a1_ hm)) (fun x hx ad e hm=>hF _ (m3_ hx e) (a1_ hm)) (fun x hx y hy ad e hm=>hF _ (m4_ hx hy e) (a1_ hm));replace hp:=hp.chg C4 hS;replace b1:=b1.trans (he_ C4 (fun b hb=>hv b (a1_ hb)) (by omega));replace CL:=CL.trans (C4.mono (fun k hk=>by rw[hL.out];exact Ym _ (Ym _ (Ym _ (a1_ hk)))));clear C4 p5 RL;go_wp2;go_returns;refine⟨K2+4*rn+4*ln,rfl,by omega,L,CL,hZ,(fun kb kc kt K=>h6 kb kc kt (hK K)),fun M w'' hM CM=>⟨p.size,p.next,ea,en,ec,va,vn,vc,ra,rn,rc,la,ln,lc,vr,rfl,hc.chg CM (fun ad e hm=>hM _ hm (by rw[hL.out];exact Yu _ (by rw[e];simp[AC]))),hg.chg CM (fun ad e hm=>hM _ hm (by rw[hL.out];exact Ym _ (Yu _ (Yu _ (by rw[e];simp[AC]))))) (fun x hx ad e hm=>hM _ hm (by rw[hL.out];exact Ym _ (Yu _ (Ym _ (m3_ hx e))))) (fun x hx y hy ad e hm=>hM _ hm (by rw[hL.out];exact Ym _ (Yu _ (Ym _ (m4_ hx hy e))))),?_,?_,?_,h8.out,h1.out,hD.out,hY,h9,h4,h3,?_⟩⟩
 ·rw[he.out];exact hp.chg CM (fun ad e hm=>hM _ hm (by rw[hL.out];exact Ym _ (Ym _ (Yu _ (by rw[e];simp[AC])))))
 ·rw[he.out];exact hN.chg CM (fun ad e hm=>hM _ hm (by rw[hL.out];exact Ym _ (Ym _ (Ym _ (by rw[e];simp[AC])))))
 ·rw[he.out]
 ·rw[he.out];exact hk
theorem HA (B:Nat)(hB0:0<B)(v:Value)(p:Po)(w0 w1:World)(h:AA B w0 v p)(hs:BZ p)(hK:Kp B w0 w1) :
  Calls prog 12 #[v,.int .i64 1] w1 fun e w'=>(∃ k':Int,e=.returned (.int .i64 k')∧1<=k'∧k'<=4500000000000000000)∧Kp B w0 w'∧Fr B w0.heap.size w1 w':=by
 obtain⟨ea,en,ec,va,vn,vc,ra,rn,rc,la,ln,lc,rfl,⟨h1,k1,s1⟩,⟨h2,k2⟩,⟨h3,k3,s3⟩,h4,k4,s4⟩:=h;have he:∀ v∈p.vs,v.its.length<=1048576∧∀ x∈v.its,x.ps.length<=1048576:=fun v hv=>⟨(hs.2.1.2 v hv).2.1,fun x hx=>((hs.2.1.2 v hv).2.2 x hx).2⟩;obtain⟨d1,d2,d3,d4,d5⟩:=hs.dims;rw[h1.len] at d1;rw[h2.len] at d2;rw[h3.len] at d4;rw[h4.len] at d5;have C:=(Blk.new w1 #[.int .i64 p.size,.int .i64 p.next,.slice ea en ec,.slice va vn vc,.slice ra rn rc,.slice la ln lc] 35);have ha:Below w1.heap.size w1 (w1.alloc (.cells #[.int .i64 p.size,.int .i64 p.next,.slice ea en ec,.slice va vn vc,.slice ra rn rc,.slice la ln lc] 35)):=by go_grown
 have K1:=hK.below ha;have F1:=(Fr.refl B w0.heap.size w1).below ha;have hT:=hK.size;go_enter func12,ntmps12
 go_wp2_with fail
 generalize w1.alloc (.cells #[.int .i64 p.size,.int .i64 p.next,.slice ea en ec,.slice va vn vc,.slice ra rn rc,.slice la ln lc] 35)=W0 at *;have hf:=C.lt;refine (gx_ B hB0 ea en ec p.ex 1 w0 _ h1 s1 K1 (by omega) (by omega) (by omega)).mono ?_;rintro e w2 ⟨⟨k5,rfl,a1,a2⟩,K2,F2⟩;have C2:Blk w2 w1.heap.size #[.int .i64 p.size,.int .i64 p.next,.slice ea en ec,.slice va vn vc,.slice ra rn rc,.slice la ln lc] 35:=(F2.blk _ hf (.inr hT)).trans C;replace F2:=F1.trans F2;clear K1 F1 C ha;have x3:=C2.cell 3;simp only[lgA,lgB,lgC] at x3;have hb:=C2.lt
 go_wp2_with fail
 refine (gy_ B hB0 va vn vc p.vs k5 w0 _ h2 K2 d2 he (by omega) (by omega)).mono ?_;rintro e w3 ⟨⟨k6,rfl,a3,a4⟩,K3,F3⟩;have C3:Blk w3 w1.heap.size #[.int .i64 p.size,.int .i64 p.next,.slice ea en ec,.slice va vn vc,.slice ra rn rc,.slice la ln lc] 35:=(F3.blk _ hb (.inr hT)).trans C2;replace F3:=F2.trans F3;clear K2 F2 C2 x3;have x4:=C3.cell 4;simp only[lgA,lgB,lgC] at x4;have hc:=C3.lt
 go_wp2_with fail
 refine (cP_ B hB0 ra rn rc p.rf k6 w0 _ h3 s3 K3 (by omega) (by omega) (by omega)).mono ?_;rintro e w4 ⟨⟨k7,rfl,a5,a6⟩,K4,F4⟩;have C4:Blk w4 w1.heap.size #[.int .i64 p.size,.int .i64 p.next,.slice ea en ec,.slice va vn vc,.slice ra rn rc,.slice la ln lc] 35:=(F4.blk _ hc (.inr hT)).trans C3;replace F4:=F3.trans F4;clear K3 F3 C3 x4;have x5:=C4.cell 5;simp only[lgA,lgB,lgC] at x5
 go_wp2_with fail
 refine (cP_ B hB0 la ln lc p.lt k7 w0 _ h4 s4 K4 (by omega) (by omega) (by omega)).mono ?_;rintro e w5 ⟨⟨k8,rfl,a7,a8⟩,K5,F5⟩;replace F5:=F4.trans F5;go_wp2;go_returns;exact⟨⟨k8,rfl,by omega,by omega⟩,K5,F5⟩
def DM (x:Po×List Int) (o:Opr):Po×List Int:=((opS x.1 o).2,x.2++[(opS x.1 o).1])
def goA (p:Po) (l:List Opr):Po×List Int:=l.foldl DM (p,[])
def Co (p:Po) (l:List Opr):Po×List Int:=if Aj p=true∧l.length<=100 then goA p l else (⟨0,0,[],[],[],[]⟩,[])
theorem Fo {p:Po} {o:Opr} (hp:Aj p=true):Aj (opS p o).2=true:=by
 unfold opS
 split
 ·split
  ·exact le_ hp
  ·split
   ·split
    ·assumption
    ·exact hp
   ·exact hp
 ·exact hp
theorem FA (p:Po) (l:List Opr) (o:Opr):goA p (l++[o])=DM (goA p l) o:=by simp [goA]
theorem Ey {p:Po} {l:List Opr} {k:Nat} {o:Opr} (h:l[k]?=some o):goA p (l.take (k+1))=DM (goA p (l.take k)) o:=by
 rw [ZK,h]
 exact FA _ _ _
theorem Dz:∀ (l:List Opr) (x:Po×List Int),Aj x.1=true->Aj (l.foldl DM x).1=true
 |[],_,h=>h
 |o::l,x,h=>Dz l (DM x o) (Fo h)
theorem C9 {p:Po} (hp:Aj p=true) (l:List Opr):Aj (goA p l).1=true:=Dz l (p,[]) hp
theorem Ax.u {p:Po} (h:Ax p):G1 p:=by
 obtain ⟨h1,_,h3,h4,h5,_,h7,_⟩:=h
 exact ⟨h1,h3,h5,h7,fun v hv=>⟨(h4 v hv).2.1,fun y hy=>((h4 v hv).2.2 y hy).2⟩⟩
theorem Bw.tyI {B:Nat} {w w':World} {v:Value} {p:Po} {row:Option Nat} (h:Bw B w v p) (hg:w.grownBy w' row) (hr:Bt w row 2):Bw B w' v p:=by
 obtain ⟨rows,ea,en,ec,va,vn,vc,ra,rn,rc,la,ln,lc,hv,h1,⟨h2,h3⟩,h4,h5,h6,h7,h8⟩:=h
 exact ⟨rows,ea,en,ec,va,vn,vc,ra,rn,rc,la,ln,lc,hv,h1.ty hg hr (by decide),⟨h2.ty hg hr (by decide),h3.ty hg hr (by decide) (by decide)⟩,h4.ty hg hr (by decide),h5.ty hg hr (by decide),h6,h7,kp_ h3 h8 hg hr (by decide)⟩
theorem Ac.own_ge {α:Type} {cs:α->List Value} {sz:Nat} {t:TypeId} {w:World} {B:Nat} {a:Option Addr} {n cap m k:Nat} {l:List α} (h:Ac cs sz t w B a n cap l) (j:Nat) (e:Value.ownBlock (.slice a m k)=some j):B<=j:=by
 obtain ⟨x,hx,rfl⟩:=aO_.1 (gm_ e)
 exact (h.block x hx).1
theorem Gu:Ax ⟨0,0,[],[],[],[]⟩:=⟨by simp,fun e h=>(by cases h),by simp,fun e h=>(by cases h),by simp,fun e h=>(by cases h),by simp,fun e h=>(by cases h)⟩
theorem D0 (S:Addr->Prop) (ep:Addr) (B0:Nat) (hB0:0<B0) (v:Value) (p:Po) (a:Option Addr) (n cap:Nat) (l:List Opr) (w:World) (h:AA B0 w v p) (hd:Ax p) (hl:As opC 9 w a n l) (hstr:∀ o∈l,Bu o) (hn:n<=4194304) (hE:DT S ep w) (hgl:11<=w.heap.size) :
  Calls prog 17 #[v,.slice a n cap] w fun e w'=>(∃ v' a' n' cap',e=.returned (.tuple #[v',.slice a' n' cap'])∧Bw w.heap.size w' v' (Co p l).1∧Ac iC 1 2 w' w.heap.size a' n' cap' (Co p l).2∧Ax (Co p l).1)∧Below w.heap.size w w':=by
 have hQ:=h
 obtain ⟨ea,en,ec,va,vn,vc,ra,rn,rc,la,ln,lc,rfl,_⟩:=h
 obtain ⟨R,hR⟩:∃ R,Hid (Co p l=R):=⟨_,rfl⟩
 rw [hR.out]
 have he:Hid (l.length=n):=hl.len
 obtain ⟨W0,hj⟩:∃ W,W=(w.alloc (.cells #[.int .i64 p.size,.int .i64 p.next,.slice ea en ec,.slice va vn vc,.slice ra rn rc,.slice la ln lc] 35)).alloc (.cells #[.int .i64 0,.int .i64 0,.slice none 0 0,.slice none 0 0,.slice none 0 0,.slice none 0 0] 35):=⟨_,rfl⟩
 have hF:Below w.heap.size w W0:=by rw [hj];go_grown
 have D:Blk W0 (w.heap.size+1) #[.int .i64 0,.int .i64 0,.slice none 0 0,.slice none 0 0,.slice none 0 0,.slice none 0 0] 35:=by rw [hj];exact Blk.new' _ _ _ _ (by simp)
 have C:Blk W0 w.heap.size #[.int .i64 p.size,.int .i64 p.next,.slice ea en ec,.slice va vn vc,.slice ra rn rc,.slice la ln lc] 35:=by rw [hj];exact (Blk.new w _ _).alloc _
 go_enter func17,ntmps17
 go_wp2_with fail
 rw [<-hj]
 clear hj
 refine (ch_ B0 _ p _ (hQ.below hF) hd).mono ?_
 rintro e w1 ⟨rfl,hw⟩
 replace C:=C.below hw
 replace D:=D.below hw
 have hB:=Aa hF hw
 clear hw hF
 have qb:=D.lt
 by_cases hgo:Aj p=true∧n<=100
 ·obtain ⟨hp,hZ⟩:=hgo
  have hb:Hid (R=goA p l):=by show _=_;rw [<-hR.out,Co,if_pos ⟨hp,by rw [he.out];exact hZ⟩]
  clear hR
  rw [hp]
  have h0:¬ (100:Int)<(n:Int):=by omega
  obtain ⟨d0,d1,d2,d3,d4,d5⟩:=C.six
  go_wp2_with fail
  refine (ff_ B0 hB0 _ p w1 (hQ.below hB) hd.u).mono ?_
  rintro e w2 ⟨⟨v2,rows2,rfl,U2⟩,hx⟩
  obtain ⟨ea2,en2,ec2,va2,vn2,vc2,ra2,rn2,rc2,la2,ln2,lc2,rfl⟩:=U2.t.at'.cells
  have hs:Below w2.heap.size w2 (w2.alloc (.cells #[.int .i64 p.size,.int .i64 p.next,.slice ea2 en2 ec2,.slice va2 vn2 vc2,.slice ra2 rn2 rc2,.slice la2 ln2 lc2] 35)):=(Yg _ _).alloc (Zd _) _
  obtain ⟨xb,hC⟩:∃ b,b=w2.heap.size:=⟨_,rfl⟩
  have X:Blk (w2.alloc (.cells #[.int .i64 p.size,.int .i64 p.next,.slice ea2 en2 ec2,.slice va2 vn2 vc2,.slice ra2 rn2 rc2,.slice la2 ln2 lc2] 35)) xb #[.int .i64 p.size,.int .i64 p.next,.slice ea2 en2 ec2,.slice va2 vn2 vc2,.slice ra2 rn2 rc2,.slice la2 ln2 lc2] 35:=Blk.new' _ _ _ _ hC
  have h5:Hid (w.heap.size+1<xb):=by show _<_;rw [hC];have:=hx.size;omega
  have P0:Bw w.heap.size (w2.alloc (.cells #[.int .i64 p.size,.int .i64 p.next,.slice ea2 en2 ec2,.slice va2 vn2 vc2,.slice ra2 rn2 rc2,.slice la2 ln2 lc2] 35)) (.agg #[.int .i64 p.size,.int .i64 p.next,.slice ea2 en2 ec2,.slice va2 vn2 vc2,.slice ra2 rn2 rc2,.slice la2 ln2 lc2]) p:=⟨rows2,(U2.mono hB.size).below hs⟩
  replace D:=(D.below hx).below hs
  replace hB:=Aa (Aa hB hx) hs
  clear d0 d1 d2 d3 d4 d5 hx hs U2 C
  go_wp2_with fail
  rw [<-hC]
  clear hC
  generalize w2.alloc (.cells #[.int .i64 p.size,.int .i64 p.next,.slice ea2 en2 ec2,.slice va2 vn2 vc2,.slice ra2 rn2 rc2,.slice la2 ln2 lc2] 35)=W2 at *
  go_loopw [7,25] (fun cs ix wr=>∃ (k:Nat) (q:Po) (ea3:Option Addr) (en3 ec3:Nat) (va3:Option Addr) (vn3 vc3:Nat) (ra3:Option Addr) (rn3 rc3:Nat) (la3:Option Addr) (ln3 lc3:Nat) (ca:Option Addr) (cc:Nat) (cl:List Int),k<=n∧ix=.int .i64 k∧cs=.slice ca k cc∧Hid (goA p (l.take k)=(q,cl))∧Blk wr xb #[.int .i64 q.size,.int .i64 q.next,.slice ea3 en3 ec3,.slice va3 vn3 vc3,.slice ra3 rn3 rc3,.slice la3 ln3 lc3] 35∧Bw w.heap.size wr (.agg #[.int .i64 q.size,.int .i64 q.next,.slice ea3 en3 ec3,.slice va3 vn3 vc3,.slice ra3 rn3 rc3,.slice la3 ln3 lc3]) q∧Ax q∧Ac iC 1 2 wr w.heap.size ca k cc cl∧Blk wr (w.heap.size+1) #[.int .i64 0,.int .i64 0,.slice none 0 0,.slice none 0 0,.slice none 0 0,.slice none 0 0] 35∧Below w.heap.size w wr) (fun _ ix _=>n-(intOf ix).toNat)
  case atStart=>exact ⟨0,p,ea2,en2,ec2,va2,vn2,vc2,ra2,rn2,rc2,la2,ln2,lc2,none,0,[],Zg _,rfl,rfl,rfl,X,P0,hd,aB_,D,hB⟩
  case round=>
   clear X P0 D hB
   obtain ⟨k,q,ea3,en3,ec3,va3,vn3,vc3,ra3,rn3,rc3,la3,ln3,lc3,ca,cc,cl,hk,rfl,rfl,hI,X,P,hV,RC,D,hB⟩:=hrel
   by_cases hlt:k<n
   ·obtain ⟨b,o,p1,rfl,hJ,c0,c1,c2,c3,c4,c5,c6,c7,c8⟩:=Dx (hl.below hB) hlt
    have h2:=hstr p1 (Zc hJ)
    have hq:=C9 hp (l.take k)
    rw [hI.out] at hq
    have hT:Hid (goA p (l.take (k+1))=((opS q p1).2,cl++[(opS q p1).1])):=by show _=_;rw [Ey hJ,hI.out];rfl
    have hU:CN q p1=opS q p1:=by simp only [CN];rw [if_pos hq]
    have hz:=fun (B0:Nat) (v:Value) (u:World) (hv:AA B0 u v q) (hB:0<B0) (hE:DT S ep u) (hg:11<=u.heap.size)=>nV_ S ep B0 hB v q p1 u hv hV h2 hE hg
    simp only [hU] at hz
    obtain ⟨⟨c1',q1⟩,hS⟩:∃ R,Hid (opS q p1=R):=⟨_,rfl⟩
    simp only [hS.out] at hz hT
    clear hJ hq hU hS
    have qc:(k:Int)<n:=by omega
    have qd:(0:Int)<=k:=by omega
    have hA:Below wr.heap.size wr (wr.alloc (.cells #[.int .i64 p1.k,.string p1.vol,.string p1.file,.string p1.to,.string p1.into,.int .i64 p1.at',.int .i64 p1.fr,.int .i64 p1.ln,.string p1.data] 39)):=(Yg _ _).alloc (Zd _) _
    obtain ⟨d0,d1,d2,d3,d4,d5⟩:=(X.below hA).six
    go_wp2_with fail
    refine (hz w.heap.size _ _ (P.t.at'.below hA) (by omega) (hE.below (Aa hB hA)) (Zl hgl (Aa hB hA).size)).mono ?_
    rintro e w3 ⟨⟨v3,cz,rfl,rfl,P3,hY⟩,hN⟩
    obtain ⟨ea4,en4,ec4,va4,vn4,vc4,ra4,rn4,rc4,la4,ln4,lc4,rfl⟩:=P3.t.at'.cells
    have hG:=Aa hA hN
    have hH:Below w3.heap.size w3 (w3.alloc (.cells #[.int .i64 q1.size,.int .i64 q1.next,.slice ea4 en4 ec4,.slice va4 vn4 vc4,.slice ra4 rn4 rc4,.slice la4 ln4 lc4] 35)):=(Yg _ _).alloc (Zd _) _
    have hu:=Aa hG hH
    have h3:=hG.size
    have h4:=hB.size
    replace P3:=(P3.below hH).mono (Zl h4 hA.size)
    have T4:=Blk.new w3 #[.int .i64 q1.size,.int .i64 q1.next,.slice ea4 en4 ec4,.slice va4 vn4 vc4,.slice ra4 rn4 rc4,.slice la4 ln4 lc4] 35
    have X4:=X.below hu
    have hM:=RC.below hu
    have D4:=D.below hu
    have hO:=Aa hB hu
    have h7:=X.lt
    clear hN hG d0 d1 d2 d3 d4 d5 c0 c1 c2 c3 c4 c5 c6 c7 c8 hz hA hH P
    obtain ⟨t0,t1,t2,t3,t4,t5⟩:=T4.six
    obtain ⟨x0,x1,x2,x3,x4,x5⟩:=X4.six
    obtain ⟨f0,f1,f2,f3,f4,f5⟩:=fz6 X4
    go_upto_region 10 with fail
    obtain ⟨U,ha,X5,ho⟩:=AT X4 (.int .i64 q1.size) (.int .i64 q1.next) (.slice ea4 en4 ec4) (.slice va4 vn4 vc4) (.slice ra4 rn4 rc4) (.slice la4 ln4 lc4)
    have h6:=h5.out
    have hP:=ao_ hO ho (by omega)
    have P5:=P3.put (Zd _) ho X4
    have hD:=hM.ty ho (aa_ X4) (by decide)
    have D5:=D4.grown ho (by simp only [ne_eq];omega)
    rw [<-ha]
    clear ha ho X4 hM D4 T4 hO P3 t0 t1 t2 t3 t4 t5 x0 x1 x2 x3 x4 x5 f0 f1 f2 f3 f4 f5 X RC D hB
    have hr:(prog.info? 2).map (fun i=>(i.zero,i.size,i.bytes))=some (some (.int .i64 0),1,8):=by kernel_rfl
    obtain ⟨i0,hi,h8,h9,qa⟩:=info_parts hr
    have qe:=hP.size
    go_wp2_with (at_builtin;refine ag_ rfl (fun K hK=>ay_ _ _ 46 rfl w.heap.size 2 i0 (.int .i64 0) 8 underlying46 hi h8 h9 qa rfl (by decide) mw_ my_ ca k cc cl rfl (hD.alloc _) _ 1 1 [cz] rfl (j3_ _ _ _ _ (by simp)) (fun ad h=>(by cases h;rfl)) (fun h=>(by cases h)) (k+1) rfl (by unfold maxLen;omega) (by omega) (by simp;omega) (fun a3 cap3 w6 R6 hy=>hK _ _ ?_)))
    have hf:Below U.heap.size U (U.alloc (.cells #[.int .i64 cz] 2)):=(Yg _ _).alloc (Zd _) _
    have hL:=(hD.below hf).rowTy (m:=k) (k:=cc)
    have X6:=(X5.below hf).ty hy hL (by decide)
    have D6:=(D5.below hf).ty hy hL (by decide)
    have P6:=(P5.below hf).tyI hy hL
    have hX:=jc_ (Aa hP hf) hy (fun j e=>hD.own_ge j e)
    go_roundw
    case rel=>exact ⟨k+1,q1,ea4,en4,ec4,va4,vn4,vc4,ra4,rn4,rc4,la4,ln4,lc4,a3,cap3,_,by omega,by go_num,rfl,hT,X6,P6,hY,R6,D6,hX⟩
    case measure=>simp [intOf];omega
   ·obtain rfl:k=n:=by omega
    have ht:l.take k=l:=Zk (by rw [he.out];exact Zd _)
    rw [ht,<-hb.out] at hI
    obtain ⟨d0,d1,d2,d3,d4,d5⟩:=X.six
    obtain ⟨x0,x1,x2,x3,x4,x5⟩:=D.six
    obtain ⟨f0,f1,f2,f3,f4,f5⟩:=fz6 D
    go_wp2
    obtain ⟨W8,ha,E8,hc⟩:=AT D (.int .i64 q.size) (.int .i64 q.next) (.slice ea3 en3 ec3) (.slice va3 vn3 vc3) (.slice ra3 rn3 rc3) (.slice la3 ln3 lc3)
    have hh:=ao_ hB hc (by omega)
    have P8:=P.put (Zd _) hc D
    have hW:=RC.ty hc (aa_ D) (by decide)
    rw [<-ha]
    clear ha
    refine YW (ad_ rfl _ W8 (w.heap.size+1) _ _ _ _ _ rfl E8 underlying35 rfl (by kernel_rfl) rfl) rfl ?_
    rw [hI.out]
    exact ⟨⟨_,ca,k,cc,rfl,P8,hW,hV⟩,hh⟩
 ·have hb:Hid (R=(⟨0,0,[],[],[],[]⟩,[])):=by show _=_;rw [<-hR.out,Co,if_neg (by rw [he.out];exact hgo)]
  clear hR
  obtain ⟨x0,x1,x2,x3,x4,x5⟩:=D.six
  obtain ⟨f0,f1,f2,f3,f4,f5⟩:=fz6 D
  have hm:∀ u:World,Bw w.heap.size u (.agg #[.int .i64 0,.int .i64 0,.slice none 0 0,.slice none 0 0,.slice none 0 0,.slice none 0 0]) R.1:=fun u=>by
   rw [hb.out]
   exact ⟨[],none,0,0,none,0,0,none,0,0,none,0,0,rfl,aB_,⟨aB_,rfl,fun i r y h=>by simp at h⟩,aB_,aB_,(fun x y h=>(by cases h)),(fun i j r s x y _ h=>(by simp at h)),List.nodup_nil⟩
  cases h1:Aj p
  ·go_wp2
   obtain ⟨W8,ha,E8,hc⟩:=AT D (.int .i64 0) (.int .i64 0) (.slice none 0 0) (.slice none 0 0) (.slice none 0 0) (.slice none 0 0)
   have hh:=ao_ hB hc (by omega)
   rw [<-ha]
   clear ha
   refine YW (ad_ rfl _ W8 (w.heap.size+1) _ _ _ _ _ rfl E8 underlying35 rfl (by kernel_rfl) rfl) rfl ?_
   exact ⟨⟨_,none,0,0,rfl,hm W8,by rw [hb.out];exact aB_,by rw [hb.out];exact Gu⟩,hh⟩
  ·have h0:(100:Int)<(n:Int):=by simp [h1] at hgo;omega
   go_wp2
   obtain ⟨W8,ha,E8,hc⟩:=AT D (.int .i64 0) (.int .i64 0) (.slice none 0 0) (.slice none 0 0) (.slice none 0 0) (.slice none 0 0)
   have hh:=ao_ hB hc (by omega)
   rw [<-ha]
   clear ha
   refine YW (ad_ rfl _ W8 (w.heap.size+1) _ _ _ _ _ rfl E8 underlying35 rfl (by kernel_rfl) rfl) rfl ?_
   exact ⟨⟨_,none,0,0,rfl,hm W8,by rw [hb.out];exact aB_,by rw [hb.out];exact Gu⟩,hh⟩
theorem Ai.tyI {B:Nat} {w w':World} {v:Value} {p:Po} {row:Option Nat} (h:Ai B w v p) (hg:w.grownBy w' row) (hr:Bt w row 2):Ai B w' v p:=by
 obtain ⟨ea,en,ec,va,vn,vc,ra,rn,rc,la,ln,lc,rows,hv,h1,⟨h2,h3⟩,h4,h5,h6⟩:=h
 exact ⟨ea,en,ec,va,vn,vc,ra,rn,rc,la,ln,lc,rows,hv,h1.ty hg hr (by decide),⟨h2.ty hg hr (by decide),h3.ty hg hr (by decide) (by decide)⟩,h4.ty hg hr (by decide),h5.ty hg hr (by decide),h6⟩
theorem Ea (B0:Nat) (hB0:0<B0) (v:Value) (p:Po) (a:Option Addr) (n cap:Nat) (l:List Opr) (w:World) (h:AA B0 w v p) (hd:Ax p) (hl:As opC 9 w a n l) (hstr:∀ o∈l,Bu o) (hn:n<=4194304) (hw0:0<w.heap.size) :
  Calls prog 15 #[v,.slice a n cap] w fun e w'=>(∃ v' a' n' cap',e=.returned (.tuple #[v',.slice a' n' cap'])∧Ai w.heap.size w' v' (Co p l).1∧Ac iC 1 2 w' w.heap.size a' n' cap' (Co p l).2∧Ax (Co p l).1)∧Below w.heap.size w w':=by
 have h0:=h
 obtain ⟨ea,en,ec,va,vn,vc,ra,rn,rc,la,ln,lc,rfl,_⟩:=h
 obtain ⟨R,hR⟩:∃ R,Hid (Co p l=R):=⟨_,rfl⟩
 rw [hR.out]
 have hg:Hid (l.length=n):=hl.len
 obtain ⟨W0,hx⟩:∃ W,W=(w.alloc (.cells #[.int .i64 p.size,.int .i64 p.next,.slice ea en ec,.slice va vn vc,.slice ra rn rc,.slice la ln lc] 35)).alloc (.cells #[.int .i64 0,.int .i64 0,.slice none 0 0,.slice none 0 0,.slice none 0 0,.slice none 0 0] 35):=⟨_,rfl⟩
 have hQ:Below w.heap.size w W0:=by rw [hx];go_grown
 have D:Blk W0 (w.heap.size+1) #[.int .i64 0,.int .i64 0,.slice none 0 0,.slice none 0 0,.slice none 0 0,.slice none 0 0] 35:=by rw [hx];exact Blk.new' _ _ _ _ (by simp)
 have C:Blk W0 w.heap.size #[.int .i64 p.size,.int .i64 p.next,.slice ea en ec,.slice va vn vc,.slice ra rn rc,.slice la ln lc] 35:=by rw [hx];exact (Blk.new w _ _).alloc _
 go_enter func15,ntmps15
 go_wp2_with fail
 rw [<-hx]
 clear hx
 refine (ep_ B0 hB0 _ p _ (h0.below hQ) hd).mono ?_
 rintro e w1 ⟨rfl,hH⟩
 replace C:=C.below hH
 replace D:=D.below hH
 have hB:=Aa hQ hH
 clear hH hQ
 have qk:=D.lt
 by_cases hgo:Aj p=true∧n<=100
 ·obtain ⟨hp,h8⟩:=hgo
  have hc:Hid (R=goA p l):=by show _=_;rw [<-hR.out,Co,if_pos ⟨hp,by rw [hg.out];exact h8⟩]
  clear hR
  rw [hp]
  have h9:¬ (100:Int)<(n:Int):=by omega
  obtain ⟨d0,d1,d2,d3,d4,d5⟩:=C.six
  go_wp2_with fail
  refine (aW_ B0 hB0 _ p w1 (h0.below hB) hd).mono ?_
  rintro e w2 ⟨⟨v2,rfl,U2,_⟩,hJ⟩
  obtain ⟨ea2,en2,ec2,va2,vn2,vc2,ra2,rn2,rc2,la2,ln2,lc2,rfl⟩:=U2.at'.cells
  have hG:Below w2.heap.size w2 (w2.alloc (.cells #[.int .i64 p.size,.int .i64 p.next,.slice ea2 en2 ec2,.slice va2 vn2 vc2,.slice ra2 rn2 rc2,.slice la2 ln2 lc2] 35)):=(Yg _ _).alloc (Zd _) _
  obtain ⟨xb,hF⟩:∃ b,b=w2.heap.size:=⟨_,rfl⟩
  have X:Blk (w2.alloc (.cells #[.int .i64 p.size,.int .i64 p.next,.slice ea2 en2 ec2,.slice va2 vn2 vc2,.slice ra2 rn2 rc2,.slice la2 ln2 lc2] 35)) xb #[.int .i64 p.size,.int .i64 p.next,.slice ea2 en2 ec2,.slice va2 vn2 vc2,.slice ra2 rn2 rc2,.slice la2 ln2 lc2] 35:=Blk.new' _ _ _ _ hF
  have qd:Hid (w.heap.size+1<xb):=by show _<_;rw [hF];have:=hJ.size;omega
  have P0:Ai w.heap.size (w2.alloc (.cells #[.int .i64 p.size,.int .i64 p.next,.slice ea2 en2 ec2,.slice va2 vn2 vc2,.slice ra2 rn2 rc2,.slice la2 ln2 lc2] 35)) (.agg #[.int .i64 p.size,.int .i64 p.next,.slice ea2 en2 ec2,.slice va2 vn2 vc2,.slice ra2 rn2 rc2,.slice la2 ln2 lc2]) p:=(U2.mono hB.size).below hG
  replace D:=(D.below hJ).below hG
  replace hB:=Aa (Aa hB hJ) hG
  have qb:(w2.alloc (.cells #[.int .i64 p.size,.int .i64 p.next,.slice ea2 en2 ec2,.slice va2 vn2 vc2,.slice ra2 rn2 rc2,.slice la2 ln2 lc2] 35)).heap.size=w2.heap.size+1:=by simp
  clear d0 d1 d2 d3 d4 d5 hJ hG U2 C
  go_wp2_with fail
  rw [<-hF]
  have h5:Hid (xb=w2.heap.size):=hF
  clear hF
  generalize w2.alloc (.cells #[.int .i64 p.size,.int .i64 p.next,.slice ea2 en2 ec2,.slice va2 vn2 vc2,.slice ra2 rn2 rc2,.slice la2 ln2 lc2] 35)=W2 at *
  have hj:Below W2.heap.size W2 (W2.alloc (.cells #[] 2)):=(Yg _ _).alloc (Zd _) _
  have E0:Blk (W2.alloc (.cells #[] 2)) (xb+1) #[] 2:=Blk.new' _ _ _ _ (by have:=h5.out;omega)
  have hW:Ac iC 1 2 (W2.alloc (.cells #[] 2)) w.heap.size (some ⟨xb+1,0,none⟩) 0 0 []:=aw_ E0 (by have:=hB.size;have:=h5.out;omega)
  replace X:=X.below hj
  replace P0:=P0.below hj
  replace D:=D.below hj
  replace hB:=Aa hB hj
  generalize W2.alloc (.cells #[] 2)=W3 at *
  clear hj E0 qb
  go_loopw [7,8] (fun cs ix wr=>∃ (k:Nat) (q:Po) (ea3:Option Addr) (en3 ec3:Nat) (va3:Option Addr) (vn3 vc3:Nat) (ra3:Option Addr) (rn3 rc3:Nat) (la3:Option Addr) (ln3 lc3:Nat) (ca:Option Addr) (cc:Nat) (cl:List Int),k<=n∧ix=.int .i64 k∧cs=.slice ca k cc∧Hid (goA p (l.take k)=(q,cl))∧Blk wr xb #[.int .i64 q.size,.int .i64 q.next,.slice ea3 en3 ec3,.slice va3 vn3 vc3,.slice ra3 rn3 rc3,.slice la3 ln3 lc3] 35∧Ai w.heap.size wr (.agg #[.int .i64 q.size,.int .i64 q.next,.slice ea3 en3 ec3,.slice va3 vn3 vc3,.slice ra3 rn3 rc3,.slice la3 ln3 lc3]) q∧Ax q∧Ac iC 1 2 wr w.heap.size ca k cc cl∧Blk wr (w.heap.size+1) #[.int .i64 0,.int .i64 0,.slice none 0 0,.slice none 0 0,.slice none 0 0,.slice none 0 0] 35∧Below w.heap.size w wr) (fun _ ix _=>n-(intOf ix).toNat)
  case atStart=>exact ⟨0,p,ea2,en2,ec2,va2,vn2,vc2,ra2,rn2,rc2,la2,ln2,lc2,_,0,[],Zg _,rfl,rfl,rfl,X,P0,hd,hW,D,hB⟩
  case round=>
   clear X P0 D hB hW
   obtain ⟨k,q,ea3,en3,ec3,va3,vn3,vc3,ra3,rn3,rc3,la3,ln3,lc3,ca,cc,cl,hk,rfl,rfl,hI,X,P,h3,RC,D,hB⟩:=hrel
   by_cases hlt:k<n
   ·obtain ⟨b,o,p1,rfl,hU,c0,c1,c2,c3,c4,c5,c6,c7,c8⟩:=Dx (hl.below hB) hlt
    have qc:=hstr p1 (Zc hU)
    have hq:=C9 hp (l.take k)
    rw [hI.out] at hq
    have hT:Hid (goA p (l.take (k+1))=((opS q p1).2,cl++[(opS q p1).1])):=by show _=_;rw [Ey hU,hI.out];rfl
    have hO:=fun (B0:Nat) (v:Value) (u:World) (hv:AA B0 u v q) (hB:0<B0)=>k6_ B0 hB v q p1 u hv h3 hq qc
    obtain ⟨⟨c1',q1⟩,h1⟩:∃ R,Hid (opS q p1=R):=⟨_,rfl⟩
    simp only [h1.out] at hO hT
    clear hU hq h1
    have qm:(k:Int)<n:=by omega
    have qn:(0:Int)<=k:=by omega
    obtain ⟨d0,d1,d2,d3,d4,d5⟩:=X.six
    have qq:=hB.size
    have qf:=X.lt
    go_wp2_with fail
    refine Dw (fun u=>u.cell? ⟨xb,0,none⟩=some (.int .i64 q.size)∧u.cell? ⟨xb,1,none⟩=some (.int .i64 q.next)∧u.cell? ⟨xb,2,none⟩=some (.slice ea3 en3 ec3)∧u.cell? ⟨xb,3,none⟩=some (.slice va3 vn3 vc3)∧u.cell? ⟨xb,4,none⟩=some (.slice ra3 rn3 rc3)∧u.cell? ⟨xb,5,none⟩=some (.slice la3 ln3 lc3)∧u.cell? ⟨b,o+k*9,none⟩=some (.int .i64 p1.k)∧u.cell? ⟨b,o+k*9+1,none⟩=some (.string p1.vol)∧u.cell? ⟨b,o+k*9+2,none⟩=some (.string p1.file)∧u.cell? ⟨b,o+k*9+3,none⟩=some (.string p1.to)∧u.cell? ⟨b,o+k*9+4,none⟩=some (.string p1.into)∧u.cell? ⟨b,o+k*9+5,none⟩=some (.int .i64 p1.at')∧u.cell? ⟨b,o+k*9+6,none⟩=some (.int .i64 p1.fr)∧u.cell? ⟨b,o+k*9+7,none⟩=some (.int .i64 p1.ln)∧u.cell? ⟨b,o+k*9+8,none⟩=some (.string p1.data)) 12 [30,31,32,33,34,35,29,36,37,9,10] (PhQ 9 10 c1' q1 wr fun u v=>Ai w.heap.size u v q1∧Ax q1) (fun u hu=>⟨Ab hu d0,Ab hu d1,Ab hu d2,Ab hu d3,Ab hu d4,Ab hu d5,Ab hu c0,Ab hu c1,Ab hu c2,Ab hu c3,Ab hu c4,Ab hu c5,Ab hu c6,Ab hu c7,Ab hu c8⟩) ?walk9 ?rest9
    case walk9=>
     intro hh u0 hL ql
     refine tkc 0 ?_
     refine tkc 1 ?_
     refine tkc 2 ?_
     refine tkc 3 ?_
     refine tkc 4 ?_
     refine HE 5 9 (fun K hK=>?_) (fun K hK=>?_)
     ·skip
      go_simp
      refine (hO w.heap.size _ u0 ((P.at').below hL) (by omega)).mono ?_
      rintro e u1 ⟨⟨v3,cz,rfl,rfl,R3,hz⟩,h2⟩
      obtain ⟨a,b1,d,e,f,g,i,j,k',l',m,n',rfl⟩:=R3.at'.cells
      have he:=Aa hL h2
      have qj:=hL.size
      dsimp only
      refine hK.out _ _ (hh u1 he) (fun hHeld=>?_)
      clear hK K
      try simp only [Act.put,lsA,lsB,lsC]
      refine tkc 6 ?_
      refine tkc 7 ?_
      refine tkc 8 ?_
      refine EZ 9 fun K hK=>?_
      go_simp
      obtain ⟨ab,u2,ha,hu,AB,hM,hs,hy⟩:=al6 he
      rw [<-hu,<-ha]
      clear hu ha
      replace R3:=R3.below hM
      refine hK.out _ _ (hh _ hs) (fun hHeld=>?_)
      clear hK K
      try simp only [Act.put,lsA,lsB,lsC]
      obtain ⟨t0,t1,t2,t3,t4,t5⟩:=AB.six
      obtain ⟨f0,f1,f2,f3,f4,f5⟩:=fz6 AB
      refine EZ 10 fun K hK=>?_
      go_simp
      obtain ⟨u9,hS,E9,hD⟩:=AT AB (.int .i64 q1.size) (.int .i64 q1.next) (.slice a b1 d) (.slice e f g) (.slice i j k') (.slice l' m n')
      rw [<-hS]
      have hw:=ao_ hs hD hy.out
      have R9:Ai w.heap.size u9 _ q1∧Ax q1:=⟨(R3.tyP hD (aa_ AB)).mono (by omega),hz⟩
      refine hK.out _ _ (hh _ hw) (fun hHeld=>?_)
      clear hK K
      try simp only [Act.put,lsA,lsB,lsC]
      refine tkc 11 ?_
      refine wpAnyH_done (by kernel_rfl) ?_ _
      exact GE E9 R9 hw hy
     ·skip
      go_simp
      obtain ⟨ab,u1,ha,hu,AB,h2,he,hy⟩:=al6 hL
      rw [<-hu,<-ha]
      clear hu ha
      refine hK.out _ _ (hh _ he) (fun hHeld=>?_)
      clear hK K
      try simp only [Act.put,lsA,lsB,lsC]
      refine EZ 5 fun K hK=>?_
      go_simp
      refine (hO w.heap.size _ u1 ((P.at').below he) (by omega)).mono ?_
      rintro e u2 ⟨⟨v3,cz,rfl,rfl,R3,hz⟩,hM⟩
      obtain ⟨a,b1,d,e,f,g,i,j,k',l',m,n',rfl⟩:=R3.at'.cells
      have hs:=Aa he hM
      have qj:=he.size
      replace AB:=AB.below hM
      dsimp only
      refine hK.out _ _ (hh u2 hs) (fun hHeld=>?_)
      clear hK K
      try simp only [Act.put,lsA,lsB,lsC]
      refine tkc 6 ?_
      refine tkc 7 ?_
      refine tkc 8 ?_
      obtain ⟨t0,t1,t2,t3,t4,t5⟩:=AB.six
      obtain ⟨f0,f1,f2,f3,f4,f5⟩:=fz6 AB
      refine EZ 10 fun K hK=>?_
      go_simp
      obtain ⟨u9,hS,E9,hD⟩:=AT AB (.int .i64 q1.size) (.int .i64 q1.next) (.slice a b1 d) (.slice e f g) (.slice i j k') (.slice l' m n')
      rw [<-hS]
      have hw:=ao_ hs hD hy.out
      have R9:Ai w.heap.size u9 _ q1∧Ax q1:=⟨(R3.tyP hD (aa_ AB)).mono (by omega),hz⟩
      refine hK.out _ _ (hh _ hw) (fun hHeld=>?_)
      clear hK K
      try simp only [Act.put,lsA,lsB,lsC]
      refine tkc 11 ?_
      refine wpAnyH_done (by kernel_rfl) ?_ _
      exact GE E9 R9 hw hy
    clear d0 d1 d2 d3 d4 d5 c0 c1 c2 c3 c4 c5 c6 c7 c8 hO P
    rintro x w3 ⟨tb,ea4,en4,ec4,va4,vn4,vc4,ra4,rn4,rc4,la4,ln4,lc4,e6,e7,T4,⟨P3,hz⟩,hm,h4⟩
    simp only [Cz,YE,List.foldl_nil,e6,e7]
    try simp only [Act.put,lsA,lsB,lsC]
    clear e6 e7
    have qo:Hid (wr.heap.size<=tb):=h4
    clear h4
    have X4:=X.below hm
    have hX:=RC.below hm
    have D4:=D.below hm
    have hY:=Aa hB hm
    clear hm
    obtain ⟨t0,t1,t2,t3,t4,t5⟩:=T4.six
    obtain ⟨x0,x1,x2,x3,x4,x5⟩:=X4.six
    obtain ⟨f0,f1,f2,f3,f4,f5⟩:=fz6 X4
    go_upto_region 10 with fail
    obtain ⟨U,hb,X5,hC⟩:=AT X4 (.int .i64 q1.size) (.int .i64 q1.next) (.slice ea4 en4 ec4) (.slice va4 vn4 vc4) (.slice ra4 rn4 rc4) (.slice la4 ln4 lc4)
    have qe:=qd.out
    have hZ:=ao_ hY hC (by omega)
    have P5:=(P3.tyP hC (aa_ X4))
    have hP:=hX.ty hC (aa_ X4) (by decide)
    have D5:=D4.grown hC (by simp only [ne_eq];omega)
    rw [<-hb]
    clear hb hC X4 hX D4 T4 hY P3 t0 t1 t2 t3 t4 t5 x0 x1 x2 x3 x4 x5 f0 f1 f2 f3 f4 f5 X RC D hB
    have hE:(prog.info? 2).map (fun i=>(i.zero,i.size,i.bytes))=some (some (.int .i64 0),1,8):=by kernel_rfl
    obtain ⟨i0,hi,qg,qh,qi⟩:=info_parts hE
    have qp:=hZ.size
    go_wp2_with (at_builtin;refine ag_ rfl (fun K hK=>ay_ _ _ 46 rfl w.heap.size 2 i0 (.int .i64 0) 8 underlying46 hi qg qh qi rfl (by decide) mw_ my_ ca k cc cl rfl (hP.alloc _) _ 1 1 [c1'] rfl (j3_ _ _ _ _ (by simp)) (fun ad h=>(by cases h;rfl)) (fun h=>(by cases h)) (k+1) rfl (by unfold maxLen;omega) (by omega) (by simp;omega) (fun a3 cap3 w6 R6 hN=>hK _ _ ?_)))
    have ho:Below U.heap.size U (U.alloc (.cells #[.int .i64 c1'] 2)):=(Yg _ _).alloc (Zd _) _
    have hV:=(hP.below ho).rowTy (m:=k) (k:=cc)
    have X6:=(X5.below ho).ty hN hV (by decide)
    have D6:=(D5.below ho).ty hN hV (by decide)
    have P6:=(P5.below ho).tyI hN hV
    have h7:=jc_ (Aa hZ ho) hN (fun j e=>hP.own_ge j e)
    go_roundw
    case rel=>exact ⟨k+1,q1,ea4,en4,ec4,va4,vn4,vc4,ra4,rn4,rc4,la4,ln4,lc4,a3,cap3,_,by omega,by go_num,rfl,hT,X6,P6,hz,R6,D6,h7⟩
    case measure=>simp [intOf];omega
   ·obtain rfl:k=n:=by omega
    have ht:l.take k=l:=Zk (by rw [hg.out];exact Zd _)
    rw [ht,<-hc.out] at hI
    obtain ⟨d0,d1,d2,d3,d4,d5⟩:=X.six
    obtain ⟨x0,x1,x2,x3,x4,x5⟩:=D.six
    obtain ⟨f0,f1,f2,f3,f4,f5⟩:=fz6 D
    go_wp2
    obtain ⟨W8,hb,E8,hf⟩:=AT D (.int .i64 q.size) (.int .i64 q.next) (.slice ea3 en3 ec3) (.slice va3 vn3 vc3) (.slice ra3 rn3 rc3) (.slice la3 ln3 lc3)
    have hr:=ao_ hB hf (by omega)
    have P8:=P.tyP hf (aa_ D)
    have h6:=RC.ty hf (aa_ D) (by decide)
    rw [<-hb]
    clear hb
    refine YW (ad_ rfl _ W8 (w.heap.size+1) _ _ _ _ _ rfl E8 underlying35 rfl (by kernel_rfl) rfl) rfl ?_
    rw [hI.out]
    exact ⟨⟨_,ca,k,cc,rfl,P8,h6,h3⟩,hr⟩
 ·have hc:Hid (R=(⟨0,0,[],[],[],[]⟩,[])):=by show _=_;rw [<-hR.out,Co,if_neg (by rw [hg.out];exact hgo)]
  clear hR
  obtain ⟨x0,x1,x2,x3,x4,x5⟩:=D.six
  obtain ⟨f0,f1,f2,f3,f4,f5⟩:=fz6 D
  have hA:∀ u:World,Ai w.heap.size u (.agg #[.int .i64 0,.int .i64 0,.slice none 0 0,.slice none 0 0,.slice none 0 0,.slice none 0 0]) R.1:=fun u=>by
   rw [hc.out]
   exact ⟨none,0,0,none,0,0,none,0,0,none,0,0,[],rfl,aB_,⟨aB_,rfl,fun i r y h=>by simp at h⟩,aB_,aB_,(fun x y h=>(by cases h))⟩
  cases qa:Aj p
  ·go_wp2
   obtain ⟨W8,hb,E8,hf⟩:=AT D (.int .i64 0) (.int .i64 0) (.slice none 0 0) (.slice none 0 0) (.slice none 0 0) (.slice none 0 0)
   have hr:=ao_ hB hf (by omega)
   rw [<-hb]
   clear hb
   refine YW (ad_ rfl _ W8 (w.heap.size+1) _ _ _ _ _ rfl E8 underlying35 rfl (by kernel_rfl) rfl) rfl ?_
   exact ⟨⟨_,none,0,0,rfl,hA W8,by rw [hc.out];exact aB_,by rw [hc.out];exact Gu⟩,hr⟩
  ·have h9:(100:Int)<(n:Int):=by simp [qa] at hgo;omega
   go_wp2
   obtain ⟨W8,hb,E8,hf⟩:=AT D (.int .i64 0) (.int .i64 0) (.slice none 0 0) (.slice none 0 0) (.slice none 0 0) (.slice none 0 0)
   have hr:=ao_ hB hf (by omega)
   rw [<-hb]
   clear hb
   refine YW (ad_ rfl _ W8 (w.heap.size+1) _ _ _ _ _ rfl E8 underlying35 rfl (by kernel_rfl) rfl) rfl ?_
   exact ⟨⟨_,none,0,0,rfl,hA W8,by rw [hc.out];exact aB_,by rw [hc.out];exact Gu⟩,hr⟩
theorem FJ (p:Po) (l:List Opr) (hq:Ax (Co p l).1):Gb (Co p l).1:=by
 unfold Co at hq ⊢
 split at hq
 ·rename_i h
  rw [if_pos h]
  exact EG (C9 h.1 l) hq
 ·rename_i h
  rw [if_neg h]
  exact EW
theorem Fu (p:Po) (l:List Opr) (hl:l.length<=1048576):(Co p l).2.length<=1048576:=by
 have hx:∀ (l:List Opr) (x:Po×List Int),(l.foldl DM x).2.length=x.2.length+l.length:=by
  intro l
  induction l with
  |nil=>intro x;simp
  |cons o l ih=>intro x;rw [YE,ih];simp [DM];omega
 unfold Co
 split
 ·rw [goA,hx];simpa using hl
 ·simp
theorem Bk.sf {α:Type} {cs:α->List Value} {sz:Nat} {t:TypeId} {w:World} {b n:Nat} {l:List α} (h:Bk cs sz t w b n l) {B:Nat} (hB:B<=b):Sf B w (some ⟨b,0,none⟩):=fun _ ad e=>by
 cases e
 obtain ⟨c,hc,_⟩:=h.blk
 exact ⟨hB,c,t,hc⟩
end Go.Proofs.YtbbhcnjhohidnaaGreatDoor
