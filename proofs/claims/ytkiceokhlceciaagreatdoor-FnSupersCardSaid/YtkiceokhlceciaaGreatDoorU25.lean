/- OpOk of the model: one Kind. -/
import Derived.Test.YtkiceokhlceciaaGreatDoorU24
set_option maxHeartbeats 20000000
set_option maxRecDepth 100000
namespace Go.Proofs.YtkiceokhlceciaaGreatDoor
open Go Go.RowKit Go.BigFrame Tryz
variable{α:Type}{K:Act->World->Prop}{x:Ct}{k n size:Nat}{o:Oper}{p:Po}{b w w':World}{cs:α->List Value}
theorem bk_ (B0:Nat)(hB0:0<B0)(v:Value)(p:Po)(o:Opr)(w:World)(h:AW B0 w v p)(hd:AJ p)(hp:Ap p=true)(hso:Ds o)(hf:opB o=true)(hk:o.k=1∨o.k=4∨o.k=6∨o.k=7∨o.k=8)(hyes:(AC p o).1=0):
  Calls prog 36 #[v,.agg #[.int .i64 o.k,.string o.vol,.string o.file,.string o.to,.string o.into,.int .i64 o.at',.int .i64 o.fr,.int .i64 o.ln,.string o.data]] w fun e w'=>(∃ v' c,e=.returned (.tuple #[v',.int .i64 c])∧c=(opS p o).1∧Ag w.heap.size w' v' (opS p o).2∧AJ (opS p o).2)∧Below w.heap.size w w':=by
 have _:=hB0;have _:=hp;have qf:=h;obtain⟨ea,en,ec,va,vn,vc,ra,rn,rc,la,ln,lc,rfl,⟨h1,k1⟩,⟨h2,k2⟩,⟨h3,k3⟩,h4,k4⟩:=h;have nk9:¬ o.k=9:=by omega
 have mk9:(o.k==9)=false:=by simpa using nk9
 have nk2:¬ o.k=2:=by omega
 have mk2:(o.k==2)=false:=by simpa using nk2
 have nk3:¬ o.k=3:=by omega
 have mk3:(o.k==3)=false:=by simpa using nk3
 have nk5:¬ o.k=5:=by omega
 have mk5:(o.k==5)=false:=by simpa using nk5
 have nk10:¬ o.k=10:=by omega
 have mk10:(o.k==10)=false:=by simpa using nk10
 obtain⟨_,qu,qz,qK,qs⟩:=aQ_ hp;have hS:Hid (opS p o=if Ap (CN p (AC p o).2)=true then (0,CN p (AC p o).2) else (5,p)):=by show _=_;simp[opS,Et,hf,nk9,nk2,nk3,nk5,nk10,hyes]
 generalize opS p o=R at *;have ho:=oQ_ (o:=o) hd;have hZ:=qc_ (o:=o) hp hd hso.vol hso.to;have qr:Hid (o.k=1∨o.k=4∨o.k=6∨o.k=7∨o.k=8):=hk;have qF:Hid (opB o=true):=hf;clear hk;go_enter func36,ntmps36
 go_wp2_with fail
 refine (cs_ o _ hso).mono ?_;rintro e w1 ⟨rfl,qd⟩;obtain⟨C,O,D,hC,qL⟩:=bx3 qd;clear qd;rw[hf];obtain⟨x0,x1,x2,x3,x4,x5⟩:=D.six';obtain⟨f0,f1,f2,f3,f4,f5⟩:=fz6 D;obtain⟨c0,c1,c2,c3,c4,c5⟩:=C.six';have o0:w1.cell? ⟨w.heap.size+1,0,none⟩=some (.int .i64 o.k):=by exact O.cell 0
 go_wp2_with fail
 refine (aW_ B0 hB0 _ p _ (qf.below hC) hd).mono ?_;rintro e wk ⟨⟨v',rfl,PT,qE⟩,hj⟩;have hR:=PT;obtain⟨ea',en',ec',va',vn',vc',ra',rn',rc',la',ln',lc',rows',rfl,_⟩:=PT;have hl:=Aa hC hj;have qy:=hj.size;have hA:Below wk.heap.size wk (wk.alloc (.cells #[.int .i64 p.size,.int .i64 p.next,.slice ea' en' ec',.slice va' vn' vc',.slice ra' rn' rc',.slice la' ln' lc'] 28)):=(Yg _ _).alloc (Zd _) _;have XB:=Blk.new wk #[.int .i64 p.size,.int .i64 p.next,.slice ea' en' ec',.slice va' vn' vc',.slice ra' rn' rc',.slice la' ln' lc'] 28;have qS:(wk.alloc (.cells #[.int .i64 p.size,.int .i64 p.next,.slice ea' en' ec',.slice va' vn' vc',.slice ra' rn' rc',.slice la' ln' lc'] 28)).heap.size=wk.heap.size+1:=by simp
 have PX:=hR.below hA;have hY:=Aa hl hA;have CX:=(C.below hj).below hA;have DX:=(D.below hj).below hA;have OX:=(O.below hj).below hA;have ox0:(wk.alloc (.cells #[.int .i64 p.size,.int .i64 p.next,.slice ea' en' ec',.slice va' vn' vc',.slice ra' rn' rc',.slice la' ln' lc'] 28)).cell? ⟨w.heap.size+1,0,none⟩=some (.int .i64 o.k):=by exact OX.cell 0
 clear x0 x1 x2 x3 x4 x5 f0 f1 f2 f3 f4 f5 c0 c1 c2 c3 c4 c5 o0 C D O;obtain⟨y0,y1,y2,y3,y4,y5⟩:=XB.six';have p1:=OX.cell 1;have p2:=OX.cell 2;have p3:=OX.cell 3;have p4:=OX.cell 4;have p5:=OX.cell 5;have p6:=OX.cell 6;have p7:=OX.cell 7;have p8:=OX.cell 8;simp only[lgA,lgB,lgC] at p1 p2 p3 p4 p5 p6 p7 p8
 go_wp2_with fail
 generalize wk.alloc (.cells #[.int .i64 p.size,.int .i64 p.next,.slice ea' en' ec',.slice va' vn' vc',.slice ra' rn' rc',.slice la' ln' lc'] 28)=wX at *;have hJ:=fk_ w1.heap.size (by omega) _ p o wX PX (by omega) hd qu qr.out;refine hJ.mono ?_;rintro e w5 ⟨⟨v2,c,rfl,_,hc,hI⟩,qe,hO⟩;have qq:c=0:=by rw[hc];exact hyes
 clear hc hyes;subst qq;have hU:=hI rfl;clear hI;obtain⟨q,hq⟩:∃ q,(AC p o).2=q:=⟨_,rfl⟩;rw[hq] at hU hZ ho hS;clear hq;obtain⟨hs,hm,h6⟩:=ho;replace hs:Hid (q.rf=p.rf):=hs;replace hm:Hid (q.lt=p.lt):=hm;have hz:=hU;obtain⟨e2a,e2n,e2c,v2a,v2n,v2c,r2a,r2n,r2c,l2a,l2n,l2c,rows5,rfl,_⟩:=hU;have X5:=hO _ _ _ XB (by decide);have C5:=hO _ _ _ CX (by decide);have D5:=hO _ _ _ DX (by decide);have hE:Below w.heap.size w w5:=Kt hY qe (by omega);have qM:=qe.size;clear y0 y1 y2 y3 y4 y5 p1 p2 p3 p4 p5 p6 p7 p8 ox0;obtain⟨x0,x1,x2,x3,x4,x5⟩:=X5.six';obtain⟨f0,f1,f2,f3,f4,f5⟩:=fz6 X5;obtain⟨c0,c1,c2,c3,c4,c5⟩:=C5.six';have n1:¬ w.heap.size=wk.heap.size:=by omega
 have n3:¬ wk.heap.size=w.heap.size:=by omega
 go_wp2_with fail
 obtain⟨w6,hn,X6,hv⟩:=Ba X5 (.int .i64 q.size) (.int .i64 q.next) (.slice e2a e2n e2c) (.slice v2a v2n v2c) (.slice r2a r2n r2c) (.slice l2a l2n l2c);have C6:Blk _ w.heap.size _ _:=(hv.block _ C5.lt (by simp only[ne_eq,Zo];omega)).trans C5;have D6:Blk _ (w.heap.size+2) _ _:=(hv.block _ D5.lt (by simp only[ne_eq,Zo];omega)).trans D5;have hF:=hE.grown hv hE.size (fun j e=>by cases e;omega);have qN:=hv.size;have qb:=hz.tyP hv (aa_ X5);rw[<-hn];clear hn;clear x0 x1 x2 x3 x4 x5 f0 f1 f2 f3 f4 f5 X5 C5 D5 hv c0 c1 c2 c3 c4 c5 hz hO;refine (bA_ B0 va vn vc p.vs w6 (h2.below hF) qz.wide).mono ?_;rintro e w7 ⟨⟨wa,wn,wc,rfl,qW,qj,RW⟩,hV⟩;have qh:Hid ((A9 p.vs).length=wn):=RW.sl.len;have qO:=hV.size
 go_wp2_with fail
 go_loopw [9] (fun ix wr=>∃ (k:Nat),k<=wn∧ix=.int .i64 k∧Ad Ct.cs 4 68 wr w6.heap.size wa wn wc (Fz (A9 p.vs) k)∧Below w6.heap.size w6 wr) (fun ix _=>wn-(intOf ix).toNat)
 case atStart=>exact⟨0,Zg _,rfl,by rw[i0_];exact RW,hV⟩
 case round=>
  obtain⟨k,hk,rfl,RK,hB⟩:=hrel;by_cases hlt:k<wn
  ·obtain⟨x,hx⟩:∃ x,(A9 p.vs)[k]?=some x:=⟨_,ZI (by rw[qh.out];exact hlt)⟩;have h9:=mY_ hx
   obtain⟨b,rfl⟩:∃ b,wa=some ⟨b,0,none⟩:=by
    rcases RK.own with⟨_,h0,_⟩ | ⟨b,h0,_⟩
    ·omega
    ·exact⟨b,h0⟩
   have d3:wr.cell? ⟨b,k*4+3,none⟩=some (.int .i64 x.n):=RK.cellAt (j:=3) h9 rfl;obtain⟨bcs,VB⟩:=RK.blkAt;have g3:=VB.frozen (k*4+3);have qX:=qj x (Zc hx);have qt:IntKind.i64.wrap (-x.n)=-x.n:=by rw[Ys];omega
   have qp:=(RK.block _ rfl).1;have qG:(k:Int)<wn:=by omega
   have qH:(0:Int)<=k:=by omega
   have ht:=RK.set1 aS_ h9 (j:=3) (v:=.int .i64 (-x.n)) (x':=⟨x.o,-x.n⟩) (by omega) rfl;rw[k4_ hx] at ht;have hM:Hid (Ad Ct.cs 4 68 (wr.setCell ⟨b,k*4+3,none⟩ (.int .i64 (-x.n))) w6.heap.size (some ⟨b,0,none⟩) wn wc (Fz (A9 p.vs) (k+1))):=ht;clear ht hx h9 VB;go_wp2;go_roundw
   case rel=>exact⟨k+1,by omega,by go_num,hM.out,Below.setCell hB (by simp only;exact qp) _⟩
   case measure=>simp[intOf];omega
  ·obtain rfl:k=wn:=by omega
   rw[k3_ qh.out] at RK;have hH:=Aa hF hB;have XR:=X6.below hB;have CR:=C6.below hB;have DR:=D6.below hB;have PTR:=qb.below hB;have qU:=hB.size;clear RW hV X6 C6 D6 qb;obtain⟨_,_,_,_,_,_,_,_,_,_,_,_,rowsR,qi,R1,⟨R2,T2⟩,R3,R4,qo⟩:=PTR;simp only[Value.agg.injEq,Array.mk.injEq,List.cons.injEq,Value.slice.injEq,and_true,true_and] at qi;obtain⟨⟨rfl,rfl,rfl⟩,⟨rfl,rfl,rfl⟩,⟨rfl,rfl,rfl⟩,⟨rfl,rfl,rfl⟩⟩:=qi;have h7:Hid (q.lt.length=l2n):=R4.sl.len;have qI:l2n<=200:=by rw[<-h7.out,hm.out];exact (br_ qs).1
   have y5:wr.cell? ⟨wk.heap.size,5,none⟩=some (.slice l2a l2n l2c):=XR.cell 5;have y3:wr.cell? ⟨wk.heap.size,3,none⟩=some (.slice v2a v2n v2c):=XR.cell 3
   go_wp2_with fail
   have hP:∀ u,Below wr.heap.size wr u->(fun u=>u.cell? ⟨wk.heap.size,5,none⟩=some (.slice l2a l2n l2c)∧u.cell? ⟨wk.heap.size,3,none⟩=some (.slice v2a v2n v2c)) u:=fun u hu=>⟨Ab hu y5,Ab hu y3⟩;have qm:=hP wr.drew ((Yg _ _).drew);refine ar_ (S:=(fun u=>u.cell? ⟨wk.heap.size,5,none⟩=some (.slice l2a l2n l2c)∧u.cell? ⟨wk.heap.size,3,none⟩=some (.slice v2a v2n v2c))) 9 (by kernel_rfl) (by kernel_rfl) ?_;refine tk 0 ?_;refine tk 1 ?_;refine tk 2 ?_;refine tk 3 ?_;refine tk 5 ?_;refine Aq (i:=4) (by kernel_rfl) rfl (fun K hK=>?_);go_simp;refine (bA_ w1.heap.size v2a v2n v2c q.vs _ ((T2.rows.vs R2).below ((Yg _ _).drew)) hZ.1).mono ?_;rintro e w8 ⟨⟨qa,qn,qc,rfl,qJ,qv,RQ⟩,hW⟩;have hN:Below wr.heap.size wr w8:=Aa ((Yg _ _).drew) hW;have qP:=hN.size;dsimp only;refine hK.out _ _ (hP _ hN) (fun hHeld=>?_);clear hK K
   try simp only[Act.put,lsA,lsB,lsC]
   refine Aq (i:=6) (by kernel_rfl) rfl (fun K hK=>?_);go_simp;refine (cJ_ qa qn qc (A9 q.vs) wa k wc (FS (A9 p.vs)) w8 RQ.sl (RQ.hd.2.2 (show 0<wr.heap.size by omega)).2 (RQ.hd.2.2 (show 0<wr.heap.size by omega)).1 (RK.sl.below hN) (by omega) (by omega) (fun x hx=>by have:=qv x hx;omega) (fun x hx=>by have:=oP_ qj x hx;omega)).mono ?_;rintro e w9 ⟨⟨sa,sn,sc,rfl,qT,RS⟩,hX⟩;have hg:Below wr.heap.size wr w9:=Aa hN hX;have qQ:=hg.size;dsimp only;refine hK.out _ _ (hP _ hg) (fun hHeld=>?_);clear hK K
   try simp only[Act.put,lsA,lsB,lsC]
   refine Aq (i:=7) (by kernel_rfl) rfl (fun K hK=>?_);obtain⟨i0,hi,qA,qB,qC⟩:=info_parts Gl;refine aJ_ rfl (jE_ _ _ _ rfl w1.heap.size _ i0 _ 40 hi qA qB qC underlying26 rfl (by decide) aS_ a9_ l2a l2n l2c q.lt rfl (R4.below hg) sa sn sc (A7 (A9 q.vs) (FS (A9 p.vs))) rfl RS.sl (RS.hd.2.2 (by omega)).2 (RS.hd.2.2 (by omega)).1 r2a r2n r2c q.rf (R3.below hg) qo (l2n+sn) rfl (by unfold maxLen;omega) (by omega) (by omega) ?_);intro a10 cap10 hQ row RL RR hb hy h8 h5;have XA:=(XR.below hg).ty hb hy (by decide);have CA:=(CR.below hg).ty hb hy (by decide);have DA:=(DR.below hg).ty hb hy (by decide);have E1:=(R1.below hg).ty hb hy (by decide);have E2:=(R2.below hg).ty hb hy (by decide);have E3:=(T2.below hg).ty hb hy (by decide) (by decide);have hG:=(Aa hH hg).grown hb (Aa hH hg).size (fun j e=>by have:=h8 j e;omega);have qR:=hb.size;refine hK.out _ _ ⟨XA.cell 5,XA.cell 3⟩ (fun hHeld=>?_);clear hK K
   try simp only[Act.put,lsA,lsB,lsC]
   refine tk 8 ?_;refine wpAnyH_done (by kernel_rfl) ?_ _;refine lastL rfl ?_;clear hP qm hHeld y5 y3;have hh:=CS hQ wk.heap.size 5 (.slice a10 (l2n+sn) cap10);have XL:Blk (hQ.setCell ⟨wk.heap.size,5,none⟩ (.slice a10 (l2n+sn) cap10)) wk.heap.size #[.int .i64 q.size,.int .i64 q.next,.slice e2a e2n e2c,.slice v2a v2n v2c,.slice r2a r2n r2c,.slice a10 (l2n+sn) cap10] 28:=by simpa using XA.set 5 (.slice a10 (l2n+sn) cap10)
   have y5:=XA.cell 5;simp only[lgA,lgB,lgC] at y5;have g5:=XA.frozen 5;obtain⟨z0,z1,z2,z3,z4,z5⟩:=XL.six'
   go_wp2_with fail
   have CL:Blk _ w.heap.size _ _:=(hh.block _ CA.lt (by simp only[ne_eq,Zo];omega)).trans CA;have DL:Blk _ (w.heap.size+2) _ _:=(hh.block _ DA.lt (by simp only[ne_eq,Zo];omega)).trans DA;have PTL:Ag w1.heap.size (hQ.setCell ⟨wk.heap.size,5,none⟩ (.slice a10 (l2n+sn) cap10)) (.agg #[.int .i64 q.size,.int .i64 q.next,.slice e2a e2n e2c,.slice v2a v2n v2c,.slice r2a r2n r2c,.slice a10 (l2n+sn) cap10]) (CN p q):=⟨_,_,_,_,_,_,_,_,_,_,_,_,rowsR,rfl,E1.ty hh (aa_ XA) (by decide),⟨E2.ty hh (aa_ XA) (by decide),E3.ty hh (aa_ XA) (by decide) (by decide)⟩,RR.ty hh (aa_ XA) (by decide),RL.ty hh (aa_ XA) (by decide),h5⟩;have qg:AJ (CN p q):=k5_ hd hs.out hm.out h6 hZ (by show (q.lt++A7 _ _).length<=_;rw[RL.sl.len];omega);have hD:=hG.grown hh hG.size (fun j e=>by cases e;omega);have qw:=hh.size;generalize hQ.setCell ⟨wk.heap.size,5,none⟩ (.slice a10 (l2n+sn) cap10)=w11 at *;refine (ep_ w1.heap.size (by omega) _ (CN p q) w11 PTL.at' qg).mono ?_;rintro e qD ⟨rfl,he⟩;have ql:=XL.below he;have qk:=CL.below he;have hr:=DL.below he;have ha:=Aa hD he;have qx:=he.size;have hT:=PTL.below he;clear y5 g5 z0 z1 z2 z3 z4 z5 XA CA DA E1 E2 E3 RR RL R1 R2 T2 R3 R4 XR CR DR hh XL CL DL PTL
   cases hw:Ap (CN p q)
   ·obtain⟨c0,c1,c2,c3,c4,c5⟩:=qk.six';obtain⟨x0,x1,x2,x3,x4,x5⟩:=hr.six';obtain⟨f0,f1,f2,f3,f4,f5⟩:=fz6 hr
    go_wp2_with fail
    refine (aW_ B0 hB0 _ p _ (qf.below ha) hd).mono ?_;rintro e wk ⟨⟨v',rfl,PT,_⟩,hj⟩;have hR:=PT;obtain⟨ea',en',ec',va',vn',vc',ra',rn',rc',la',ln',lc',rows',rfl,_⟩:=PT;have Dk:=hr.below hj;have hl:=Aa ha hj;have qy:=hj.size;have qV:=ha.size;clear x0 x1 x2 x3 x4 x5 f0 f1 f2 f3 f4 f5;obtain⟨x0,x1,x2,x3,x4,x5⟩:=Dk.six';obtain⟨f0,f1,f2,f3,f4,f5⟩:=fz6 Dk;go_wp2;obtain⟨W8,hn,W0,hL⟩:=Ba Dk (.int .i64 p.size) (.int .i64 p.next) (.slice ea' en' ec') (.slice va' vn' vc') (.slice ra' rn' rc') (.slice la' ln' lc');have PF:=(hR.tyP hL (aa_ Dk)).mono (show w.heap.size<=qD.heap.size by omega);have B8:=hl.grown hL hl.size (fun j e=>by cases e;omega);rw[<-hn];clear hn;refine YW (ad_ rfl _ W8 (w.heap.size+2) _ _ _ _ _ rfl W0 underlying28 rfl (by kernel_rfl) rfl) rfl ?_;exact⟨⟨_,5,rfl,by rw[hS.out,if_neg (by rw[hw];simp)],by rw[hS.out,if_neg (by rw[hw];simp)];exact PF,by rw[hS.out,if_neg (by rw[hw];simp)];exact hd⟩,B8⟩
   ·obtain⟨y0,y1,y2,y3,y4,y5⟩:=ql.six';obtain⟨x0,x1,x2,x3,x4,x5⟩:=hr.six';obtain⟨f0,f1,f2,f3,f4,f5⟩:=fz6 hr;go_wp2;obtain⟨W8,hn,W0,hL⟩:=Ba hr (.int .i64 q.size) (.int .i64 q.next) (.slice e2a e2n e2c) (.slice v2a v2n v2c) (.slice r2a r2n r2c) (.slice a10 (l2n+sn) cap10);have PF:=(hT.tyP hL (aa_ hr)).mono (show w.heap.size<=w1.heap.size by omega);have B8:=ha.grown hL ha.size (fun j e=>by cases e;omega);rw[<-hn];clear hn;refine YW (ad_ rfl _ W8 (w.heap.size+2) _ _ _ _ _ rfl W0 underlying28 rfl (by kernel_rfl) rfl) rfl ?_;exact⟨⟨_,0,rfl,by rw[hS.out,if_pos hw],by rw[hS.out,if_pos hw];exact PF,by rw[hS.out,if_pos hw];exact qg⟩,B8⟩
end Go.Proofs.YtkiceokhlceciaaGreatDoor
