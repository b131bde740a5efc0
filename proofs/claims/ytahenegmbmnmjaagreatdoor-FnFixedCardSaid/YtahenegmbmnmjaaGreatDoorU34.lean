/- Ground. -/
import Derived.Laws.EntriesVeiled
import Derived.Test.YtahenegmbmnmjaaGreatDoorU29
import Derived.Test.YtahenegmbmnmjaaGreatDoorU32
set_option maxHeartbeats 20000000
set_option maxRecDepth 100000
namespace Go.Proofs.YtahenegmbmnmjaaGreatDoor
open Go Go.RowKit Go.BigFrame Tryz
variable{n:Nat}{w w':World}
theorem bI_ (B0:Nat)(hB0:0<B0)(v:Value)(p:Po)(o:Opr)(w:World)(h:AG B0 w v p)(hd:AC p)(hp:Ai p=true)(hso:BC o)(hf:opB o=true)(qv:o.k=2∨o.k=3∨o.k=5∨o.k=10)(hyes:(Ap p o).1=0):
  Calls prog 53 #[v,.agg #[.int .i64 o.k,.string o.vol,.string o.file,.string o.to,.string o.into,.int .i64 o.at',.int .i64 o.fr,.int .i64 o.ln,.string o.data]] w fun e w'=>(∃ v' c,e=.returned (.tuple #[v',.int .i64 c])∧c=(opS p o).1∧Am w.heap.size w' v' (opS p o).2∧AC (opS p o).2)∧Below w.heap.size w w':=by
 rcases qv with hk | hk | hk | hk
 all_goals
  have _:=hB0;have _:=hp;have qh:=h;obtain⟨ea,en,ec,va,vn,vc,ra,rn,rc,la,ln,lc,rfl,⟨h1,k1⟩,⟨h2,k2⟩,⟨h3,k3⟩,h4,k4⟩:=h;obtain⟨_,qK,qC,qM,qw⟩:=aQ_ hp;have hS:Hid (opS p o=if Ai (A7 p (Ap p o).2)=true then (0,A7 p (Ap p o).2) else (5,p)):=by show _=_;simp[opS,BT,hf,hk,hyes]
  generalize opS p o=R at *;have hs:=nJ_ (o:=o) hp hd hso.data;have hR:Hid (_=_):=hk;have qu:Hid (opB o=true):=hf;clear hk;go_enter func53,ntmps53
  go_wp2_with fail
  refine (cs_ o _ hso).mono ?_;rintro e w1 ⟨rfl,qf⟩;obtain⟨C,O,D,hE,qN⟩:=bx3 qf;clear qf;rw[hf];obtain⟨x0,x1,x2,x3,x4,x5⟩:=D.six';obtain⟨f0,f1,f2,f3,f4,f5⟩:=fz6 D;obtain⟨c0,c1,c2,c3,c4,c5⟩:=C.six';have o0:=O.cell 0;simp only[Yp,Yo,hR.out] at o0
  go_wp2_with fail
  refine (aW_ B0 hB0 _ p _ (qh.below hE) hd).mono ?_;rintro e wk ⟨⟨v',rfl,PT,qp⟩,hl⟩;have hU:=PT;obtain⟨ea',en',ec',va',vn',vc',ra',rn',rc',la',ln',lc',rows',rfl,_⟩:=PT;have hm:=Aa hE hl;have qB:=hl.size;have hD:Below wk.heap.size wk (wk.alloc (.cells #[.int .i64 p.size,.int .i64 p.next,.slice ea' en' ec',.slice va' vn' vc',.slice ra' rn' rc',.slice la' ln' lc'] 35)):=(Yg _ _).alloc (Zd _) _;have XB:=Blk.new wk #[.int .i64 p.size,.int .i64 p.next,.slice ea' en' ec',.slice va' vn' vc',.slice ra' rn' rc',.slice la' ln' lc'] 35;have qU:(wk.alloc (.cells #[.int .i64 p.size,.int .i64 p.next,.slice ea' en' ec',.slice va' vn' vc',.slice ra' rn' rc',.slice la' ln' lc'] 35)).heap.size=wk.heap.size+1:=by simp
  have PX:=hU.below hD;have h5:=Aa hm hD;have CX:=(C.below hl).below hD;have DX:=(D.below hl).below hD;have OX:=(O.below hl).below hD;have ox0:=OX.cell 0;simp only[Yp,Yo,hR.out] at ox0;clear x0 x1 x2 x3 x4 x5 f0 f1 f2 f3 f4 f5 c0 c1 c2 c3 c4 c5 o0 C D O;obtain⟨y0,y1,y2,y3,y4,y5⟩:=XB.six';have p1:=OX.cell 1;have p2:=OX.cell 2;have p3:=OX.cell 3;have p4:=OX.cell 4;have p5:=OX.cell 5;have p6:=OX.cell 6;have p7:=OX.cell 7;have p8:=OX.cell 8;simp only[lgA,lgB,lgC] at p1 p2 p3 p4 p5 p6 p7 p8
  go_wp2_with fail
  generalize wk.alloc (.cells #[.int .i64 p.size,.int .i64 p.next,.slice ea' en' ec',.slice va' vn' vc',.slice ra' rn' rc',.slice la' ln' lc'] 35)=wX at *;have hr:=gN_ w1.heap.size (by omega) _ p o wX PX qp (by omega) hd hp qu.out (by rw[hR.out];simp);rw[hR.out] at hr;refine hr.mono ?_;rintro e w5 ⟨⟨v2,c,rfl,_,hc,hL⟩,qg,hP⟩;have qt:c=0:=by rw[hc];exact hyes
  clear hc hyes;subst qt;obtain⟨hW,hh⟩:=hL rfl;have h6:=pM_ hp hd hso.file hso.into hh;clear hh;clear hL;obtain⟨q,hq⟩:∃ q,(Ap p o).2=q:=⟨_,rfl⟩;rw[hq] at hW h6 hs hS;clear hq;obtain⟨hv,hn,h8⟩:=hs;replace hv:Hid (q.rf=p.rf):=hv;replace hn:Hid (q.lt=p.lt):=hn;have hC:=hW;obtain⟨e2a,e2n,e2c,v2a,v2n,v2c,r2a,r2n,r2c,l2a,l2n,l2c,rows5,rfl,_⟩:=hW;have X5:=hP _ _ _ XB (by decide);have C5:=hP _ _ _ CX (by decide);have D5:=hP _ _ _ DX (by decide);have hG:Below w.heap.size w w5:=EN h5 qg (by omega);have qO:=qg.size;clear y0 y1 y2 y3 y4 y5 p1 p2 p3 p4 p5 p6 p7 p8 ox0;obtain⟨x0,x1,x2,x3,x4,x5⟩:=X5.six';obtain⟨f0,f1,f2,f3,f4,f5⟩:=fz6 X5;obtain⟨c0,c1,c2,c3,c4,c5⟩:=C5.six';have n1:¬ w.heap.size=wk.heap.size:=by omega
  have n3:¬ wk.heap.size=w.heap.size:=by omega
  go_wp2_with fail
  obtain⟨w6,ho,X6,hy⟩:=AV X5 (.int .i64 q.size) (.int .i64 q.next) (.slice e2a e2n e2c) (.slice v2a v2n v2c) (.slice r2a r2n r2c) (.slice l2a l2n l2c);have C6:Blk _ w.heap.size _ _:=(hy.block _ C5.lt (by simp only[ne_eq,Zo];omega)).trans C5;have D6:Blk _ (w.heap.size+2) _ _:=(hy.block _ D5.lt (by simp only[ne_eq,Zo];omega)).trans D5;have hH:=hG.grown hy hG.size (fun j e=>by cases e;omega);have qP:=hy.size;have qe:=hC.tyP hy (aa_ X5);rw[<-ho];clear ho;clear x0 x1 x2 x3 x4 x5 f0 f1 f2 f3 f4 f5 X5 C5 D5 hy c0 c1 c2 c3 c4 c5 hC hP;refine (bA_ B0 va vn vc p.vs w6 (h2.below hH) qC.wide).mono ?_;rintro e w7 ⟨⟨wa,wn,wc,rfl,qY,ql,RW⟩,hX⟩;have qj:Hid ((AB p.vs).length=wn):=RW.sl.len;have qQ:=hX.size
  go_wp2_with fail
  go_loopw [9] (fun ix wr=>∃ (k:Nat),k<=wn∧ix=.int .i64 k∧Ae Ct.cs 4 80 wr w6.heap.size wa wn wc (DF (AB p.vs) k)∧Below w6.heap.size w6 wr) (fun ix _=>wn-(intOf ix).toNat)
  case atStart=>exact⟨0,Zg _,rfl,by rw[i0_];exact RW,hX⟩
  case round=>
   obtain⟨k,hk,rfl,RK,hB⟩:=hrel;by_cases hlt:k<wn
   ·obtain⟨x,hx⟩:∃ x,(AB p.vs)[k]?=some x:=⟨_,ZI (by rw[qj.out];exact hlt)⟩;have qd:=mY_ hx
    obtain⟨b,rfl⟩:∃ b,wa=some ⟨b,0,none⟩:=by
     rcases RK.own with⟨_,h0,_⟩ | ⟨b,h0,_⟩
     ·omega
     ·exact⟨b,h0⟩
    have d3:wr.cell? ⟨b,k*4+3,none⟩=some (.int .i64 x.n):=RK.cellAt (j:=3) qd rfl;obtain⟨bcs,VB⟩:=RK.blkAt;have g3:=VB.frozen (k*4+3);have qZ:=ql x (Zc hx);have qx:IntKind.i64.wrap (-x.n)=-x.n:=by rw[Ys];omega
    have qs:=(RK.block _ rfl).1;have qH:(k:Int)<wn:=by omega
    have qI:(0:Int)<=k:=by omega
    have hw:=RK.set1 aS_ qd (j:=3) (v:=.int .i64 (-x.n)) (x':=⟨x.o,-x.n⟩) (by omega) rfl;rw[k4_ hx] at hw;have hN:Hid (Ae Ct.cs 4 80 (wr.setCell ⟨b,k*4+3,none⟩ (.int .i64 (-x.n))) w6.heap.size (some ⟨b,0,none⟩) wn wc (DF (AB p.vs) (k+1))):=hw;clear hw hx qd VB;go_wp2;go_roundw
    case rel=>exact⟨k+1,by omega,by go_num,hN.out,Below.setCell hB (by simp only;exact qs) _⟩
    case measure=>simp[intOf];omega
   ·obtain rfl:k=wn:=by omega
    rw[k3_ qj.out] at RK;have hJ:=Aa hH hB;have XR:=X6.below hB;have CR:=C6.below hB;have DR:=D6.below hB;have PTR:=qe.below hB;have qW:=hB.size;clear RW hX X6 C6 D6 qe;obtain⟨_,_,_,_,_,_,_,_,_,_,_,_,rowsR,qk,R1,⟨R2,T2⟩,R3,R4,qr⟩:=PTR;simp only[Value.agg.injEq,Array.mk.injEq,List.cons.injEq,Value.slice.injEq,and_true,true_and] at qk;obtain⟨⟨rfl,rfl,rfl⟩,⟨rfl,rfl,rfl⟩,⟨rfl,rfl,rfl⟩,⟨rfl,rfl,rfl⟩⟩:=qk;have h9:Hid (q.lt.length=l2n):=R4.sl.len;have qJ:l2n<=200:=by rw[<-h9.out,hn.out];exact (br_ qw).1
    have y5:wr.cell? ⟨wk.heap.size,5,none⟩=some (.slice l2a l2n l2c):=XR.cell 5;have y3:wr.cell? ⟨wk.heap.size,3,none⟩=some (.slice v2a v2n v2c):=XR.cell 3
    go_wp2_with fail
    have hQ:∀ u,Below wr.heap.size wr u->(fun u=>u.cell? ⟨wk.heap.size,5,none⟩=some (.slice l2a l2n l2c)∧u.cell? ⟨wk.heap.size,3,none⟩=some (.slice v2a v2n v2c)) u:=fun u hu=>⟨Ab hu y5,Ab hu y3⟩;have qq:=hQ wr.drew ((Yg _ _).drew);refine ar_ (S:=(fun u=>u.cell? ⟨wk.heap.size,5,none⟩=some (.slice l2a l2n l2c)∧u.cell? ⟨wk.heap.size,3,none⟩=some (.slice v2a v2n v2c))) 9 (by kernel_rfl) (by kernel_rfl) ?_;refine tk 0 ?_;refine tk 1 ?_;refine tk 2 ?_;refine tk 3 ?_;refine tk 5 ?_;refine AX (i:=4) (by kernel_rfl) rfl (fun K hK=>?_);go_simp;refine (bA_ w1.heap.size v2a v2n v2c q.vs _ ((T2.rows.vs R2).below ((Yg _ _).drew)) h6.1).mono ?_;rintro e w8 ⟨⟨qa,qn,qc,rfl,qL,qy,RQ⟩,hY⟩;have hO:Below wr.heap.size wr w8:=Aa ((Yg _ _).drew) hY;have qR:=hO.size;dsimp only;refine hK.out _ _ (hQ _ hO) (fun hHeld=>?_);clear hK K
    try simp only[Act.put,lsA,lsB,lsC]
    refine AX (i:=6) (by kernel_rfl) rfl (fun K hK=>?_);go_simp;refine (cJ_ qa qn qc (AB q.vs) wa k wc (Cs (AB p.vs)) w8 RQ.sl (RQ.hd.2.2 (show 0<wr.heap.size by omega)).2 (RQ.hd.2.2 (show 0<wr.heap.size by omega)).1 (RK.sl.below hO) (by omega) (by omega) (fun x hx=>by have:=qy x hx;omega) (fun x hx=>by have:=oP_ ql x hx;omega)).mono ?_;rintro e w9 ⟨⟨sa,sn,sc,rfl,qV,RS⟩,hZ⟩;have hg:Below wr.heap.size wr w9:=Aa hO hZ;have qS:=hg.size;dsimp only;refine hK.out _ _ (hQ _ hg) (fun hHeld=>?_);clear hK K
    try simp only[Act.put,lsA,lsB,lsC]
    refine AX (i:=7) (by kernel_rfl) rfl (fun K hK=>?_);obtain⟨i0,hi,qD,qE,qF⟩:=info_parts Dr;refine aJ_ rfl (jE_ _ _ _ rfl w1.heap.size _ i0 _ 40 hi qD qE qF underlying33 rfl (by decide) aS_ a9_ l2a l2n l2c q.lt rfl (R4.below hg) sa sn sc (AR (AB q.vs) (Cs (AB p.vs))) rfl RS.sl (RS.hd.2.2 (by omega)).2 (RS.hd.2.2 (by omega)).1 r2a r2n r2c q.rf (R3.below hg) qr (l2n+sn) rfl (by unfold maxLen;omega) (by omega) (by omega) ?_);intro a10 cap10 hT row RL RR hb hA qb h7;have XA:=(XR.below hg).ty hb hA (by decide);have CA:=(CR.below hg).ty hb hA (by decide);have DA:=(DR.below hg).ty hb hA (by decide);have E1:=(R1.below hg).ty hb hA (by decide);have E2:=(R2.below hg).ty hb hA (by decide);have E3:=(T2.below hg).ty hb hA (by decide) (by decide);have hI:=(Aa hJ hg).grown hb (Aa hJ hg).size (fun j e=>by have:=qb j e;omega);have qT:=hb.size;refine hK.out _ _ ⟨XA.cell 5,XA.cell 3⟩ (fun hHeld=>?_);clear hK K
    try simp only[Act.put,lsA,lsB,lsC]
    refine tk 8 ?_;refine wpAnyH_done (by kernel_rfl) ?_ _;refine BK rfl ?_;clear hQ qq hHeld y5 y3;have hj:=B3 hT wk.heap.size 5 (.slice a10 (l2n+sn) cap10);have XL:Blk (hT.setCell ⟨wk.heap.size,5,none⟩ (.slice a10 (l2n+sn) cap10)) wk.heap.size #[.int .i64 q.size,.int .i64 q.next,.slice e2a e2n e2c,.slice v2a v2n v2c,.slice r2a r2n r2c,.slice a10 (l2n+sn) cap10] 35:=by simpa using XA.set 5 (.slice a10 (l2n+sn) cap10)
    have y5:=XA.cell 5;simp only[lgA,lgB,lgC] at y5;have g5:=XA.frozen 5;obtain⟨z0,z1,z2,z3,z4,z5⟩:=XL.six'
    go_wp2_with fail
    have CL:Blk _ w.heap.size _ _:=(hj.block _ CA.lt (by simp only[ne_eq,Zo];omega)).trans CA;have DL:Blk _ (w.heap.size+2) _ _:=(hj.block _ DA.lt (by simp only[ne_eq,Zo];omega)).trans DA;have PTL:Am w1.heap.size (hT.setCell ⟨wk.heap.size,5,none⟩ (.slice a10 (l2n+sn) cap10)) (.agg #[.int .i64 q.size,.int .i64 q.next,.slice e2a e2n e2c,.slice v2a v2n v2c,.slice r2a r2n r2c,.slice a10 (l2n+sn) cap10]) (A7 p q):=⟨_,_,_,_,_,_,_,_,_,_,_,_,rowsR,rfl,E1.ty hj (aa_ XA) (by decide),⟨E2.ty hj (aa_ XA) (by decide),E3.ty hj (aa_ XA) (by decide) (by decide)⟩,RR.ty hj (aa_ XA) (by decide),RL.ty hj (aa_ XA) (by decide),h7⟩;have qi:AC (A7 p q):=k5_ hd hv.out hn.out h8 h6 (by show (q.lt++AR _ _).length<=_;rw[RL.sl.len];omega);have hF:=hI.grown hj hI.size (fun j e=>by cases e;omega);have qz:=hj.size;generalize hT.setCell ⟨wk.heap.size,5,none⟩ (.slice a10 (l2n+sn) cap10)=w11 at *;refine (ep_ w1.heap.size (by omega) _ (A7 p q) w11 PTL.at' qi).mono ?_;rintro e qG ⟨rfl,he⟩;have qo:=XL.below he;have qm:=CL.below he;have ht:=DL.below he;have ha:=Aa hF he;have qA:=he.size;have hV:=PTL.below he;clear y5 g5 z0 z1 z2 z3 z4 z5 XA CA DA E1 E2 E3 RR RL R1 R2 T2 R3 R4 XR CR DR hj XL CL DL PTL
    cases hz:Ai (A7 p q)
    ·obtain⟨c0,c1,c2,c3,c4,c5⟩:=qm.six';obtain⟨x0,x1,x2,x3,x4,x5⟩:=ht.six';obtain⟨f0,f1,f2,f3,f4,f5⟩:=fz6 ht
     go_wp2_with fail
     refine (aW_ B0 hB0 _ p _ (qh.below ha) hd).mono ?_;rintro e wk ⟨⟨v',rfl,PT,_⟩,hl⟩;have hU:=PT;obtain⟨ea',en',ec',va',vn',vc',ra',rn',rc',la',ln',lc',rows',rfl,_⟩:=PT;have Dk:=ht.below hl;have hm:=Aa ha hl;have qB:=hl.size;have qX:=ha.size;clear x0 x1 x2 x3 x4 x5 f0 f1 f2 f3 f4 f5;obtain⟨x0,x1,x2,x3,x4,x5⟩:=Dk.six';obtain⟨f0,f1,f2,f3,f4,f5⟩:=fz6 Dk;go_wp2;obtain⟨W8,ho,W0,hM⟩:=AV Dk (.int .i64 p.size) (.int .i64 p.next) (.slice ea' en' ec') (.slice va' vn' vc') (.slice ra' rn' rc') (.slice la' ln' lc');have PF:=(hU.tyP hM (aa_ Dk)).mono (show w.heap.size<=qG.heap.size by omega);have B8:=hm.grown hM hm.size (fun j e=>by cases e;omega);rw[<-ho];clear ho;refine YW (ad_ rfl _ W8 (w.heap.size+2) _ _ _ _ _ rfl W0 underlying35 rfl (by kernel_rfl) rfl) rfl ?_;exact⟨⟨_,5,rfl,by rw[hS.out,if_neg (by rw[hz];simp)],by rw[hS.out,if_neg (by rw[hz];simp)];exact PF,by rw[hS.out,if_neg (by rw[hz];simp)];exact hd⟩,B8⟩
    ·obtain⟨y0,y1,y2,y3,y4,y5⟩:=qo.six';obtain⟨x0,x1,x2,x3,x4,x5⟩:=ht.six';obtain⟨f0,f1,f2,f3,f4,f5⟩:=fz6 ht;go_wp2;obtain⟨W8,ho,W0,hM⟩:=AV ht (.int .i64 q.size) (.int .i64 q.next) (.slice e2a e2n e2c) (.slice v2a v2n v2c) (.slice r2a r2n r2c) (.slice a10 (l2n+sn) cap10);have PF:=(hV.tyP hM (aa_ ht)).mono (show w.heap.size<=w1.heap.size by omega);have B8:=ha.grown hM ha.size (fun j e=>by cases e;omega);rw[<-ho];clear ho;refine YW (ad_ rfl _ W8 (w.heap.size+2) _ _ _ _ _ rfl W0 underlying35 rfl (by kernel_rfl) rfl) rfl ?_;exact⟨⟨_,0,rfl,by rw[hS.out,if_pos hz],by rw[hS.out,if_pos hz];exact PF,by rw[hS.out,if_pos hz];exact qi⟩,B8⟩
end Go.Proofs.YtahenegmbmnmjaaGreatDoor
