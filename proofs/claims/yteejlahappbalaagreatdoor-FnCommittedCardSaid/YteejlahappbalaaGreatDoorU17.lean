/- Texts of pools, read and written; what is drawn. -/
import Derived.Test.YteejlahappbalaaGreatDoorU04
import Derived.Test.YteejlahappbalaaGreatDoorU16
set_option maxHeartbeats 20000000
set_option maxRecDepth 100000
namespace Go.Proofs.YteejlahappbalaaGreatDoor
section
open Go Go.RowKit Go.BigFrame Go.Shelf Tryz
theorem HQ (B0:Nat)(v:Value)(p:Po)(w:World)(h:AC B0 w v p)(hd:A7 p)(hN:Je p) :
  Calls prog 46 #[v] w fun e w'=>e=.returned (.string ⟨(Ay p).toArray⟩)∧Below w.heap.size w w':=by
 obtain⟨ea,en,ec,va,vn,vc,ra,rn,rc,la,ln,lc,rfl,⟨h1,_⟩,⟨h2,_⟩,⟨h3,_⟩,h4,_⟩:=h;obtain⟨R,hR⟩:∃ R,Hid (Ay p=R):=⟨_,rfl⟩;have hc:=hN.len;rw[hR.out] at hc;rw[hR.out];obtain⟨L1,hD⟩:∃ x,Hid (Ah (hdW p)=x):=⟨_,rfl⟩;obtain⟨L2,kF⟩:∃ x,Hid (L1++EA p.ex=x):=⟨_,rfl⟩;obtain⟨L3,kE⟩:∃ x,Hid (L2++Cc p.vs=x):=⟨_,rfl⟩;obtain⟨L4,kD⟩:∃ x,Hid (L3++Bz EH p.rf=x):=⟨_,rfl⟩;have h0:Hid (L4++Bz Cs p.lt=R):=by show _=_;rw[<-hR.out,<-kD.out,<-kE.out,<-kF.out,<-hD.out];rfl
 have l5:Hid ((L4++Bz Cs p.lt).length<=1000000):=by show _<=_;rw[h0.out];exact hc
 have l4:Hid ((L3++Bz EH p.rf).length<=1000000):=dJ;have l3:Hid ((L2++Cc p.vs).length<=1000000):=dK;have l2:Hid ((L1++EA p.ex).length<=1000000):=dL;have l1:Hid ((Ah (hdW p)).length<=1000000):=by have:=l2.out;rw[ZE,<-hD.out] at this;show _<=_;omega
 have zm:Hid (p.ex.length=en):=h1.len;have zl:Hid (p.vs.length=vn):=h2.len;have z9:en<=4194304:=by rw[<-h1.len];exact hd.1
 have ka:vn<=4194304:=by rw[<-h2.len];exact hd.2.2.1
 have z0:rn<=4194304:=by rw[<-h3.len];exact hd.2.2.2.2.1
 have z1:ln<=4194304:=by rw[<-h4.len];exact hd.2.2.2.2.2.2.1
 obtain⟨sz1,sz2⟩:=hN.size;obtain⟨nx1,nx2⟩:=hN.next;obtain⟨ds,qb⟩:∃ zz,Hid (AG p.size=zz):=⟨_,rfl⟩;have kds:∀ u:World,Calls prog 97 #[.int .i64 p.size] u fun e w'=>e=.returned (.string ds)∧Below u.heap.size u w':=fun u=>by rw[<-qb.out];exact Bn p.size u sz1 sz2
 obtain⟨dn,qa⟩:∃ zz,Hid (AG p.next=zz):=⟨_,rfl⟩;have kdn:∀ u:World,Calls prog 97 #[.int .i64 p.next] u fun e w'=>e=.returned (.string dn)∧Below u.heap.size u w':=fun u=>by rw[<-qa.out];exact Bn p.next u nx1 nx2
 obtain⟨s0,hK⟩:∃ z,Hid (z=(⟨#[112,111,111,108,32]⟩++ds++⟨#[32]⟩++dn++⟨#[10]⟩:ByteArray)):=⟨_,rfl⟩;have hh:Hid (s0.data.toList=L1):=by
  show _=_;rw[hK.out,<-hD.out];unfold hdW Ah;rw[qb.out,qa.out];simp[Cv,Dv,ByteArray.data_append]
 have t0:((⟨#[112,111,111,108,32]⟩:ByteArray)++ds++⟨#[32]⟩++dn++⟨#[10]⟩).size<=1000000:=by
  rw[<-hK.out];show s0.data.size<=_;rw[<-Array.length_toList,hh.out,<-hD.out];exact l1.out
 obtain⟨e04,t0⟩:=AI t0;obtain⟨e03,t0⟩:=AI t0;obtain⟨e02,t0⟩:=AI t0;obtain⟨e01,_⟩:=AI t0;go_enter func46,ntmps46;have C:=Blk.new w #[.int .i64 p.size,.int .i64 p.next,.slice ea en ec,.slice va vn vc,.slice ra rn rc,.slice la ln lc] 33;have hn:Below w.heap.size w (w.alloc (.cells #[.int .i64 p.size,.int .i64 p.next,.slice ea en ec,.slice va vn vc,.slice ra rn rc,.slice la ln lc] 33)):=sM;go_wp2_with fail;replace h1:=h1.below hn;replace h2:=h2.below hn;replace h3:=h3.below hn;replace h4:=h4.below hn;generalize w.alloc (.cells #[.int .i64 p.size,.int .i64 p.next,.slice ea en ec,.slice va vn vc,.slice ra rn rc,.slice la ln lc] 33)=W at *;have q0:=Ad (C.cell 0);have q1:=Ad (C.cell 1);refine ab_ sI sI ?_;have hJ:=aA_ W;iterate 3 (go_big_quiet_step (first | (go_at_call 97;exact an_ (kds _))))
 iterate 5 (go_big_quiet_step (first | (go_at_call 97;exact an_ (kdn _))))
 iterate 3 (go_big_quiet_step (fail))
 refine wpQuiet_nil ?_;intro w1 qs;have hZ:=ah_ qs;rw[<-hK.out];clear qs q0 q1 e01 e02 e03 e04 t0;go_wp2_with fail;go_loopw [3,4] (fun s ix wr=>∃ (k:Nat) (o:ByteArray),k<=en∧ix=.int .i64 k∧s=.string o∧Hid (o.data.toList=L1++EA (p.ex.take k))∧Below W.heap.size W wr) (fun _ ix _=>en-(intOf ix).toNat)
 case atStart=>exact⟨0,s0,Zg _,rfl,rfl,by show _=_;rw[hh.out];simp[EA],hZ⟩
 case round=>
  clear hZ hh hK kds kdn;obtain⟨k,o,hk,rfl,rfl,ho,hB⟩:=hrel;have y2:=(C.below hB).cell 2;by_cases hlt:k<en
  ·obtain⟨eb,eo,x,rfl,hx,c0,c1⟩:=be_ (h1.below hB) hlt;obtain⟨na1,na2⟩:=hN.ex x (Zc hx);have hf:Hid (EA (p.ex.take (k+1))=EA (p.ex.take k)++Ah (exW x)):=Cr hx;have ha:=Ca (f:=fun e=>Ah (exW e)) hx l2.out;change (L1++EA (p.ex.take k)++Ah (exW x)).length<=1000000 at ha;rw[<-ho.out] at ha;obtain⟨da,hg⟩:∃ zz,Hid (AG x.a=zz):=⟨_,rfl⟩;have kda:∀ u:World,Calls prog 97 #[.int .i64 x.a] u fun e w'=>e=.returned (.string da)∧Below u.heap.size u w':=fun u=>by rw[<-hg.out];exact Bn x.a u na1 na2
   obtain⟨xd,hV⟩:∃ z,Hid (x.d=z):=⟨_,rfl⟩;unfold exW at ha;rw[hg.out,hV.out] at ha;rw[hV.out] at c1;obtain⟨nA,hS⟩:∃ z,Hid (z=(⟨(o.data.toList++Ah [⟨#[101,120,116,101,110,116]⟩,da,xd]).toArray⟩:ByteArray)):=⟨_,rfl⟩;have h8:Hid (o++⟨#[101,120,116,101,110,116,32]⟩++da++⟨#[32]⟩++xd++⟨#[10]⟩=nA):=by show _=_;rw[hS.out];refine DY ?_;unfold Ah;simp[Cv,Dv,ByteArray.data_append]
   have tA:(o++⟨#[101,120,116,101,110,116,32]⟩++da++⟨#[32]⟩++xd++⟨#[10]⟩).size<=1000000:=by rw[h8.out,hS.out];show (o.data.toList++Ah [⟨#[101,120,116,101,110,116]⟩,da,xd]).toArray.size<=_;rw[YI];exact ha
   obtain⟨eA5,tA⟩:=AI tA;obtain⟨eA4,tA⟩:=AI tA;obtain⟨eA3,tA⟩:=AI tA;obtain⟨eA2,tA⟩:=AI tA;obtain⟨eA1,tA⟩:=AI tA;have hQ:(k:Int)<en:=sH;have q0:=Ad c0;have q1:=Ad c1;have q2:=Ad y2;clear ha c0 c1 tA h2 h3 h4;go_wp2_with fail;refine ab_ sI sI ?_;have hJ:=aA_ wr;iterate 9 (go_big_quiet_step (first | (go_at_call 97;exact an_ (kda _))))
   iterate 11 (go_big_quiet_step (fail))
   refine wpQuiet_nil ?_;intro w2 hA;have hC:=Aa hB (ah_ hA);clear hA;rw[h8.out];go_wp2;go_roundw
   case rel=>
    refine ⟨k+1,nA,sH,sQ,rfl,(F8 hS.out ho.out).trans ?_,hC⟩;rw[hf.out,<-ZC];unfold exW;rw[hg.out,hV.out]
   case measure=>simp[intOf];omega
  ·have qc:¬ (k:Int)<en:=sH;have hp:Hid (k=en):=fB;replace ho:Hid (o.data.toList=L2):=by
    have:=ho.out;rw[Zk (by rw[zm.out,hp.out];exact Zd _),kF.out] at this;exact this
   go_wp2_with fail;clear qc hp hlt hk y2;go_loopw [3,5] (fun s ix wr=>∃ (k:Nat) (o:ByteArray),k<=vn∧ix=.int .i64 k∧s=.string o∧Hid (o.data.toList=L2++Cc (p.vs.take k))∧Below W.heap.size W wr) (fun _ ix _=>vn-(intOf ix).toNat)
   case atStart=>exact⟨0,o,Zg _,rfl,rfl,by show _=_;rw[ho.out];simp[Cc],hB⟩
   case round=>
    clear ho hB h1;obtain⟨k2,o2,hk,rfl,rfl,ho,hB⟩:=hrel;have y3:=(C.below hB).cell 3;by_cases hlt:k2<vn
    ·obtain⟨vb,vo,x,pa,pn,pc,rfl,hx,c0,c1,c2,c3,hI,_,_⟩:=b5_ (h2.below hB) hlt;obtain⟨⟨na1,na2⟩,z3,z2,z4⟩:=hN.vs x (Zc hx);have hf:Hid (Cc (p.vs.take (k2+1))=Cc (p.vs.take k2)++GI x):=Cr hx;have ha:=Ca (f:=GI) hx l3.out;change (L2++Cc (p.vs.take k2)++GI x).length<=1000000 at ha;have zn:Hid (x.its.length=pn):=hI.len;have kb:pn<=4194304:=by rw[<-hI.len];exact z2
     obtain⟨da,hg⟩:∃ zz,Hid (AG x.id=zz):=⟨_,rfl⟩;have kda:∀ u:World,Calls prog 97 #[.int .i64 x.id] u fun e w'=>e=.returned (.string da)∧Below u.heap.size u w':=fun u=>by rw[<-hg.out];exact Bn x.id u na1 na2
     obtain⟨xn,hX⟩:∃ z,Hid (x.nm=z):=⟨_,rfl⟩;obtain⟨xf,hW⟩:∃ z,Hid (x.fx=z):=⟨_,rfl⟩;obtain⟨fl,hO⟩:∃ z,Hid (JG xf=z):=⟨_,rfl⟩;have kfl:∀ u:World,Calls prog 98 #[.bool xf] u fun e w'=>e=.returned (.string fl)∧w'=u:=fun u=>by rw[<-hO.out];exact Ma xf u
     rw[hX.out] at c1;rw[hW.out] at c2;obtain⟨Lv,hF⟩:∃ z,Hid (L2++Cc (p.vs.take k2)++Ah (voW x)=z):=⟨_,rfl⟩;have hU:Hid (voW x=[⟨#[118,111,108,117,109,101]⟩,da,xn,fl]):=by show _=_;unfold voW;rw[hg.out,hX.out,hW.out,hO.out]
     have hv:Hid (L2++Cc (p.vs.take (k2+1))=Lv++Dq x.its):=by show _=_;rw[hf.out,<-hF.out];unfold GI;simp
     have hq:Hid ((Lv++Dq x.its).length<=1000000):=by show _<=_;rw[<-hv.out,hf.out,<-ZC];exact ha
     have he:(o2.data.toList++Ah [⟨#[118,111,108,117,109,101]⟩,da,xn,fl]).length<=1000000:=by
      have:=hq.out;rw[ZE,<-hF.out,hU.out,<-ho.out] at this;omega
     clear ha;obtain⟨nB,hG⟩:∃ z,Hid (z=(⟨(o2.data.toList++Ah [⟨#[118,111,108,117,109,101]⟩,da,xn,fl]).toArray⟩:ByteArray)):=⟨_,rfl⟩;have hL:Hid (o2++⟨#[118,111,108,117,109,101,32]⟩++da++⟨#[32]⟩++xn++⟨#[32]⟩++fl++⟨#[10]⟩=nB):=by show _=_;rw[hG.out];refine DY ?_;unfold Ah;simp[Cv,Dv,ByteArray.data_append]
     have tB:(o2++⟨#[118,111,108,117,109,101,32]⟩++da++⟨#[32]⟩++xn++⟨#[32]⟩++fl++⟨#[10]⟩).size<=1000000:=by rw[hL.out,hG.out];show (o2.data.toList++Ah [⟨#[118,111,108,117,109,101]⟩,da,xn,fl]).toArray.size<=_;rw[YI];exact he
     obtain⟨eB7,tB⟩:=AI tB;obtain⟨eB6,tB⟩:=AI tB;obtain⟨eB5,tB⟩:=AI tB;obtain⟨eB4,tB⟩:=AI tB;obtain⟨eB3,tB⟩:=AI tB;obtain⟨eB2,tB⟩:=AI tB;obtain⟨eB1,tB⟩:=AI tB;have hQ:(k2:Int)<vn:=sH;clear he tB hf;go_wp2_with fail;have D:=Blk.new wr #[.int .i64 x.id,.string xn,.bool xf,.slice pa pn pc] 115;have zb:Below W.heap.size W (wr.alloc (.cells #[.int .i64 x.id,.string xn,.bool xf,.slice pa pn pc] 115)):=hB.alloc hB.size _;have zc:=hI.below (hb:=(Yg _ wr).alloc (Zd _) (.cells #[.int .i64 x.id,.string xn,.bool xf,.slice pa pn pc] 115));clear c0 c1 c2 c3 y3 hI;generalize wr.alloc (.cells #[.int .i64 x.id,.string xn,.bool xf,.slice pa pn pc] 115)=V at *;have q0:=Ad (D.cell 0);have q1:=Ad (D.cell 1);have q2:=Ad (D.cell 2);refine ab_ sI sI ?_;have hJ:=aA_ V;iterate 5 (go_big_quiet_step (first | (go_at_call 97;exact an_ (kda _))))
     iterate 9 (go_big_quiet_step (first | (go_at_call 98;exact am_ (kfl _))))
     iterate 3 (go_big_quiet_step (fail))
     refine wpQuiet_nil ?_;intro w2 hA;have hC:=ah_ hA;clear hA q0 q1 q2 kda kfl;rw[hL.out];have qp:Hid (nB.data.toList=Lv):=(F8 hG.out ho.out).trans (by rw[<-hF.out,hU.out]);clear hG hL hU hF hg hX hW hO ho hB;go_wp2_with fail;go_loopw [3,7] (fun s ix wr=>∃ (k:Nat) (o:ByteArray),k<=pn∧ix=.int .i64 k∧s=.string o∧Hid (o.data.toList=Lv++Dq (x.its.take k))∧Below V.heap.size V wr) (fun _ ix _=>pn-(intOf ix).toNat)
     case atStart=>exact⟨0,nB,Zg _,rfl,rfl,by show _=_;rw[qp.out];simp[Dq],hC⟩
     case round=>
      clear qp hC;obtain⟨j,o3,hj,rfl,rfl,ho,hB⟩:=hrel;obtain⟨wj,rfl⟩:∃ z,z=wr:=⟨_,rfl⟩;have y3:=(D.below hB).cell 3;by_cases hltj:j<pn
      ·obtain⟨ib,io,y,ga,gn,gc,rfl,hy,c0,c1,hP,_,_,_⟩:=bO_ (zc.below hB) hltj;have q7:=Zc hy;have z5:=z3 y q7;have zd:Hid (y.ps.length=gn):=hP.len;have z6:gn<=4194304:=by rw[<-hP.len];exact z4 y q7
       have hf:Hid (Dq (x.its.take (j+1))=Dq (x.its.take j)++itW y):=Hw hy;have ha:=Ca (f:=itW) hy hq.out;change (Lv++Dq (x.its.take j)++itW y).length<=1000000 at ha;obtain⟨yn,hY⟩:∃ z,Hid (y.nm=z):=⟨_,rfl⟩;rw[hY.out] at c0;obtain⟨Lf,hE⟩:∃ z,Hid (Lv++Dq (x.its.take j)++Ah [⟨#[102,105,108,101]⟩,yn]=z):=⟨_,rfl⟩;have hw:Hid (Lv++Dq (x.its.take (j+1))=Lf++Bf y.ps):=by show _=_;rw[hf.out,<-hE.out];unfold itW;rw[hY.out];simp
       have ql:Hid ((Lf++Bf y.ps).length<=1000000):=by show _<=_;rw[<-hw.out,hf.out,<-ZC];exact ha
       have he:(o3.data.toList++Ah [⟨#[102,105,108,101]⟩,yn]).length<=1000000:=by
        have:=ql.out;rw[ZE,<-hE.out,<-ho.out] at this;omega
       clear ha;obtain⟨nF,hH⟩:∃ z,Hid (z=(⟨(o3.data.toList++Ah [⟨#[102,105,108,101]⟩,yn]).toArray⟩:ByteArray)):=⟨_,rfl⟩;have hM:Hid (o3++⟨#[102,105,108,101,32]⟩++yn++⟨#[10]⟩=nF):=by show _=_;rw[hH.out];refine DY ?_;unfold Ah;simp[Cv,Dv,ByteArray.data_append]
       have tF:(o3++⟨#[102,105,108,101,32]⟩++yn++⟨#[10]⟩).size<=1000000:=by rw[hM.out,hH.out];show (o3.data.toList++Ah [⟨#[102,105,108,101]⟩,yn]).toArray.size<=_;rw[YI];exact he
       obtain⟨eF3,tF⟩:=AI tF;obtain⟨eF2,tF⟩:=AI tF;obtain⟨eF1,tF⟩:=AI tF;have qm:(j:Int)<pn:=sH;clear he tF hf;have qq:Hid (nF.data.toList=Lf):=(F8 hH.out ho.out).trans hE.out;go_wp2_with fail;rw[hM.out];clear hM hH hE ho hY eF1 eF2 eF3;go_loopw [3,8] (fun s ix wr=>∃ (m:Nat) (o:ByteArray),m<=gn∧ix=.int .i64 m∧s=.string o∧Hid (o.data.toList=Lf++Bf (y.ps.take m))∧Below wj.heap.size wj wr) (fun _ ix _=>gn-(intOf ix).toNat)
       case atStart=>exact⟨0,nF,Zg _,rfl,rfl,by show _=_;rw[qq.out];simp[Bf],Yg _ _⟩
       case round=>
        clear qq;obtain⟨m,o4,hm,rfl,rfl,ho,hl⟩:=hrel;have c1':=Ab hl c1;have y3':=Ab hl y3;by_cases hltm:m<gn
        ·obtain⟨gb,go,z,rfl,hz,d0,d1,d2⟩:=bi_ (hP.below hl) hltm;obtain⟨⟨za1,za2⟩,⟨zf1,zf2⟩,zn1,zn2⟩:=z5 z (Zc hz);have hf:Hid (Bf (y.ps.take (m+1))=Bf (y.ps.take m)++Ah (ptW z)):=FI hz;have ha:=Ca (f:=fun q=>Ah (ptW q)) hz ql.out;change (Lf++Bf (y.ps.take m)++Ah (ptW z)).length<=1000000 at ha;rw[<-ho.out] at ha;obtain⟨pa1,hr⟩:∃ zz,Hid (AG z.a=zz):=⟨_,rfl⟩;have kpa1:∀ u:World,Calls prog 97 #[.int .i64 z.a] u fun e w'=>e=.returned (.string pa1)∧Below u.heap.size u w':=fun u=>by rw[<-hr.out];exact Bn z.a u za1 za2
         obtain⟨pf1,hs⟩:∃ zz,Hid (AG z.f=zz):=⟨_,rfl⟩;have kpf1:∀ u:World,Calls prog 97 #[.int .i64 z.f] u fun e w'=>e=.returned (.string pf1)∧Below u.heap.size u w':=fun u=>by rw[<-hs.out];exact Bn z.f u zf1 zf2
         obtain⟨pn1,ht⟩:∃ zz,Hid (AG z.n=zz):=⟨_,rfl⟩;have kpn1:∀ u:World,Calls prog 97 #[.int .i64 z.n] u fun e w'=>e=.returned (.string pn1)∧Below u.heap.size u w':=fun u=>by rw[<-ht.out];exact Bn z.n u zn1 zn2
         have qr:Hid (ptW z=[⟨#[112,97,114,116]⟩,pa1,pf1,pn1]):=by show _=_;unfold ptW;rw[hr.out,hs.out,ht.out]
         rw[qr.out] at ha;obtain⟨nG,hT⟩:∃ z,Hid (z=(⟨(o4.data.toList++Ah [⟨#[112,97,114,116]⟩,pa1,pf1,pn1]).toArray⟩:ByteArray)):=⟨_,rfl⟩;have h9:Hid (o4++⟨#[112,97,114,116,32]⟩++pa1++⟨#[32]⟩++pf1++⟨#[32]⟩++pn1++⟨#[10]⟩=nG):=by show _=_;rw[hT.out];refine DY ?_;unfold Ah;simp[Cv,Dv,ByteArray.data_append]
         have tG:(o4++⟨#[112,97,114,116,32]⟩++pa1++⟨#[32]⟩++pf1++⟨#[32]⟩++pn1++⟨#[10]⟩).size<=1000000:=by rw[h9.out,hT.out];show (o4.data.toList++Ah [⟨#[112,97,114,116]⟩,pa1,pf1,pn1]).toArray.size<=_;rw[YI];exact ha
         obtain⟨eG7,tG⟩:=AI tG;obtain⟨eG6,tG⟩:=AI tG;obtain⟨eG5,tG⟩:=AI tG;obtain⟨eG4,tG⟩:=AI tG;obtain⟨eG3,tG⟩:=AI tG;obtain⟨eG2,tG⟩:=AI tG;obtain⟨eG1,tG⟩:=AI tG;have qn:(m:Int)<gn:=sH;clear ha tG;go_wp2_with fail;have E:=Blk.new wr #[.int .i64 z.a,.int .i64 z.f,.int .i64 z.n] 156;have za:Below wj.heap.size wj (wr.alloc (.cells #[.int .i64 z.a,.int .i64 z.f,.int .i64 z.n] 156)):=hl.alloc hl.size _;clear d0 d1 d2 c1' y3';generalize wr.alloc (.cells #[.int .i64 z.a,.int .i64 z.f,.int .i64 z.n] 156)=V2 at *;have q0:=Ad (E.cell 0);have q1:=Ad (E.cell 1);have q2:=Ad (E.cell 2);refine ab_ sI sI ?_;have hJ:=aA_ V2;iterate 5 (go_big_quiet_step (first | (go_at_call 97;exact an_ (kpa1 _))))
         iterate 5 (go_big_quiet_step (first | (go_at_call 97;exact an_ (kpf1 _))))
         iterate 5 (go_big_quiet_step (first | (go_at_call 97;exact an_ (kpn1 _))))
         iterate 3 (go_big_quiet_step (fail))
         refine wpQuiet_nil ?_;intro w5 q3;have q8:=Aa za (ah_ q3);clear q3 q0 q1 q2;rw[h9.out];go_wp2;go_roundw
         case rel=>
          refine ⟨m+1,nG,sH,sQ,rfl,(F8 hT.out ho.out).trans ?_,q8⟩;rw[hf.out,<-ZC,qr.out]
         case measure=>simp[intOf];omega
        ·have z8:¬ (m:Int)<gn:=sH;have zv:Hid (m=gn):=fB;replace ho:Hid (o4.data.toList=Lf++Bf y.ps):=by
          have:=ho.out;rw[Zk (by rw[zd.out,zv.out];exact Zd _)] at this;exact this
         go_wp2;go_roundw
         case rel=>exact⟨j+1,o4,sH,sQ,rfl,ho.out.trans hw.out.symm,Aa hB hl⟩
         case measure=>simp[intOf];omega
      ·have z7:¬ (j:Int)<pn:=sH;have zi:Hid (j=pn):=fB;replace ho:Hid (o3.data.toList=Lv++Dq x.its):=by
        have:=ho.out;rw[Zk (by rw[zn.out,zi.out];exact Zd _)] at this;exact this
       go_wp2;go_roundw
       case rel=>exact⟨k2+1,o3,sH,sQ,rfl,ho.out.trans hv.out.symm,Aa zb hB⟩
       case measure=>simp[intOf];omega
    ·have qc:¬ (k2:Int)<vn:=sH;have hp:Hid (k2=vn):=fB;replace ho:Hid (o2.data.toList=L3):=by
      have:=ho.out;rw[Zk (by rw[zl.out,hp.out];exact Zd _),kE.out] at this;exact this
     obtain⟨T1,h5⟩:∃ z:ByteArray,Hid (⟨(Bz EH p.rf).toArray⟩=z):=⟨_,rfl⟩;obtain⟨T2,h6⟩:∃ z:ByteArray,Hid (⟨(Bz Cs p.lt).toArray⟩=z):=⟨_,rfl⟩;have qf:(Bz EH p.rf).length<=1000000:=by have:=l4.out;rw[ZE] at this;omega
     have qi:(Bz Cs p.lt).length<=1000000:=by have:=l5.out;rw[ZE] at this;omega
     have r1:∀ u:World,Below wr.heap.size wr u->Calls prog 99 #[.string ⟨#[114,101,102]⟩,.slice ra rn rc] u fun e w'=>e=.returned (.string T1)∧Below u.heap.size u w':=fun u hu=>by rw[<-h5.out];exact Gu EH ra rn rc p.rf u ((h3.below hB).below hu) z0 hN.rf qf
     have r2:∀ u:World,Below wr.heap.size wr u->Calls prog 99 #[.string ⟨#[108,97,116,101]⟩,.slice la ln lc] u fun e w'=>e=.returned (.string T2)∧Below u.heap.size u w':=fun u hu=>by rw[<-h6.out];exact Gu Cs la ln lc p.lt u ((h4.below hB).below hu) z1 hN.lt qi
     have h7:Hid (o2++T1++T2=⟨R.toArray⟩):=by
      show _=_;rw[<-h5.out,<-h6.out];refine DY ?_;rw[<-h0.out,<-kD.out,<-ho.out];simp[ByteArray.data_append]
     have tR:(o2++T1++T2).size<=1000000:=by rw[h7.out];show R.toArray.size<=_;rw[YI];exact hc
     obtain⟨e2,tR⟩:=AI tR;obtain⟨e1,tR⟩:=AI tR;have q4:=Ad ((C.below hB).cell 4);have q5:=Ad ((C.below hB).cell 5);clear hp tR qf qi;go_wp2_with fail;refine ab_ sI sI ?_;have hJ:=aA_ wr;iterate 4 (go_big_quiet_step (first | (go_at_call 99;exact an_ (r1 _ (Grw.h _)))))
     iterate 4 (go_big_quiet_step (first | (go_at_call 99;exact an_ (r2 _ (Grw.h _)))))
     iterate 2 (go_big_quiet_step (fail))
     refine wpQuiet_nil ?_;intro w6 q6;have q9:=Aa (Aa hn hB) (ah_ q6);clear q6;rw[h7.out];go_wp2;go_returns;exact⟨rfl,q9⟩
end
section
open Go Go.RowKit Go.BigFrame Tryz
def KS (B k:Nat)(u:World)(x:Value):Prop:=∃ b cs t,x=.slice (some ⟨b,0,none⟩) k k∧Blk u b cs t∧cs.size=k∧(∀ v∈cs,∃ s:ByteArray,v=.string s∧s.size<=1)∧B<b
def KT (B:Nat)(u:World)(x:Value):Prop:=∃ b i s,x=.pointer (some ⟨b,i,none⟩)∧u.cell? ⟨b,i,none⟩=some (.string s)∧s.size<=1∧B<b
theorem KS.below {B k:Nat}{u u':World}{x:Value}(h:KS B k u x)(hb:Below u.heap.size u u'):KS B k u' x:=by
 obtain⟨b,cs,t,h1,h2,h3⟩:=h;exact⟨b,cs,t,h1,h2.below hb,h3⟩
theorem KT.below {B:Nat}{u u':World}{x:Value}(h:KT B u x)(hb:Below u.heap.size u u'):KT B u' x:=by
 obtain⟨b,i,s,h1,h2,h3⟩:=h;exact⟨b,i,s,h1,Ab hb h2,h3⟩
theorem ItR.offB {w w':World}{B b:Nat}{r:IQ}{x:It}(h:ItR w B r x)(hg:w.grownBy w' (some b))(hb:b<B):ItR w' B r x:=⟨h.nm,h.ps.off hg (fun ad e=>by have:=(h.ps.block ad e).1;simp;omega)⟩
theorem Ac.offB {α:Type}{cs:α->List Value}{sz:Nat}{t:TypeId}{w w':World}{B n cap b:Nat}{a:Option Addr}{l:List α}(h:Ac cs sz t w B a n cap l)(hg:w.grownBy w' (some b))(hb:b<B):Ac cs sz t w' B a n cap l:=h.off hg (fun ad e=>by have:=(h.block ad e).1;simp;omega)
theorem VoR.offB {w w':World}{B b:Nat}{r:VQ}{v:Vo}(h:VoR w B r v)(hg:w.grownBy w' (some b))(hb:b<B):VoR w' B r v:=⟨h.id,h.nm,h.fx,h.rows.offB hg hb,h.its.imp fun _ _ _ h=>h.offB hg hb⟩
end
section
open Go Go.RowKit Go.BigFrame Go.Shelf Tryz
theorem dV{p:Prop}(h:p:=by have:=h.lt;omega):p:=h
end
section
open Go Tryz
def Ao:Po:=⟨0,0,[],[],[],[]⟩
end
section
open Go Go.RowKit Go.BigFrame Tryz
def AY (x:Nat->Value)(D:List Nat)(a:Act):Act:=D.foldl (fun b k=>b.put (some k) (x k)) a
end
section
open Go.RowKit Go.BigFrame Tryz
theorem ol{p:Prop}(h:p:=by have:=qk.size;simp;omega):p:=h
end
section
open Go Go.RowKit Go.BigFrame Tryz
theorem HsT.snoc {B:Nat}{w w0:World}{rows:List Hr}{l:List Hy}{r:Hr}{y:Hy}(h:HsT B w rows l)(h':HT B w r y)(hold:∀ (i:Nat) q x,rows[i]?=some q->q.pa=some x->x.block<w0.heap.size)(hnew:∀ x,r.pa=some x->w0.heap.size<=x.block):HsT B w (rows++[r]) (l++[y]):=by
 have hb:∀ (i:Nat) q z,(rows++[r])[i]?=some q->(l++[y])[i]?=some z->HT B w q z:=by
  intro i q z h1 h2;by_cases hi:i<rows.length
  ·rw[ZD hi] at h1;rw[ZD (by rw[<-h.len];exact hi)] at h2;exact h.at' i q z h1 h2
  ·rw[Zv sH] at h1;rw[Zv (by rw[<-h.len];omega)] at h2;have h0:i-rows.length=0:=oR;rw[h0] at h1;rw[<-h.len,h0] at h2;simp at h1 h2;subst h1 h2;exact h'
 refine ⟨dr,hb,?_⟩;have ha:∀ (i:Nat) q,(rows++[r])[i]?=some q->rows[i]?=some q∨(i=rows.length∧q=r):=by
  intro i q h1;by_cases hi:i<rows.length
  ·rw[ZD hi] at h1;exact .inl h1
  ·rw[Zv sH] at h1;have h0:i-rows.length=0:=oR;rw[h0] at h1;simp at h1;exact .inr ⟨sH,h1.symm⟩
 intro i j p q x z hc h1 h2 hx hz;rcases ha i p h1 with g1 | ⟨e1,e1'⟩
 ·rcases ha j q h2 with g2 | ⟨e2,e2'⟩
  ·exact h.apart i j p q x z hc g1 g2 hx hz
  ·have:=hold i p x g1 hx;rw[e2'] at hz;have:=hnew z hz;omega
 ·rcases ha j q h2 with g2 | ⟨e2,e2'⟩
  ·have:=hold j q z g2 hz;rw[e1'] at hx;have:=hnew x hx;omega
  ·omega
end
section
open Go Tryz
theorem Dc (b:ByteArray):bA b.data.toList=b:=by cases b;simp[bA]
theorem En:∀ (a b:By) (k:Nat),Lib.decFrom k (a++b)=(Lib.decFrom k a).bind fun m=>Lib.decFrom m b
 |[],b,k=>rfl
 |x::a,b,k=>by
  simp only[YF,Lib.decFrom]
  cases Lib.digitVal x with
  |none=>rfl
  |some d=>exact En a b _
theorem Lk {d:Nat}(h:d<10):Lib.digitVal (UInt8.ofNat (48+d))=some d:=by
 have e:(UInt8.ofNat (48+d)).toNat=48+d:=sN;unfold Lib.digitVal;rw[e,if_pos sH];simp
theorem Dj (n:Nat):Lib.decFrom 0 (Lib.decDigits n)=some n:=by
 induction n using Nat.strongRecOn with
 |_ n ih=>
  rw[Lib.decDigits];split
  ·next h=>simp only[Lib.decFrom,Lk h];simp
  ·next h=>
   rw[En,ih (n / 10) sH];simp only[YO,Lib.decFrom,Lk (show n % 10<10 by omega)];congr 1;omega
theorem Ip (n:Nat):Lib.decDigits n≠[]:=by
 rw[Lib.decDigits];split<;>simp
theorem Lj {n:Nat}(h:(Lib.decDigits n).head?=some 48):n=0:=by
 induction n using Nat.strongRecOn with
 |_ n ih=>
  rw[Lib.decDigits] at h;split at h
  ·next hn=>
   simp at h;have:=congrArg UInt8.toNat h;simp at this;omega
  ·next hn=>
   obtain⟨x,l,hx⟩:∃ x l,Lib.decDigits (n / 10)=x::l:=by
    cases hc:Lib.decDigits (n / 10) with
    |nil=>exact absurd hc (Ip _)
    |cons x l=>exact⟨x,l,rfl⟩
   have:=ih (n / 10) sH (by rw[hx] at h ⊢;simpa using h);omega
def numP (s:By):Option Int:=
 match s with
 |45::t=>if t.length<1∨10<t.length∨t.head?=some 48 then none else (Lib.decFrom 0 t).map fun (n:Nat)=>-(n:Int)
 |t=>if t.length<1∨10<t.length∨(t.head?=some 48∧1<t.length) then none else (Lib.decFrom 0 t).map fun (n:Nat)=>(n:Int)
def AJ (n:Int):Prop:=-10000000000<n∧n<10000000000
theorem Kk (m:Nat):∀ k,k<10 ^ (m+1)->(Lib.decDigits k).length<=m+1:=by
 induction m with
 |zero=>intro k h;rw[Lib.decDigits,dif_pos sH];simp
 |succ m ih=>
  intro k h;rw[Lib.decDigits];split
  ·simp
  ·have:=ih (k / 10) (by rw[Nat.pow_succ] at h;omega);simp;omega
theorem oV{p:Prop}(h:p:=by rw[e];rfl):p:=h
theorem Io (n:Nat):∃ d r,Lib.decDigits n=UInt8.ofNat (48+d)::r∧d<10:=by
 induction n using Nat.strongRecOn with
 |_ n ih=>
  rw[Lib.decDigits];split
  ·next h=>exact⟨n,[],rfl,h⟩
  ·next h=>
   obtain⟨d,r,e,hd⟩:=ih (n / 10) sH;exact⟨d,r++[UInt8.ofNat (48+n % 10)],oV,hd⟩
theorem Qy {d:Nat}(h:d<10):UInt8.ofNat (48+d)≠45:=fun e=>by
 have:=congrArg UInt8.toNat e
 simp at this
 omega
theorem IM {t:By}(h:t.head?≠some 45):numP t=if t.length<1∨10<t.length∨(t.head?=some 48∧1<t.length) then none else (Lib.decFrom 0 t).map fun (n:Nat)=>(n:Int):=by
 unfold numP;split
 ·simp at h
 ·rfl
theorem Bh {n:Int}(h:AJ n):numP (Lib.itoa n)=some n:=by
 obtain⟨h1,h2⟩:=h;unfold Lib.itoa;split
 ·next hn=>
  obtain⟨k,rfl⟩:∃ k:Nat,n=-(k:Int):=⟨n.natAbs,sH⟩;have e:(-(k:Int)).natAbs=k:=sH;rw[e];unfold numP;simp only;have l1:=Kk 9 k sH;have l2:=List.length_pos_iff.2 (Ip k);rw[if_neg,Dj]
  ·rfl
  ·rintro (h | h | h)
   ·omega
   ·omega
   ·have:=Lj h;omega
 ·next hn=>
  obtain⟨k,rfl⟩:∃ k:Nat,n=(k:Int):=⟨n.toNat,sH⟩;have e:(k:Int).toNat=k:=sH;rw[e];have l1:=Kk 9 k sH;have l2:=List.length_pos_iff.2 (Ip k);rw[IM,if_neg,Dj]
  ·rfl
  ·rintro (h | h | ⟨h,h'⟩)
   ·omega
   ·omega
   ·have:=Lj h;subst this;rw[show Lib.decDigits 0=[48] by rw[Lib.decDigits];simp] at h';simp at h'
  ·obtain⟨d,r,e,hd⟩:=Io k;rw[e];simp only[List.head?_cons,ne_eq,Zo];exact Qy hd
def cutB (c:UInt8):By->Option (By×By)
 |[]=>none
 |x::l=>if x=c then some ([],l) else (cutB c l).map fun q=>(x::q.1,q.2)
theorem Cy {c:UInt8}:∀ {a:By} (b:By),c∉a->cutB c (a++c::b)=some (a,b)
 |[],b,_=>by simp[cutB]
 |x::a,b,h=>by
  have h1:¬ x=c:=fun e=>h dH
  have h2:c∉a:=fun e=>h dH
  simp[cutB,h1,Cy b h2]
def A0:Nat->By->List By
 |0,l=>[l]
 |k+1,l=>match cutB 32 l with
  |none=>[l]
  |some q=>q.1::A0 k q.2
def joW:List By->By
 |[]=>[]
 |[a]=>a
 |a::b::l=>a++32::joW (b::l)
theorem Ja:∀ (ws:List By) (x:By),(∀ w∈ws,(32:UInt8)∉w)->A0 ws.length (joW (ws++[x]))=ws++[x]
 |[],x,_=>rfl
 |w::ws,x,h=>by
  have ih:=Ja ws x (fun w' hw=>h w' (by simp[hw]))
  have h1:joW (w::ws++[x])=w++32::joW (ws++[x]):=by
   cases ws with
   |nil=>rfl
   |cons a l=>rfl
  rw[h1,Zw,A0,Cy _ (h w sK)];simp[ih]
def ahP (wd l:By):Bool:=(wd++[32]).isPrefixOf l
theorem Ke {wd l:By}:ahP wd l=true↔∃ r,l=wd++32::r:=by
 unfold ahP;rw[List.isPrefixOf_iff_prefix];constructor
 ·rintro⟨r,rfl⟩;exact⟨r,sK⟩
 ·rintro⟨r,rfl⟩;exact⟨r,sK⟩
theorem Pr {wd l:By}(h:ahP wd l=true)(hw:wd≠[]):l.head?=wd.head?:=by
 obtain⟨r,rfl⟩:=Ke.1 h
 cases wd with
 |nil=>exact absurd rfl hw
 |cons x t=>rfl
theorem Gy (wd x:By)(l:List By):ahP wd (joW (wd::x::l))=true:=Ke.2 ⟨_,rfl⟩
def DZ (ls:List By):By:=ls.flatMap (·++[10])
def lnsB:Nat->By->Option (List By)
 |0,s=>if s=[] then some [] else none
 |k+1,s=>if s=[] then some [] else match cutB 10 s with
  |none=>none
  |some q=>(lnsB k q.2).map (q.1::·)
theorem LM:∀ {k:Nat} {ls:List By},(∀ l∈ls,(10:UInt8)∉l)->(DZ ls).length<=k->lnsB k (DZ ls)=some ls
 |0,[],_,_=>rfl
 |k+1,[],_,_=>rfl
 |0,l::ls,_,h=>by simp[DZ] at h
 |k+1,l::ls,h,hk=>by
  have e:DZ (l::ls)=l++10::DZ ls:=by simp[DZ]
  rw[e] at hk
  simp only[ZE,Zw] at hk
  rw[e,lnsB,if_neg sK,Cy _ (h l sK)]
  simp[LM (k:=k) (ls:=ls) (fun l' hl=>h l' oA) sH]
theorem GN (a b:List By):DZ (a++b)=DZ a++DZ b:=by simp[DZ]
theorem DO (a:By)(b:List By):DZ (a::b)=a++[10]++DZ b:=by simp[DZ]
theorem Ej:∀ (l:List ByteArray),Du l=joW (l.map (·.data.toList))
 |[]=>rfl
 |[a]=>Dv a
 |a::b::l=>by
  rw[Cv,Ej (b::l)]
  simp[joW]
def Cj:By:=[112,111,111,108]
def exK:By:=[101,120,116,101,110,116]
def Ei:By:=[118,111,108,117,109,101]
def BZ:By:=[102,105,108,101]
def partK:By:=[112,97,114,116]
def DK:By:=[114,101,102]
def BQ:By:=[108,97,116,101]
def CC (s:By):Option Bool:=if s=[48] then some false else if s=[49] then some true else none
def exP (l:By):Option Ex:=match A0 2 l with
 |[_,a,d]=>(numP a).map fun n=>⟨n,bA d⟩
 |_=>none
def ptP (l:By):Option Pt:=match A0 3 l with
 |[_,a,f,n]=>(numP a).bind fun a=>(numP f).bind fun f=>(numP n).map fun n=>⟨a,f,n⟩
 |_=>none
def fileP (l:By):Option ByteArray:=match A0 1 l with
 |[_,a]=>some (bA a)
 |_=>none
def voP (l:By):Option (Int×ByteArray×Bool):=match A0 3 l with
 |[_,i,nm,f]=>(numP i).bind fun i=>(CC f).map fun f=>(i,bA nm,f)
 |_=>none
def ctP (l:By):Option Ct:=match A0 4 l with
 |[_,a,v,f,n]=>(numP a).bind fun a=>(numP v).bind fun v=>(numP n).map fun n=>⟨⟨a,v,bA f⟩,n⟩
 |_=>none
def hdP (l:By):Option (Int×Int):=match A0 2 l with
 |[_,a,b]=>(numP a).bind fun a=>(numP b).map fun b=>(a,b)
 |_=>none
def manyP {α:Type}(wd:By)(f:By->Option α):List By->Option (List α×List By)
 |[]=>some ([],[])
 |l::r=>if ahP wd l then (f l).bind fun x=>(manyP wd f r).map fun q=>(x::q.1,q.2) else some ([],l::r)
def itemsP:Nat->List By->Option (List It×List By)
 |0,ls=>some ([],ls)
 |_+1,[]=>some ([],[])
 |k+1,l::r=>if ahP BZ l then (fileP l).bind fun nm=>(manyP partK ptP r).bind fun q=>(itemsP k q.2).map fun s=>(⟨nm,q.1⟩::s.1,s.2) else some ([],l::r)
def volsP:Nat->List By->Option (List Vo×List By)
 |0,ls=>some ([],ls)
 |_+1,[]=>some ([],[])
 |k+1,l::r=>if ahP Ei l then (voP l).bind fun h=>(itemsP r.length r).bind fun q=>(volsP k q.2).map fun s=>(⟨h.1,h.2.1,h.2.2,q.1⟩::s.1,s.2) else some ([],l::r)
def Ff:List By->Option (Po×List By)
 |[]=>none
 |l::r=>if ahP Cj l then (hdP l).bind fun h=>(manyP exK exP r).bind fun a=>(volsP a.2.length a.2).bind fun b=>(manyP DK ctP b.2).bind fun c=>(manyP BQ ctP c.2).map fun d=>(⟨h.1,h.2,a.1,b.1,c.1,d.1⟩,d.2) else none
def Fm (e:Ex):By:=joW [exK,Lib.itoa e.a,e.d.data.toList]
def HC (p:Pt):By:=joW [partK,Lib.itoa p.a,Lib.itoa p.f,Lib.itoa p.n]
def Ci (x:It):List By:=joW [BZ,x.nm.data.toList]::x.ps.map HC
def EC (b:Bool):By:=if b then [49] else [48]
def BA (v:Vo):List By:=joW [Ei,Lib.itoa v.id,v.nm.data.toList,EC v.fx]::v.its.flatMap Ci
def BD (wd:By)(c:Ct):By:=joW [wd,Lib.itoa c.o.a,Lib.itoa c.o.v,c.o.f.data.toList,Lib.itoa c.n]
def CJ (p:Po):List By:=joW [Cj,Lib.itoa p.size,Lib.itoa p.next]::p.ex.map Fm++p.vs.flatMap BA++p.rf.map (BD DK)++p.lt.map (BD BQ)
theorem GO {α:Type}{f:α->By}{g:α->By}(h:∀ x,g x=f x++[10])(l:List α):DZ (l.map f)=l.flatMap g:=by
 induction l with
 |nil=>rfl
 |cons x l ih=>rw[YD,DO,ih,ZF,h]
theorem Jy {α:Type}{f:α->List By}{g:α->By}(h:∀ x,g x=DZ (f x))(l:List α):DZ (l.flatMap f)=l.flatMap g:=by
 induction l with
 |nil=>rfl
 |cons x l ih=>rw[ZF,GN,ih,ZF,h]
theorem Eb (n:Int):(AG n).data.toList=Lib.itoa n:=by simp[AG]
theorem Sp (e:Ex):Ah (exW e)=Fm e++[10]:=by
 unfold Ah exW Fm;rw[Ej];simp[Eb];rfl
theorem SO (p:Pt):Ah (ptW p)=HC p++[10]:=by
 unfold Ah ptW HC;rw[Ej];simp[Eb];rfl
theorem Ld (w:ByteArray)(c:Ct):Ah (ctL w c)=BD w.data.toList c++[10]:=by
 unfold Ah ctL BD;rw[Ej];simp[Eb]
theorem Qo (x:It):itW x=DZ (Ci x):=by
 unfold itW Ci Bf;rw[DO,GO SO];unfold Ah;rw[Ej];rfl
theorem Ot (b:Bool):(JG b).data.toList=EC b:=by cases b<;>rfl
theorem Rs (v:Vo):GI v=DZ (BA v):=by
 unfold GI BA Dq;rw[DO,Jy Qo];unfold Ah voW;rw[Ej];simp[Eb,Ot];rfl
theorem Fb (p:Po):Ay p=DZ (CJ p):=by
 unfold Ay CJ EA Cc Bz;rw[GN,GN,GN,DO,GO Sp,Jy Rs,GO (f:=BD DK) (Ld EH),GO (f:=BD BQ) (Ld Cs)];unfold Ah hdW;rw[Ej];simp[Eb];rfl
theorem Ny {n:Int}{c:UInt8}(h1:c≠45)(h2:c.toNat<48):c∉Lib.itoa n:=by
 have hd:∀ k:Nat,c∉Lib.decDigits k:=fun k=>by
  induction k using Nat.strongRecOn with
  |_ k ih=>
   rw[Lib.decDigits];have h3:∀ d:Nat,d<10->c≠UInt8.ofNat (48+d):=fun d hd e=>by
    have:=congrArg UInt8.toNat e;simp at this;omega
   split
   ·next h=>simpa using h3 k h
   ·next h=>
    intro hm;rcases Zs.1 hm with e | e
    ·exact ih (k / 10) sH e
    ·exact h3 (k % 10) sH dG
 unfold Lib.itoa;split
 ·intro hm;rcases Zn.1 hm with e | e
  ·exact h1 e
  ·exact hd _ e
 ·exact hd _
theorem BW (n:Int):(32:UInt8)∉Lib.itoa n:=Ny sJ sJ
theorem GY (n:Int):(10:UInt8)∉Lib.itoa n:=Ny sJ sJ
structure Ih (p:Po):Prop where
 hd:AJ p.size∧AJ p.next
 ex:∀ e∈p.ex,AJ e.a∧(10:UInt8)∉e.d.data.toList
 vs:∀ v∈p.vs,AJ v.id∧((32:UInt8)∉v.nm.data.toList∧(10:UInt8)∉v.nm.data.toList)∧∀ x∈v.its,((32:UInt8)∉x.nm.data.toList∧(10:UInt8)∉x.nm.data.toList)∧∀ t∈x.ps,AJ t.a∧AJ t.f∧AJ t.n
 ct:∀ c∈p.rf++p.lt,(AJ c.o.a∧AJ c.o.v∧AJ c.n)∧(32:UInt8)∉c.o.f.data.toList∧(10:UInt8)∉c.o.f.data.toList
theorem U8 {a b c:By}(ha:(32:UInt8)∉a)(hb:(32:UInt8)∉b):A0 2 (joW [a,b,c])=[a,b,c]:=Ja [a,b] c (by simp[ha,hb])
theorem Vr {a b:By}(ha:(32:UInt8)∉a):A0 1 (joW [a,b])=[a,b]:=Ja [a] b (by simp[ha])
theorem Va {a b c d:By}(ha:(32:UInt8)∉a)(hb:(32:UInt8)∉b)(hc:(32:UInt8)∉c):A0 3 (joW [a,b,c,d])=[a,b,c,d]:=Ja [a,b,c] d (by simp[ha,hb,hc])
theorem Vs {a b c d e:By}(ha:(32:UInt8)∉a)(hb:(32:UInt8)∉b)(hc:(32:UInt8)∉c)(hd:(32:UInt8)∉d):A0 4 (joW [a,b,c,d,e])=[a,b,c,d,e]:=Ja [a,b,c,d] e (by simp[ha,hb,hc,hd])
theorem Uk {e:Ex}(h:AJ e.a):exP (Fm e)=some e:=by
 unfold exP Fm;rw[U8 sJ (BW _)];simp[Bh h,Dc]
theorem Ux {p:Pt}(h:AJ p.a∧AJ p.f∧AJ p.n):ptP (HC p)=some p:=by
 unfold ptP HC;rw[Va sJ (BW _) (BW _)];simp[Bh h.1,Bh h.2.1,Bh h.2.2]
theorem PU (b:ByteArray):fileP (joW [BZ,b.data.toList])=some b:=by
 unfold fileP;rw[Vr sJ];simp[Dc]
theorem Qb (b:Bool):CC (EC b)=some b:=by cases b<;>rfl
theorem UD {v:Vo}(h:AJ v.id)(h2:(32:UInt8)∉v.nm.data.toList):voP (joW [Ei,Lib.itoa v.id,v.nm.data.toList,EC v.fx])=some (v.id,v.nm,v.fx):=by
 unfold voP;rw[Va sJ (BW _) h2];simp[Bh h,Dc,Qb]
theorem PD {wd:By}{c:Ct}(hw:(32:UInt8)∉wd)(h:AJ c.o.a∧AJ c.o.v∧AJ c.n)(h2:(32:UInt8)∉c.o.f.data.toList):ctP (BD wd c)=some c:=by
 unfold ctP BD;rw[Vs hw (BW _) (BW _) h2];simp[Bh h.1,Bh h.2.1,Bh h.2.2,Dc]
theorem Un {a b:Int}(h:AJ a∧AJ b):hdP (joW [Cj,Lib.itoa a,Lib.itoa b])=some (a,b):=by
 unfold hdP;rw[U8 sJ (BW _)];simp[Bh h.1,Bh h.2]
def Gg (wd:By)(ls:List By):Prop:=∀ l r,ls=l::r->ahP wd l=false
theorem LP (wd:By):Gg wd []:=fun l r h=>by cases h
theorem G6 {wd l:By}{r:List By}(hw:wd≠[])(h:l.head?≠wd.head?):Gg wd (l::r):=fun l' r' e=>by
 obtain⟨rfl,rfl⟩:=List.cons.inj e
 cases hc:ahP wd l with
 |false=>rfl
 |true=>exact absurd (Pr hc hw) h
theorem G4 {α:Type}{wd:By}{f:By->Option α}{g:α->By}:∀ {xs:List α} {r:List By},(∀ x∈xs,ahP wd (g x)=true∧f (g x)=some x)->Gg wd r->manyP wd f (xs.map g++r)=some (xs,r)
 |[],[],_,_=>rfl
 |[],l::r,_,h=>by
  show manyP wd f (l::r)=_
  rw[manyP,h l r rfl];rfl
 |x::xs,r,h,hr=>by
  obtain⟨h1,h2⟩:=h x sK
  show manyP wd f (g x::(xs.map g++r))=_
  rw[manyP,if_pos h1,h2,YO,G4 (fun y hy=>h y rN) hr]
  rfl
theorem LI (w x:By)(l:List By)(hw:w≠[]):(joW (w::x::l)).head?=w.head?:=by
 cases w with
 |nil=>exact absurd rfl hw
 |cons a t=>rfl
theorem LH:∀ {xs:List It} {r:List By} {k:Nat},(∀ x∈xs,∀ t∈x.ps,AJ t.a∧AJ t.f∧AJ t.n)->Gg BZ r->Gg partK r->(xs.flatMap Ci++r).length<=k->itemsP k (xs.flatMap Ci++r)=some (xs,r)
 |[],[],0,_,_,_,_=>rfl
 |[],[],k+1,_,_,_,_=>rfl
 |[],l::r,0,_,_,_,h=>by simp at h
 |[],l::r,k+1,_,h,_,_=>by
  show itemsP (k+1) (l::r)=_
  rw[itemsP,h l r rfl];rfl
 |x::xs,r,0,_,_,_,h=>by simp[Ci] at h
 |x::xs,r,k+1,h,h1,h2,hk=>by
  have e:(x::xs).flatMap Ci++r=joW [BZ,x.nm.data.toList]::(x.ps.map HC++(xs.flatMap Ci++r)):=by simp[Ci]
  rw[e] at hk ⊢
  have hn:Gg partK (xs.flatMap Ci++r):=by
   cases xs with
   |nil=>exact h2
   |cons y ys=>exact G6 sJ (by rw[LI _ _ _ sJ];decide)
  rw[itemsP,if_pos (Gy _ _ _),PU,YO,G4 (g:=HC) (fun t ht=>⟨Gy _ _ _,Ux (h x sK t ht)⟩) hn,YO];simp only;rw[LH (fun y hy=>h y rN) h1 h2 (by simp at hk ⊢;omega)];rfl
theorem Oa:∀ {vs:List Vo} {r:List By} {k:Nat},(∀ v∈vs,AJ v.id∧((32:UInt8)∉v.nm.data.toList)∧∀ x∈v.its,∀ t∈x.ps,AJ t.a∧AJ t.f∧AJ t.n)->Gg Ei r->Gg BZ r->Gg partK r->(vs.flatMap BA++r).length<=k->volsP k (vs.flatMap BA++r)=some (vs,r)
 |[],[],0,_,_,_,_,_=>rfl
 |[],[],k+1,_,_,_,_,_=>rfl
 |[],l::r,0,_,_,_,_,h=>by simp at h
 |[],l::r,k+1,_,h,_,_,_=>by
  show volsP (k+1) (l::r)=_
  rw[volsP,h l r rfl];rfl
 |v::vs,r,0,_,_,_,_,h=>by simp[BA] at h
 |v::vs,r,k+1,h,h1,h2,h3,hk=>by
  have e:(v::vs).flatMap BA++r=joW [Ei,Lib.itoa v.id,v.nm.data.toList,EC v.fx]::(v.its.flatMap Ci++(vs.flatMap BA++r)):=by simp[BA]
  rw[e] at hk ⊢
  obtain⟨n1,n2,n3⟩:=h v sK
  have hn:Gg BZ (vs.flatMap BA++r)∧Gg partK (vs.flatMap BA++r):=by
   cases vs with
   |nil=>exact⟨h2,h3⟩
   |cons y ys=>exact⟨G6 sJ (by rw[LI _ _ _ sJ];decide),G6 sJ (by rw[LI _ _ _ sJ];decide)⟩
  rw[volsP,if_pos (Gy _ _ _),UD n1 n2,YO,LH n3 hn.1 hn.2 (Zd _),YO];simp only;rw[Oa (fun y hy=>h y rN) h1 h2 h3 (by simp at hk ⊢;omega)];rfl
theorem NF {wd w2:By}{l:List Ct}{r:List By}(hw:wd≠[])(h2:w2≠[])(h:w2.head?≠wd.head?)(hr:Gg wd r):Gg wd (l.map (BD w2)++r):=by
 cases l with
 |nil=>exact hr
 |cons c l=>exact G6 hw (by rw[BD,LI _ _ _ h2];exact h)
theorem SN {p:Po}(h:Ih p):Ff (CJ p)=some (p,[]):=by
 obtain⟨ph,pe,pv,pc⟩:=h;have a1:∀ wd:By,wd≠[]->wd.head?≠some 108->Gg wd (p.lt.map (BD BQ)):=fun wd hw hh=>by
  have:=NF (l:=p.lt) (r:=[]) hw (show BQ≠[] by decide) (fun e=>hh e.symm) (LP _);simpa using this
 have a2:∀ wd:By,wd≠[]->wd.head?≠some 108->wd.head?≠some 114->Gg wd (p.rf.map (BD DK)++p.lt.map (BD BQ)):=fun wd hw hh hg=>NF hw (show DK≠[] by decide) (fun e=>hg e.symm) (a1 wd hw hh);have e:CJ p=joW [Cj,Lib.itoa p.size,Lib.itoa p.next]::(p.ex.map Fm++(p.vs.flatMap BA++(p.rf.map (BD DK)++(p.lt.map (BD BQ)++[])))):=by simp[CJ]
 have a3:Gg exK (p.vs.flatMap BA++(p.rf.map (BD DK)++(p.lt.map (BD BQ)++[]))):=by
  cases p.vs with
  |nil=>simpa using a2 exK sJ sJ sJ
  |cons v vs=>exact G6 sJ (by rw[LI _ _ _ sJ];decide)
 have b1:=a2 Ei sJ sJ sJ;have b2:=a2 BZ sJ sJ sJ;have b3:=a2 partK sJ sJ sJ;have b4:=a1 DK sJ sJ;rw[<-Yy (p.lt.map (BD BQ))] at b1 b2 b3 b4
 rw[e,Ff,if_pos (Gy _ _ _),Un ph,YO,
  G4 (g:=Fm) (fun x hx=>⟨Gy _ _ _,Uk (pe x hx).1⟩) a3,YO]
 simp only;rw[Oa (fun v hv=>⟨(pv v hv).1,(pv v hv).2.1.1,fun x hx=>((pv v hv).2.2 x hx).2⟩) b1 b2 b3 (Zd _),YO];simp only;rw[G4 (g:=BD DK) (fun c hc=>⟨Gy _ _ _,PD sJ (pc c ou).1 (pc c ou).2.1⟩) b4,YO];simp only;rw[G4 (g:=BD BQ) (fun c hc=>⟨Gy _ _ _,PD sJ (pc c ou).1 (pc c ou).2.1⟩) (LP _)];rfl
def Fg (s:By):Option Po:=(lnsB s.length s).bind fun ls=>match Ff ls with
 |some (p,[])=>some p
 |_=>none
theorem Qu {c:UInt8}(hc:c≠32):∀ {ws:List By},(∀ w∈ws,c∉w)->c∉joW ws
 |[],_=>by simp[joW]
 |[a],h=>h a sK
 |a::b::l,h=>by
  have:=Qu hc (ws:=b::l) (fun w hw=>h w (by simp[Zn.1 hw]))
  have h2:=h a sK
  rw[joW]
  simp[this,h2,hc]
theorem MI {p:Po}(h:Ih p):∀ l∈CJ p,(10:UInt8)∉l:=by
 obtain⟨ph,pe,pv,pc⟩:=h;intro l hl;unfold CJ at hl;simp only[Zs,Zn,ZT,ZL] at hl;have hk:∀ {ws:List By},(∀ w∈ws,(10:UInt8)∉w)->(10:UInt8)∉joW ws:=fun h=>Qu sJ h;have ha:∀ (wd:By) (c:Ct),(10:UInt8)∉wd->c∈p.rf++p.lt->(10:UInt8)∉BD wd c:=fun wd c hw hc=>by
  have:=(pc c hc).2.2;refine hk ?_;simp[hw,GY,this]
 rcases hl with (((rfl | ⟨e,he,rfl⟩) | ⟨v,hv,hl⟩) | ⟨c,hc,rfl⟩) | ⟨c,hc,rfl⟩
 ·refine hk ?_;simp[GY];decide
 ·have:=(pe e he).2;refine hk ?_;simp[GY,this];decide
 ·obtain⟨_,⟨_,hn⟩,hi⟩:=pv v hv;unfold BA at hl;simp only[Zn,ZL] at hl;rcases hl with rfl | ⟨x,hx,hl⟩
  ·refine hk ?_;have:(10:UInt8)∉EC v.fx:=by cases v.fx<;>decide
   simp[GY,hn,this];decide
  ·obtain⟨⟨_,hb⟩,_⟩:=hi x hx;unfold Ci at hl;simp only[Zn,ZT] at hl;rcases hl with rfl | ⟨t,ht,rfl⟩
   ·refine hk ?_;simp[hb];decide
   ·refine hk ?_;simp[GY];decide
 ·exact ha _ _ sJ ou
 ·exact ha _ _ sJ ou
theorem LN {p:Po}(h:Ih p):lnsB (Ay p).length (Ay p)=some (CJ p):=by
 rw[Fb];exact LM (MI h) (Zd _)
theorem Id {p:Po}(h:Ih p):Fg (Ay p)=some p:=by
 unfold Fg;rw[LN h,YO,SN h]
theorem Kv {d:ByteArray}(h:nameB d=true):(32:UInt8)∉d.data.toList∧(10:UInt8)∉d.data.toList:=by
 simp only[nameB,Zf,List.all_eq_true] at h;exact⟨fun hm=>by have:=h.2 _ hm;revert this;decide,fun hm=>by have:=h.2 _ hm;revert this;decide⟩
theorem Sj {d:ByteArray}(h:At d=true):(10:UInt8)∉d.data.toList:=fun hm=>by
 simp only[At,plainB,Zf,List.all_eq_true] at h
 have:=h.2 _ hm
 revert this;decide
theorem J9 {size:Int}:∀ {l:List Ex} {next:Int},xgo size next l=true->∀ e∈l,At e.d=true
 |[],_,_=>by simp
 |e::r,next,h=>by
  simp only[xgo,Zf] at h
  intro x hx
  rcases Zn.1 hx with rfl | hx
  ·exact h.1.1.1
  ·exact J9 h.2 x hx
theorem J5 {next:Int}{e:List Ex}:∀ {l:List Vo} {last:Int},vgo next e last l=true->∀ v∈l,nameB v.nm=true
 |[],_,_=>by simp
 |v::r,last,h=>by
  simp only[vgo,Zf] at h
  intro x hx
  rcases Zn.1 hx with rfl | hx
  ·exact h.1.1.2
  ·exact J5 h.2 x hx
theorem QD {p:Pt}(h:Al p=true)(hn:p.n<=100):AJ p.a∧AJ p.f∧AJ p.n:=by
 unfold Al at h;unfold AJ;exact pR
theorem PH {c:Ct}(h:AO c.o=true)(h1:-1000<=c.n)(h2:c.n<=1000):(AJ c.o.a∧AJ c.o.v∧AJ c.n)∧(32:UInt8)∉c.o.f.data.toList∧(10:UInt8)∉c.o.f.data.toList:=by
 simp only[AO,Zf,ZU] at h;exact⟨by unfold AJ;omega,Kv h.2⟩
theorem EU {p:Po}(h:Ai p=true):Ih p:=by
 obtain⟨v1,v2,v3,v4,_⟩:=bL_ h;obtain⟨s1,s2,s3,s4⟩:=cu_ v4;obtain⟨r1,r2⟩:=JT h;have ha:1<=p.next:=by
  simp only[Ai,Zf,ZU] at h;exact h.1.1.1.1.1.2
 have hE:=HL s4 sH;have hV:=HI v2 sH;simp only[AB,Zf,ZU] at r1;simp only[AQ,Zf,ZU,List.all_eq_true] at r2;refine ⟨⟨⟨sH,sH⟩,⟨sH,sH⟩⟩,fun e he=>⟨by have:=hE e he;exact⟨sH,sH⟩,Sj (J9 s4 e he)⟩,fun v hv=>?_,fun c hc=>?_⟩
 ·obtain⟨a1,a2,_,_,a5⟩:=hV v hv;refine ⟨⟨sH,sH⟩,Kv (J5 v2 v hv),fun x hx=>⟨Kv (hR_ a5 x hx),fun t ht=>?_⟩⟩;obtain⟨b1,b2⟩:=Hp a5 x hx;simp only[Ae,Zf,ZU] at b2;exact QD (jR_ b2.2 sH t ht).1 (jR_ b2.2 sH t ht).2
 ·rcases Zs.1 hc with hc | hc
  ·have:=g1_ r1.2 c hc;simp only[EY,Zf,ZU] at this;exact PH this.1.1 sH this.2
  ·have:=r2.2 c hc;simp only[CG,Zf,ZU] at this;exact PH this.1.1.1 this.1.1.2 this.1.2
noncomputable def Ha (s:By):Option Po:=open Classical in if h:∃ p,Ai p=true∧s=Ay p then some (Classical.choose h) else none
theorem Rm {p q:Po}(hp:Ai p=true)(hq:Ai q=true)(h:Ay p=Ay q):p=q:=by
 have h1:=Id (EU hp);rw[h,Id (EU hq)] at h1;exact (Zi h1).symm
theorem NM {p:Po}(hp:Ai p=true):Ha (Ay p)=some p:=by
 unfold Ha;have h:∃ q,Ai q=true∧Ay p=Ay q:=⟨p,hp,rfl⟩;rw[dif_pos h];exact congrArg some (Rm hp (Classical.choose_spec h).1 (Classical.choose_spec h).2).symm
end
section
open Go Go.RowKit Go.BigFrame Tryz
theorem KS.grown {B k:Nat}{u u':World}{x:Value}(h:KS B k u x)(hg:u.grownBy u' (some B)):KS B k u' x:=by
 obtain⟨b,cs,t,h1,h2,h3,h4,h5⟩:=h;exact⟨b,cs,t,h1,h2.grown hg sH,h3,h4,h5⟩
theorem KT.grown {B:Nat}{u u':World}{x:Value}(h:KT B u x)(hg:u.grownBy u' (some B)):KT B u' x:=by
 obtain⟨b,i,s,h1,h2,h3,h4⟩:=h;exact⟨b,i,s,h1,hg.cell h2 sW,h3,h4⟩
theorem AC.off {B b:Nat}{w w':World}{v:Value}{p:Po}(h:AC B w v p)(hg:w.grownBy w' (some b))(hb:b<B):AC B w' v p:=by
 obtain⟨ea,en,ec,va,vn,vc,ra,rn,rc,la,ln,lc,hv,⟨h1,k1,s1⟩,⟨h2,k2⟩,⟨h3,k3,s3⟩,h4,k4,s4⟩:=h;have q:∀ {a:Option Addr},Sf B w a->∀ ad,a=some ad->ad.block≠b:=fun s ad e=>by have:=(s sH ad e).1;omega
 exact⟨ea,en,ec,va,vn,vc,ra,rn,rc,la,ln,lc,hv,⟨h1.grown hg (q s1),k1,s1.grown hg hb⟩,⟨h2.grown hg hb,k2⟩,⟨h3.grown hg (q s3),k3,s3.grown hg hb⟩,h4.grown hg (q s4),k4,s4.grown hg hb⟩
theorem Gv {P:Program}{Q:Exit->Act->World->Prop}{md:Region.Mode}{S:World->Prop}{l:List Oper}{i j:Nat}{o o':Oper}{fuel:Nat}{listed:Array Bool}{a:Act}{w:World}(hr:Region.ready md l.toArray listed=[i,j])(hi:l[i]?=some o)(hj:l[j]?=some o')
  (h:∀ K':Act->World->Prop,Shut (∀ a w,S w->(S w->wpAnyH P md l.toArray Q S fuel (listed.setIfInBounds i true) a w)->K' a w)->if Region.wanted o (yielded l.toArray a.tmps)=true then Oper.wp P o a w K' Q else K' (a.put o.dst undef) w)
  (h':∀ K':Act->World->Prop,Shut (∀ a w,S w->(S w->wpAnyH P md l.toArray Q S fuel (listed.setIfInBounds j true) a w)->K' a w)->if Region.wanted o' (yielded l.toArray a.tmps)=true then Oper.wp P o' a w K' Q else K' (a.put o'.dst undef) w) :
  wpAnyH P md l.toArray Q S (fuel+1) listed a w:=
 wpAnyH_ready hr sK (AllReadyH.cons rL h (AllReadyH.cons dm h' AllReadyH.nil))
end
section
open Go Go.RowKit Go.BigFrame Go.Shelf Tryz
def B9 (p:Po):ByteArray:=if Ai p=true then ⟨(Ay p).toArray⟩ else ⟨#[]⟩
theorem oT{p:Prop}(h:p:=by unfold B9;rw[hp];rfl):p:=h
theorem De (B0:Nat)(hB0:0<B0)(v:Value)(p:Po)(w:World)(h:AC B0 w v p)(hd:A7 p)(hN:Ai p=true->Je p) :
  Calls prog 17 #[v] w fun e w'=>e=.returned (.string (B9 p))∧Below w.heap.size w w':=by
 have he:=h;obtain⟨ea,en,ec,va,vn,vc,ra,rn,rc,la,ln,lc,rfl,_⟩:=h;have C:=Blk.new w #[.int .i64 p.size,.int .i64 p.next,.slice ea en ec,.slice va vn vc,.slice ra rn rc,.slice la ln lc] 33
 cases hp:Ai p
 ·have hO:B9 p=⟨#[]⟩:=oT;rw[hO];go_enter func17,ntmps17;go_wp2_with fail;refine (ep_ B0 hB0 _ p _ (he.below sM) hd).mono ?_;rintro e w1 ⟨rfl,hc⟩;have ha:Below w.heap.size w w1:=Aa sM hc;clear hc he C;rw[hp];go_wp2_with fail;go_returns;exact⟨rfl,ha⟩
 ·have hO:B9 p=⟨(Ay p).toArray⟩:=oT;rw[hO];have hg:=hN hp;obtain⟨T,hT⟩:∃ z,Hid ((⟨(Ay p).toArray⟩:ByteArray)=z):=⟨_,rfl⟩;have hb:=fun (u:World) (hu:Below w.heap.size w u)=>HQ B0 _ p u (he.below hu) hd hg;rw[hT.out] at hb;rw[hT.out];go_enter func17,ntmps17;go_wp2_with fail;refine (ep_ B0 hB0 _ p _ (he.below sM) hd).mono ?_;rintro e w1 ⟨rfl,hc⟩;have ha:Below w.heap.size w w1:=Aa sM hc;replace C:=C.below hc;have c0:=C.cell 0;have c1:=C.cell 1;have c2:=C.cell 2;have c3:=C.cell 3;have c4:=C.cell 4;have c5:=C.cell 5;clear hc he C;rw[hp];go_wp2_with fail;refine (hb w1 ha).mono ?_;rintro e w2 ⟨rfl,hf⟩;go_wp2;go_returns;exact⟨rfl,Aa ha hf⟩
theorem EW {p:Po}(h:Ai p=true):Je p:=(IK h).1
end
section
open Go Tryz
theorem Ak (l:By):(bA l).data.toList=l:=by simp[bA]
theorem JC {b:UInt8}{d:Nat}(h:Lib.digitVal b=some d):d<10∧b=UInt8.ofNat (48+d):=by
 unfold Lib.digitVal at h;split at h
 ·next hb=>
  have h:=Zi h;refine ⟨sH,?_⟩;apply UInt8.toNat_inj.1;simp;omega
 ·cases h
theorem JB:∀ (k:Nat) (t:By),t.length=k->t≠[]->(t.head?≠some 48∨t.length=1)->∀ n,Lib.decFrom 0 t=some n->Lib.decDigits n=t:=by
 intro k
 induction k with
 |zero=>intro t h1 h2;exact absurd (Zt h1) h2
 |succ k ih=>
  intro t h1 h2 h3 n h4;obtain⟨a,b,rfl⟩:∃ a b,t=a++[b]:=⟨t.dropLast,t.getLast h2,(List.dropLast_concat_getLast h2).symm⟩;rw[En] at h4
  cases ha:Lib.decFrom 0 a with
  |none=>rw[ha] at h4;cases h4
  |some m=>
   rw[ha] at h4;simp only[YO,Lib.decFrom] at h4
   cases hd:Lib.digitVal b with
   |none=>rw[hd] at h4;cases h4
   |some d=>
    rw[hd] at h4;simp only[Zo] at h4;obtain⟨hb,rfl⟩:=JC hd
    cases a with
    |nil=>
     simp[Lib.decFrom] at ha;subst ha;rw[Lib.decDigits,dif_pos sH];simp at h4;simp[<-h4]
    |cons x r=>
     have h5:(x::r).head?≠some 48:=by
      rcases h3 with h3 | h3
      ·simpa using h3
      ·simp at h3
     have h6:=ih (x::r) rR sK (.inl h5) m ha;have hm:1<=m:=by
      rcases Nat.eq_zero_or_pos m with rfl | h
      ·rw[show Lib.decDigits 0=[48] by rw[Lib.decDigits];simp] at h6;rw[<-h6] at h5;simp at h5
      ·exact h
     rw[Lib.decDigits,dif_neg sH,show n / 10=m by omega,show n % 10=d by omega,h6]
theorem EP:∀ (t:By) (k n:Nat),Lib.decFrom k t=some n->n<(k+1)*10 ^ t.length
 |[],k,n,h=>by simp[Lib.decFrom] at h;simp;omega
 |x::t,k,n,h=>by
  simp only[Lib.decFrom] at h
  cases hx:Lib.digitVal x with
  |none=>rw[hx] at h;cases h
  |some d=>
   rw[hx] at h
   have h1:=EP t _ n h
   have h2:=(JC hx).1
   have h3:(k*10+d+1)*10 ^ t.length<=((k+1)*10)*10 ^ t.length:=ZS _ sH
   simp only[Zw,Nat.pow_succ]
   rw[Nat.mul_assoc,Nat.mul_comm 10] at h3
   omega
theorem Bi {s:By}{n:Int}(h:numP s=some n):s=Lib.itoa n∧AJ n:=by
 have ha:∀ {t:By} {k:Nat},¬ 10<t.length->Lib.decFrom 0 t=some k->k<10000000000:=fun {t k} h1 h2=>by
  have:=EP t 0 k h2;have h3:10 ^ t.length<=10 ^ 10:=Nat.pow_le_pow_right sH sH;omega
 unfold numP at h;split at h
 ·next t=>
  split at h
  ·cases h
  ·next hc=>
   rw[not_or,not_or] at hc;obtain⟨c1,c2,c3⟩:=hc
   cases hd:Lib.decFrom 0 t with
   |none=>rw[hd] at h;cases h
   |some k=>
    rw[hd] at h;obtain rfl:-(k:Int)=n:=Zi h;have e:=JB _ t rfl (fun e=>by subst e;simp at c1) (.inl c3) k hd;have hk:0<k:=by
     rcases Nat.eq_zero_or_pos k with rfl | hk
     ·rw[show Lib.decDigits 0=[48] by rw[Lib.decDigits];simp] at e;rw[<-e] at c3;simp at c3
     ·exact hk
    refine ⟨?_,by have:=ha c2 hd;exact⟨sH,sH⟩⟩;unfold Lib.itoa;rw[if_pos sH,show (-(k:Int)).natAbs=k by omega,e]
 ·next t hs=>
  split at h
  ·cases h
  ·next hc=>
   rw[not_or,not_or] at hc;obtain⟨c1,c2,c3⟩:=hc
   cases hd:Lib.decFrom 0 s with
   |none=>rw[hd] at h;cases h
   |some k=>
    rw[hd] at h;obtain rfl:(k:Int)=n:=Zi h
    have e:=JB _ s rfl (fun e=>by subst e;simp at c1) (by
     by_cases h4:s.head?=some 48
     ·exact .inr (by have h6:¬ 1<s.length:=fun h5=>c3 ⟨h4,h5⟩;omega)
     ·exact .inl h4) k hd
    refine ⟨?_,by have:=ha c2 hd;exact⟨sH,sH⟩⟩;unfold Lib.itoa;rw[if_neg sH,show (k:Int).toNat=k by omega,e]
theorem Bq {c:UInt8}:∀ {l a b:By},cutB c l=some (a,b)->l=a++c::b∧c∉a
 |[],a,b,h=>by cases h
 |x::l,a,b,h=>by
  unfold cutB at h
  split at h
  ·next hx=>obtain⟨rfl,rfl⟩:=Prod.mk.inj (Zi h);simp[hx]
  ·next hx=>
   cases hc:cutB c l with
   |none=>rw[hc] at h;cases h
   |some q=>
    rw[hc] at h
    obtain⟨rfl,rfl⟩:=Prod.mk.inj (Zi h)
    obtain⟨h1,h2⟩:=Bq (a:=q.1) (b:=q.2) hc
    refine ⟨by rw[h1];rfl,?_⟩
    intro hm
    rcases Zn.1 hm with e | e
    ·exact hx e.symm
    ·exact h2 e
theorem Oc (k:Nat)(l:By):A0 k l≠[]:=by
 cases k with
 |zero=>simp[A0]
 |succ k=>unfold A0;split<;>simp
theorem ND:∀ (k:Nat) (l:By),joW (A0 k l)=l
 |0,l=>rfl
 |k+1,l=>by
  unfold A0
  split
  ·rfl
  ·next q hq=>
   have h1:=ND k q.2
   obtain⟨h2,_⟩:=Bq (a:=q.1) (b:=q.2) hq
   cases hc:A0 k q.2 with
   |nil=>exact absurd hc (Oc _ _)
   |cons x r=>rw[hc] at h1;rw[joW,h1,<-h2]
theorem UE {wd l:By}(k:Nat)(h:ahP wd l=true)(hw:(32:UInt8)∉wd):∃ r,l=wd++32::r∧A0 (k+1) l=wd::A0 k r:=by
 obtain⟨r,rfl⟩:=Ke.1 h;exact⟨r,rfl,by rw[A0,Cy _ hw]⟩
theorem Hz:∀ {k:Nat} {s:By} {ls:List By},lnsB k s=some ls->s=DZ ls∧∀ l∈ls,(10:UInt8)∉l
 |0,s,ls,h=>by
  unfold lnsB at h
  split at h
  ·next hs=>obtain rfl:=Zi h;exact⟨hs,fun l hl=>by cases hl⟩
  ·cases h
 |k+1,s,ls,h=>by
  unfold lnsB at h
  split at h
  ·next hs=>obtain rfl:=Zi h;exact⟨hs,fun l hl=>by cases hl⟩
  ·split at h
   ·cases h
   ·next q hq=>
    obtain⟨h1,h2⟩:=Bq (a:=q.1) (b:=q.2) hq
    cases hc:lnsB k q.2 with
    |none=>rw[hc] at h;cases h
    |some r=>
     rw[hc] at h
     obtain rfl:=Zi h
     obtain⟨h3,h4⟩:=Hz hc
     refine ⟨?_,fun l hl=>?_⟩
     ·rw[h1,h3];simp[DZ]
     ·rcases Zn.1 hl with rfl | e
      ·exact h2
      ·exact h4 l e
end
section
open Go Go.RowKit Go.BigFrame Tryz
def Gl (o:Option Int):Value:=match o with
 |none=>.tuple #[.int .i64 0,.bool false]
 |some n=>.tuple #[.int .i64 n,.bool true]
theorem fp{p:Prop}(h:p:=by rw[<-Lib.size_eq];omega):p:=h
theorem mP{p:Prop}(h:p:=by
 go_wp2;go_returns
 exact⟨rfl,rfl⟩):p:=h
theorem HK {l:By}:∀ {k:Nat},∀ w∈A0 k l,w.length<=l.length:=by
 intro k
 induction k generalizing l with
 |zero=>intro w hw;simp[A0] at hw;subst hw;exact Zd _
 |succ k ih=>
  intro w hw;rw[A0] at hw;split at hw
  ·simp at hw;subst hw;exact Zd _
  ·next q hq=>
   obtain⟨h1,_⟩:=Bq (a:=q.1) (b:=q.2) hq;rcases Zn.1 hw with rfl | hw
   ·rw[h1];simp
   ·have:=ih w hw;rw[h1];simp;omega
theorem Dx (B:Nat)(w:World):AK B w (.agg #[.int .i64 0,.int .i64 0,.slice none 0 0,.slice none 0 0,.slice none 0 0,.slice none 0 0]) ⟨0,0,[],[],[],[]⟩:=
 ⟨none,0,0,none,0,0,none,0,0,none,0,0,[],rfl,aB_,aB_,aB_,aB_,fun x y h=>sY,.nil,List.nodup_nil,List.nodup_nil⟩
theorem Qn:∀ (l:List IQ),∀ u∈l.flatMap IQ.cs,u.oneCell'=true:=by
 intro l u hu;obtain⟨x,_,hx⟩:=ZL.1 hu;simp[IQ.cs] at hx;rcases hx with rfl | rfl<;>rfl
theorem Rx:∀ (l:List VQ),∀ u∈l.flatMap VQ.cs,u.oneCell'=true:=by
 intro l u hu;obtain⟨x,_,hx⟩:=ZL.1 hu;simp[VQ.cs] at hx;rcases hx with rfl | rfl | rfl | rfl<;>rfl
end
section
open Go Tryz
theorem G1 {α:Type}{wd:By}{f:By->Option α}{g:α->By}(hg:∀ l x,ahP wd l=true->f l=some x->l=g x):∀ {ls:List By} {xs:List α} {r:List By},manyP wd f ls=some (xs,r)->ls=xs.map g++r∧r.length<=ls.length
 |[],xs,r,h=>by obtain⟨rfl,rfl⟩:=Prod.mk.inj (Zi h);exact⟨rfl,Zd _⟩
 |l::ls,xs,r,h=>by
  unfold manyP at h
  split at h
  ·next ha=>
   cases hf:f l with
   |none=>rw[hf] at h;cases h
   |some x=>
    rw[hf,YO] at h
    cases hm:manyP wd f ls with
    |none=>rw[hm] at h;cases h
    |some q=>
     rw[hm] at h
     obtain⟨rfl,rfl⟩:=Prod.mk.inj (Zi h)
     obtain⟨h1,h2⟩:=G1 hg (xs:=q.1) (r:=q.2) hm
     refine ⟨?_,sN⟩
     rw[YD,YF,<-h1,<-hg l x ha hf]
  ·obtain⟨rfl,rfl⟩:=Prod.mk.inj (Zi h);exact⟨rfl,Zd _⟩
theorem HJ {wd l:By}{k:Nat}{x:By}{r:List By}(h:ahP wd l=true)(hw:(32:UInt8)∉wd)(e:A0 (k+1) l=x::r):l=joW (wd::r):=by
 obtain⟨s,_,h2⟩:=UE k h hw;have h3:=ND (k+1) l;rw[e] at h2;obtain⟨rfl,rfl⟩:=List.cons.inj h2;rw[<-h3,e]
theorem UO {l:By}{e:Ex}(h:ahP exK l=true)(he:exP l=some e):l=Fm e:=by
 unfold exP at he;split at he
 ·next a d hc=>
  cases h1:numP a with
  |none=>rw[h1] at he;cases he
  |some n=>
   rw[h1] at he;obtain rfl:=Zi he;rw[HJ h sJ hc,(Bi h1).1,Fm,Ak]
 ·cases he
theorem UW {l:By}{e:Pt}(h:ahP partK l=true)(he:ptP l=some e):l=HC e:=by
 unfold ptP at he;split at he
 ·next a f n hc=>
  cases h1:numP a with
  |none=>rw[h1] at he;cases he
  |some a'=>
   cases h2:numP f with
   |none=>rw[h1,h2] at he;cases he
   |some f'=>
    cases h3:numP n with
    |none=>rw[h1,h2,h3] at he;cases he
    |some n'=>
     rw[h1,h2,h3] at he;obtain rfl:=Zi he;rw[HJ h sJ hc,(Bi h1).1,(Bi h2).1,(Bi h3).1,HC]
 ·cases he
theorem St {l:By}{e:ByteArray}(h:ahP BZ l=true)(he:fileP l=some e):l=joW [BZ,e.data.toList]:=by
 unfold fileP at he;split at he
 ·next a hc=>
  obtain rfl:=Zi he;rw[HJ h sJ hc,Ak]
 ·cases he
theorem Sx {s:By}{b:Bool}(h:CC s=some b):s=EC b:=by
 unfold CC at h;split at h
 ·next e=>obtain rfl:=Zi h;exact e
 ·split at h
  ·next e=>obtain rfl:=Zi h;exact e
  ·cases h
theorem U7 {l:By}{e:Int×ByteArray×Bool}(h:ahP Ei l=true)(he:voP l=some e):l=joW [Ei,Lib.itoa e.1,e.2.1.data.toList,EC e.2.2]:=by
 unfold voP at he;split at he
 ·next i nm f hc=>
  cases h1:numP i with
  |none=>rw[h1] at he;cases he
  |some a'=>
   cases h2:CC f with
   |none=>rw[h1,h2] at he;cases he
   |some f'=>
    rw[h1,h2] at he;obtain rfl:=Zi he;rw[HJ h sJ hc,(Bi h1).1,Sx h2,Ak]
 ·cases he
theorem TA {wd l:By}{c:Ct}(hw:(32:UInt8)∉wd)(h:ahP wd l=true)(he:ctP l=some c):l=BD wd c:=by
 unfold ctP at he;split at he
 ·next a v f n hc=>
  cases h1:numP a with
  |none=>rw[h1] at he;cases he
  |some a'=>
   cases h2:numP v with
   |none=>rw[h1,h2] at he;cases he
   |some v'=>
    cases h3:numP n with
    |none=>rw[h1,h2,h3] at he;cases he
    |some n'=>
     rw[h1,h2,h3] at he;obtain rfl:=Zi he;rw[HJ h hw hc,(Bi h1).1,(Bi h2).1,(Bi h3).1,BD,Ak]
 ·cases he
theorem UP {l:By}{e:Int×Int}(h:ahP Cj l=true)(he:hdP l=some e):l=joW [Cj,Lib.itoa e.1,Lib.itoa e.2]:=by
 unfold hdP at he;split at he
 ·next a b hc=>
  cases h1:numP a with
  |none=>rw[h1] at he;cases he
  |some a'=>
   cases h2:numP b with
   |none=>rw[h1,h2] at he;cases he
   |some b'=>
    rw[h1,h2] at he;obtain rfl:=Zi he;rw[HJ h sJ hc,(Bi h1).1,(Bi h2).1]
 ·cases he
theorem LG:∀ {k:Nat} {ls:List By} {xs:List It} {r:List By},itemsP k ls=some (xs,r)->ls=xs.flatMap Ci++r∧r.length<=ls.length
 |0,ls,xs,r,h=>by obtain⟨rfl,rfl⟩:=Prod.mk.inj (Zi h);exact⟨rfl,Zd _⟩
 |k+1,[],xs,r,h=>by obtain⟨rfl,rfl⟩:=Prod.mk.inj (Zi h);exact⟨rfl,Zd _⟩
 |k+1,l::ls,xs,r,h=>by
  unfold itemsP at h
  split at h
  ·next ha=>
   cases hf:fileP l with
   |none=>rw[hf] at h;cases h
   |some nm=>
    rw[hf,YO] at h
    cases hm:manyP partK ptP ls with
    |none=>rw[hm] at h;cases h
    |some q=>
     rw[hm,YO] at h
     cases hi:itemsP k q.2 with
     |none=>rw[hi] at h;cases h
     |some s=>
      rw[hi] at h
      obtain⟨rfl,rfl⟩:=Prod.mk.inj (Zi h)
      obtain⟨h1,h2⟩:=G1 (g:=HC) (fun l x=>UW) (xs:=q.1) (r:=q.2) hm
      obtain⟨h3,h4⟩:=LG (xs:=s.1) (r:=s.2) hi
      refine ⟨?_,sN⟩
      rw[ZF,Ci,ZC,<-h3,YF,<-h1,<-St ha hf]
  ·obtain⟨rfl,rfl⟩:=Prod.mk.inj (Zi h);exact⟨rfl,Zd _⟩
theorem N8:∀ {k:Nat} {ls:List By} {xs:List Vo} {r:List By},volsP k ls=some (xs,r)->ls=xs.flatMap BA++r
 |0,ls,xs,r,h=>by obtain⟨rfl,rfl⟩:=Prod.mk.inj (Zi h);rfl
 |k+1,[],xs,r,h=>by obtain⟨rfl,rfl⟩:=Prod.mk.inj (Zi h);rfl
 |k+1,l::ls,xs,r,h=>by
  unfold volsP at h
  split at h
  ·next ha=>
   cases hf:voP l with
   |none=>rw[hf] at h;cases h
   |some e=>
    rw[hf,YO] at h
    cases hm:itemsP ls.length ls with
    |none=>rw[hm] at h;cases h
    |some q=>
     rw[hm,YO] at h
     cases hi:volsP k q.2 with
     |none=>rw[hi] at h;cases h
     |some s=>
      rw[hi] at h
      obtain⟨rfl,rfl⟩:=Prod.mk.inj (Zi h)
      have h1:=(LG (xs:=q.1) (r:=q.2) hm).1
      have h3:=N8 (xs:=s.1) (r:=s.2) hi
      rw[ZF,BA,ZC,<-h3,YF,<-h1,<-U7 ha hf]
  ·obtain⟨rfl,rfl⟩:=Prod.mk.inj (Zi h);rfl
theorem SM {ls:List By}{p:Po}(h:Ff ls=some (p,[])):ls=CJ p:=by
 cases ls with
 |nil=>cases h
 |cons l r=>
  rw[Ff] at h;split at h
  ·next ha=>
   cases h0:hdP l with
   |none=>rw[h0] at h;cases h
   |some e=>
    rw[h0,YO] at h
    cases h1:manyP exK exP r with
    |none=>rw[h1] at h;cases h
    |some a=>
     rw[h1,YO] at h
     cases h2:volsP a.2.length a.2 with
     |none=>rw[h2] at h;cases h
     |some b=>
      rw[h2,YO] at h
      cases h3:manyP DK ctP b.2 with
      |none=>rw[h3] at h;cases h
      |some c=>
       rw[h3,YO] at h
       cases h4:manyP BQ ctP c.2 with
       |none=>rw[h4] at h;cases h
       |some d=>
        rw[h4] at h;obtain⟨rfl,hd⟩:=Prod.mk.inj (Zi h);have e1:=(G1 (g:=Fm) (fun l x=>UO) (xs:=a.1) (r:=a.2) h1).1;have e2:=N8 (xs:=b.1) (r:=b.2) h2;have e3:=(G1 (g:=BD DK) (fun l x=>TA sJ) (xs:=c.1) (r:=c.2) h3).1;have e4:=(G1 (g:=BD BQ) (fun l x=>TA sJ) (xs:=d.1) (r:=d.2) h4).1;rw[hd,Yy] at e4;rw[e1,e2,e3,e4,UP ha h0];simp[CJ]
  ·cases h
theorem Kz {s:By}{p:Po}(h:Fg s=some p):s=Ay p:=by
 unfold Fg at h
 cases h1:lnsB s.length s with
 |none=>rw[h1] at h;cases h
 |some ls=>
  rw[h1,YO] at h;split at h
  ·next q hq=>
   obtain rfl:=Zi h;rw[Fb,<-SM hq];exact (Hz h1).1
  ·cases h
end
section
open Go Go.RowKit Go.BigFrame Tryz
theorem TC:(prog.info? tI).map (fun i=>(i.zero,i.size,i.bytes))=some (some (.agg #[.string .empty,.slice none 0 0]),2,40):=by kernel_rfl
theorem TE:(prog.info? tV).map (fun i=>(i.zero,i.size,i.bytes))=some (some (.agg #[.int .i64 0,.string .empty,.bool false,.slice none 0 0]),4,56):=by kernel_rfl
theorem TD:(prog.info? tP).map (fun i=>(i.zero,i.size,i.bytes))=some (some (.agg #[.int .i64 0,.int .i64 0,.int .i64 0]),3,24):=by kernel_rfl
theorem TB:(prog.info? tE).map (fun i=>(i.zero,i.size,i.bytes))=some (some (.agg #[.int .i64 0,.string .empty]),2,24):=by kernel_rfl
theorem Qg:(prog.info? tC).map (fun i=>(i.zero,i.size,i.bytes))=some (some (.agg #[.int .i64 0,.int .i64 0,.string .empty,.int .i64 0]),4,40):=by kernel_rfl
def Bm (w:World)(b:Nat)(x0 x1 x2 x3 x4 x5:Value):World:=(((((w.setCell ⟨b,0,none⟩ x0).setCell ⟨b,1,none⟩ x1).setCell ⟨b,2,none⟩ x2).setCell ⟨b,3,none⟩ x3).setCell ⟨b,4,none⟩ x4).setCell ⟨b,5,none⟩ x5
theorem mn{p:Prop}(h:p:=by
 obtain⟨ea,en,ec,va,vn,vc,ra,rn,rc,la,ln,lc,vr,e,h1,h2,h3,h4,h5,h6,h7,h8⟩:=h.out
 exact⟨ea,en,ec,va,vn,vc,ra,rn,rc,la,ln,lc,vr,e,h1.ty hg hr sJ,h2.ty hg hr sJ,h3.ty hg hr sJ,h4.ty hg hr sJ,h5,h6.imp fun _ _ _ h=>h.ty hg hr sJ sJ,h7,h8⟩):p:=h
theorem AK.box {B:Nat}{w w':World}{b:Nat}{c:Array Value}{v:Value}{p:Po}(h:AK B w v p)(hg:w.grownBy w' (some b))(hb:Blk w b c 33):AK B w' v p:=by
 have hr:=aa_ hb;exact mn
theorem AS {B:Nat}{w0 w:World}{b:Nat}{c0 c1 c2 c3 c4 c5 x0 x1 x2 x3 x4 x5:Value}{p:Po}(h:Blk w b #[c0,c1,c2,c3,c4,c5] 33)(hB:Below B w0 w)(hb:B<=b)(hM:AK B w (.agg #[x0,x1,x2,x3,x4,x5]) p) :
  Blk (Bm w b x0 x1 x2 x3 x4 x5) b #[x0,x1,x2,x3,x4,x5] 33∧AK B (Bm w b x0 x1 x2 x3 x4 x5) (.agg #[x0,x1,x2,x3,x4,x5]) p∧Below B w0 (Bm w b x0 x1 x2 x3 x4 x5):=by
 have hg:w.grownBy (Bm w b x0 x1 x2 x3 x4 x5) (some b):=af_ (af_ (af_ (af_ (af_ (af_ (Yh _ _) _ _) _ _) _ _) _ _) _ _) _ _;refine ⟨?_,hM.box hg h,hB.grown hg dV (fun k e=>by cases e;exact hb)⟩;have:=(((((h.set 0 x0).set 1 x1).set 2 x2).set 3 x3).set 4 x4).set 5 x5;unfold Bm;simpa using this
theorem FV (c:Ct):c.cs.length=4:=rfl
theorem Ki:∀ (l:List Ct),∀ u∈l.flatMap Ct.cs,u.oneCell'=true:=by
 intro l u hu;obtain⟨x,_,hx⟩:=ZL.1 hu;simp[Ct.cs] at hx;rcases hx with rfl | rfl | rfl | rfl<;>rfl
theorem CK {α:Type}{cs:α->List Value}{sz:Nat}(_hsz:∀ y,(cs y).length=sz)(w:World)(x:α)(t:TypeId)(b:Nat)(hb:b=w.heap.size):AH cs sz (w.alloc (.cells (cs x).toArray t)) (some ⟨b,0,none⟩) 1 [x]:=by
 subst hb;refine ⟨rfl,fun i y hy=>⟨w.heap.size,0,rfl,fun j v hv=>?_⟩⟩;obtain rfl:i=0:=rl;simp at hy;subst hy;simp[hv]
theorem CI {a:Option Addr}{n c B:Nat}(h:∀ ad,a=some ad->B<=ad.block):∀ k,Value.ownBlock (.slice a n c)=some k->B<=k:=by
 exact pB
theorem Hf (c:VQ):c.cs.length=4:=rfl
theorem GX (c:IQ):c.cs.length=2:=rfl
theorem H6 (c:Ex):c.cs.length=2:=rfl
theorem Nv:∀ (l:List Ex),∀ u∈l.flatMap Ex.cs,u.oneCell'=true:=by
 intro l u hu;obtain⟨x,_,hx⟩:=ZL.1 hu;simp[Ex.cs] at hx;rcases hx with rfl | rfl<;>rfl
structure Jv (P:Prop):Prop where
 out:P
theorem FU (l:List VQ)(r:VQ):FT (l++[r])=FT l++(Di r.a).toList:=by
 unfold FT;rw[List.filterMap_append]
 cases h:Di r.a<;>simp[h]
theorem FJ (l:List VQ)(r:VQ):EX (l++[r])=EX l++r.irs.filterMap fun x=>Di x.a:=by
 unfold EX;rw[ZQ];simp
theorem GR (l:List IQ)(r:IQ):(l++[r]).filterMap (fun x=>Di x.a)=l.filterMap (fun x=>Di x.a)++(Di r.a).toList:=by
 rw[List.filterMap_append]
 cases h:Di r.a<;>simp[h]
theorem Ge {l:List Nat}{o o':Option Nat}{H:Nat}(h:(l++o.toList).Nodup)(hlt:∀ b∈l,b<H)(hf:∀ b,o'=some b->o=some b∨H<=b):(l++o'.toList).Nodup:=by
 have h1:=(Yf.1 h)
 cases o' with
 |none=>simpa using h1.1
 |some b=>
  rw[Option.toList,Yf];refine ⟨h1.1,sK,fun x hx y hy=>?_⟩;simp at hy;subst hy;rcases hf y rfl with rfl | hb
  ·exact h1.2.2 x hx y sK
  ·have:=hlt x hx;omega
end
end Go.Proofs.YteejlahappbalaaGreatDoor
