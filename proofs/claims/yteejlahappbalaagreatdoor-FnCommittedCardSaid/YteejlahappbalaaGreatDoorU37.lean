/- Texts of pools, read and written; what is drawn. -/
import Derived.Test.YteejlahappbalaaGreatDoorU36
set_option maxHeartbeats 20000000
set_option maxRecDepth 100000
namespace Go.Proofs.YteejlahappbalaaGreatDoor
open Go Go.RowKit Go.BigFrame Tryz
theorem Kt (rb:Nat)(l:By)(r:List By)(w:World)(h:Dw w rb (l::r))(ha:ahP Ei l=true)(hG:Glb w)(hrb:9<=rb)(hl:(l::r).length<=60000) :
  Calls prog 108 #[.pointer (some ⟨rb,0,none⟩)] w fun e w'=>(match HS l r with
   |none=>Pan e
   |some q=>∃ v,e=.returned v∧Vi w' w.heap.size v q.1∧Dw w' rb q.2)∧w.grownBy w' (some rb):=by
 obtain⟨M,hM⟩:∃ M,Hid (HS l r=M):=⟨_,rfl⟩;rw[hM.out];have h1:=h.lt;simp only[Zw] at hl;obtain⟨i0,qf,q9,za,zb⟩:=info_parts TC;obtain⟨i1,qi,q6,q7,q8⟩:=info_parts TD;have qG:Below w.heap.size w (w.alloc (.cells #[.int .i64 0,.string ⟨#[]⟩,.bool false,.slice none 0 0] tV)):=(Yg _ _).alloc (Zd _) _;have QB:=Blk.new w #[.int .i64 0,.string ⟨#[]⟩,.bool false,.slice none 0 0] tV;have D0:=h.below qG;have G0:=hG.below qG;have q:=DS rb (l::r) ⟨#[118,111,108,117,109,101]⟩ 3 _ D0 G0 hrb sJ sH sH;rw[show (⟨#[118,111,108,117,109,101]⟩:ByteArray).data.toList=Ei from rfl] at q;go_enter func108,ntmps108;go_wp2_with fail;generalize w.alloc (.cells #[.int .i64 0,.string ⟨#[]⟩,.bool false,.slice none 0 0] tV)=W0 at *;refine q.mono ?_;clear q
 cases ht:CP Ei 3 (l::r) with
 |none=>
  rintro e w2 ⟨⟨tp,pe,rfl⟩,zo⟩;have qd:M=none:=by rw[<-hM.out,HS,Tw ha ht];rfl
  exact pE
 |some qq=>
  obtain⟨xa,xf,xn,rfl,h4⟩:=Tx ha ht;obtain⟨I,hY⟩:∃ I,Hid (itemsP r.length r=I):=⟨_,rfl⟩;have zy:Hid (M=((numP xa).bind fun i=>(CC xn).map fun b=>(i,bA xf,b)).bind fun h=>I.map fun q=>(⟨h.1,h.2.1,h.2.2,q.1⟩,q.2)):=by
   show _=_;rw[<-hM.out,HS,h4,hY.out]
  clear h4 ht hM;rintro e w2 ⟨⟨wb,wc,rfl,_,hh,qm,qn,⟨z5,WB⟩,D2⟩,zo⟩;obtain⟨c1,z1⟩:=hh 0 xa rfl;obtain⟨c2,z2⟩:=hh 1 xf rfl;obtain⟨c3,z3⟩:=hh 2 xn rfl;simp only[Zq,Nat.reduceAdd] at c1 c2 c3;clear hh;have G2:=G0.grown zo hrb;have qv:=Bk (CD (row:=some rb) qG) zo (fun k e=>by cases e;exact .inr rfl);replace QB:=QB.grown zo sN;have zd:w.heap.size<w2.heap.size:=QB.lt;clear zo D0 G0 qG;go_upto_region 2 with fail;have qI:∀ u,Below w2.heap.size w2 u->(fun u=>u.cell? ⟨wb,1,none⟩=some (.string (bA xa))∧u.cell? ⟨wb,2,none⟩=some (.string (bA xf))∧u.cell? ⟨wb,3,none⟩=some (.string (bA xn))) u:=fun u hu=>⟨Ab hu c1,Ab hu c2,Ab hu c3⟩;refine FO (fun u=>u.cell? ⟨wb,1,none⟩=some (.string (bA xa))∧u.cell? ⟨wb,2,none⟩=some (.string (bA xf))∧u.cell? ⟨wb,3,none⟩=some (.string (bA xn))) 14 [8,9,10,11,12,13,14,15,16,17,18,19,4] (fun x u=>∃ vb n1 fb,numP xa=some n1∧x 4=.pointer (some ⟨vb,0,none⟩)∧CC xn=some fb∧Blk u vb #[.int .i64 n1,.string (bA xf),.bool fb,.slice none 0 0] tV∧Below w2.heap.size w2 u∧w2.heap.size<=vb) (fun c u=>(∃ tp pe,c=[{v:=.iface tp pe,recovered:=false}])∧Below w2.heap.size w2 u∧(numP xa=none∨CC xn=none)) sI rfl ?walk2 ?rest2 ?pan2
  case walk2=>
    have qw:Below w2.heap.size w2 w2.drew:=(Yg _ _).drew;generalize w2.drew=WD at qw ⊢;have qc:=qI WD qw;refine tkp 0 ?_;refine tkp 1 ?_;refine tkp 2 ?_;refine tkp 4 ?_;refine tkp 5 ?_;refine tkp 6 ?_;refine tkp 7 ?_;refine tkp 8 ?_;refine tkp 9 ?_;refine Gv (i:=3) (j:=12) sI rfl rfl (fun K hK=>?_) (fun K hK=>?_)
    ·skip;go_simp;refine (Ap (bA xa) _ sH (G2.below qw)).mono ?_;rw[Ak];rintro e u1 ⟨hm,hb⟩;have qN:=Aa qw hb;(try replace FB:=FB.below hb);clear hb
     cases qE:numP xa with
     |none=>
      rw[qE] at hm;obtain⟨tp,pe,rfl⟩:=hm;exact⟨rfl,⟨tp,pe,rfl⟩,qN,oL⟩
     |some n1=>
      rw[qE] at hm;subst hm;dsimp only;refine hK.out _ _ (qI u1 qN) (fun hHeld=>?_);clear hK K;(try simp only[Act.put,Yj,Yq,Yr]);refine Gv (i:=10) (j:=12) sI rfl rfl (fun K hK=>?_) (fun K hK=>?_)
      ·skip;go_simp;refine (Eu (bA xn) _ (G2.below qN)).mono ?_;rw[Ak];rintro e uu ⟨hm,hu⟩;obtain rfl:u1=uu:=hu.symm
       cases zI:CC xn with
       |none=>
        rw[zI] at hm;obtain⟨tp,pe,rfl⟩:=hm;exact⟨rfl,⟨tp,pe,rfl⟩,qN,(by first | rfl | exact .inl rfl | exact .inr rfl | exact .inl zI | exact .inr zI)⟩
       |some fb=>
        rw[zI] at hm;subst hm;dsimp only;refine hK.out _ _ (qI u1 qN) (fun hHeld=>?_);clear hK K;(try simp only[Act.put,Yj,Yq,Yr]);refine tkp 11 ?_;refine Ag (i:=12) sI rfl (fun K hK=>?_);go_simp;have ho:Below u1.heap.size u1 (u1.alloc (.cells #[.int .i64 0,.string ⟨#[]⟩,.bool false,.slice none 0 0] tV)):=(Yg _ _).alloc (Zd _) _;obtain⟨ob,qo⟩:∃ ob,ob=u1.heap.size:=⟨_,rfl⟩;have FB:Blk (u1.alloc (.cells #[.int .i64 0,.string ⟨#[]⟩,.bool false,.slice none 0 0] tV)) ob #[.int .i64 0,.string ⟨#[]⟩,.bool false,.slice none 0 0] tV:=Blk.new' _ _ _ _ qo;have qJ:Hid (w2.heap.size<=ob):=oq;rw[<-qo];clear qo;have zL:=Aa qN ho;clear ho;refine hK.out _ _ (qI _ zL) (fun hHeld=>?_);clear hK K;(try simp only[Act.put,Yj,Yq,Yr]);generalize u1.alloc (.cells #[.int .i64 0,.string ⟨#[]⟩,.bool false,.slice none 0 0] tV)=u2 at *;exact ly
      ·skip;go_simp;have ho:Below u1.heap.size u1 (u1.alloc (.cells #[.int .i64 0,.string ⟨#[]⟩,.bool false,.slice none 0 0] tV)):=(Yg _ _).alloc (Zd _) _;obtain⟨ob,qo⟩:∃ ob,ob=u1.heap.size:=⟨_,rfl⟩;have FB:Blk (u1.alloc (.cells #[.int .i64 0,.string ⟨#[]⟩,.bool false,.slice none 0 0] tV)) ob #[.int .i64 0,.string ⟨#[]⟩,.bool false,.slice none 0 0] tV:=Blk.new' _ _ _ _ qo;have qJ:Hid (w2.heap.size<=ob):=oq;rw[<-qo];clear qo;have zL:=Aa qN ho;clear ho;refine hK.out _ _ (qI _ zL) (fun hHeld=>?_);clear hK K;(try simp only[Act.put,Yj,Yq,Yr]);generalize u1.alloc (.cells #[.int .i64 0,.string ⟨#[]⟩,.bool false,.slice none 0 0] tV)=u2 at *;refine Ag (i:=10) sI rfl (fun K hK=>?_);go_simp;refine (Eu (bA xn) _ (G2.below zL)).mono ?_;rw[Ak];rintro e uu ⟨hm,hu⟩;obtain rfl:u2=uu:=hu.symm
       cases zI:CC xn with
       |none=>
        exact mW
       |some fb=>
        rw[zI] at hm;subst hm;dsimp only;refine hK.out _ _ (qI u2 zL) (fun hHeld=>?_);clear hK K;(try simp only[Act.put,Yj,Yq,Yr]);refine tkp 11 ?_;exact ly
    ·skip;go_simp;have ho:Below WD.heap.size WD (WD.alloc (.cells #[.int .i64 0,.string ⟨#[]⟩,.bool false,.slice none 0 0] tV)):=(Yg _ _).alloc (Zd _) _;obtain⟨ob,qo⟩:∃ ob,ob=WD.heap.size:=⟨_,rfl⟩;have FB:Blk (WD.alloc (.cells #[.int .i64 0,.string ⟨#[]⟩,.bool false,.slice none 0 0] tV)) ob #[.int .i64 0,.string ⟨#[]⟩,.bool false,.slice none 0 0] tV:=Blk.new' _ _ _ _ qo;have qJ:Hid (w2.heap.size<=ob):=oY;rw[<-qo];clear qo;have qN:=Aa qw ho;clear ho;refine hK.out _ _ (qI _ qN) (fun hHeld=>?_);clear hK K;(try simp only[Act.put,Yj,Yq,Yr]);generalize WD.alloc (.cells #[.int .i64 0,.string ⟨#[]⟩,.bool false,.slice none 0 0] tV)=u1 at *;refine Ag (i:=3) sI rfl (fun K hK=>?_);go_simp;refine (Ap (bA xa) _ sH (G2.below qN)).mono ?_;rw[Ak];rintro e u2 ⟨hm,hb⟩;have zL:=Aa qN hb;(try replace FB:=FB.below hb);clear hb
     cases qE:numP xa with
     |none=>
      rw[qE] at hm;obtain⟨tp,pe,rfl⟩:=hm;exact⟨rfl,⟨tp,pe,rfl⟩,zL,oL⟩
     |some n1=>
      rw[qE] at hm;subst hm;dsimp only;refine hK.out _ _ (qI u2 zL) (fun hHeld=>?_);clear hK K;(try simp only[Act.put,Yj,Yq,Yr]);refine Ag (i:=10) sI rfl (fun K hK=>?_);go_simp;refine (Eu (bA xn) _ (G2.below zL)).mono ?_;rw[Ak];rintro e uu ⟨hm,hu⟩;obtain rfl:u2=uu:=hu.symm
      cases zI:CC xn with
      |none=>
       exact mW
      |some fb=>
       rw[zI] at hm;subst hm;dsimp only;refine hK.out _ _ (qI u2 zL) (fun hHeld=>?_);clear hK K;(try simp only[Act.put,Yj,Yq,Yr]);refine tkp 11 ?_;exact ly
  case pan2=>
   exact mc
  case rest2=>
   rintro x u ⟨vb,n1,fb,qE,e4,zI,VB,hU,zn⟩;rw[qE,zI] at zy;have jl:Hid (M=I.map fun q=>(⟨n1,bA xf,fb,q.1⟩,q.2)):=zy.out;simp only[AY,YE,List.foldl_nil,e4];(try simp only[Act.put,Yj,Yq,Yr]);generalize x 8=s8;generalize x 9=s9;generalize x 10=s10;generalize x 11=s11;generalize x 12=s12;generalize x 13=s13;generalize x 14=s14;generalize x 15=s15;generalize x 16=s16;generalize x 17=s17;generalize x 18=s18;generalize x 19=s19;clear e4 x zy;replace D2:=D2.below hU;replace QB:=QB.below hU;replace qv:=BJ qv hU;have zm:=hU.size;clear c1 c2 c3 qI qE zI hU G2 WB;generalize bA xf=nm at *;go_wp2_with fail;go_loopw [3] (fun _ wr=>∃ (its:List It) (irs:List IQ) (rest:List By) (ia:Option Addr) (inn ic:Nat),Blk wr vb #[.int .i64 n1,.string nm,.bool fb,.slice ia inn ic] tV∧Blk wr w.heap.size #[.int .i64 0,.string ⟨#[]⟩,.bool false,.slice none 0 0] tV∧Ac IQ.cs 2 tI wr w.heap.size ia inn ic irs∧Al2 (ItR wr w.heap.size) irs its∧(irs.filterMap fun x=>Di x.a).Nodup∧Dw wr rb rest∧inn+rest.length<=60000∧Hid (I=(itemsP rest.length rest).map fun q=>(its++q.1,q.2))∧w.grownBy wr (some rb)) (fun _ wr=>lnV (wr.cell? ⟨rb,0,none⟩))
   case atStart=>exact⟨[],[],r,none,0,0,VB,QB,aB_,.nil,List.nodup_nil,D2,sH,by show _=_;rw[<-hY.out];cases itemsP r.length r<;>rfl,qv⟩
   case round=>
    clear VB QB D2 qv;obtain⟨its,irs,rest,ia,inn,ic,VB,QB,RI,IL,hN,D,hn,hI,qv⟩:=hrel;have G:=hG.grown qv hrb;have q4:=qv.size;have qa:=CY rb rest ⟨#[102,105,108,101]⟩ wr D sJ;rw[show (⟨#[102,105,108,101]⟩:ByteArray).data.toList=BZ from rfl] at qa;go_wp2_with fail;refine qa.mono ?_;rintro e w1 ⟨rfl,hX⟩;obtain rfl:wr=w1:=hX.symm;clear qa
    cases hj:ahL BZ rest with
    |false=>
     have hz:I=some (its,rest):=by rw[hI.out,Oy hj];simp
     subst hz;have qd:M=some (⟨n1,nm,fb,its⟩,rest):=jl.out;subst qd;obtain⟨v0,v1,v2,v3⟩:=RU VB;obtain⟨r0,r1,r2,r3⟩:=RU QB;have g0:=QB.frozen 0;have g1:=QB.frozen 1;have g2:=QB.frozen 2;have g3:=QB.frozen 3;go_wp2;obtain⟨F9,zE⟩:=TK QB (.int .i64 n1) (.string nm) (.bool fb) (.slice ia inn ic);have he:=aa_ QB;have h8:=RI.ty zE he sJ;have IL9:Al2 (ItR _ w.heap.size) irs its:=IL.imp fun _ _ _ h=>h.ty zE he sJ;have D9:=D.ty zE he sJ sJ;have hq:=Bk qv zE (fun k e=>by cases e;exact .inl (Zd _));generalize (((wr.setCell ⟨w.heap.size,0,none⟩ (.int .i64 n1)).setCell ⟨w.heap.size,1,none⟩ (.string nm)).setCell ⟨w.heap.size,2,none⟩ (.bool fb)).setCell ⟨w.heap.size,3,none⟩ (.slice ia inn ic)=W8 at *;refine YW (results_cell_row rfl _ W8 w.heap.size _ _ _ _ rfl F9 underlying115 rfl sI) rfl ?_;exact⟨⟨_,rfl,⟨ia,inn,ic,irs,rfl,h8,IL9,hN⟩,D9⟩,hq⟩
    |true=>
     cases rest with
     |nil=>cases hj
     |cons l2 r2=>
      have hL:ahP BZ l2=true:=hj;have q:=DS rb (l2::r2) ⟨#[102,105,108,101]⟩ 1 wr D G hrb sJ sH sH;rw[show (⟨#[102,105,108,101]⟩:ByteArray).data.toList=BZ from rfl] at q;simp only[Zw] at hn;have hA:=hI.out;rw[MC hL] at hA
      cases ht:CP BZ 1 (l2::r2) with
      |none=>
       rw[ht] at q;rw[Sv hL ht] at hA;have hz:I=none:=hA;subst hz;have qd:M=none:=jl.out;exact mT
      |some qq=>
       rw[ht] at q;obtain⟨xi,rfl,qJ⟩:=Sw hL ht;obtain⟨N,hZ⟩:∃ N,Hid (manyP partK ptP r2=N):=⟨_,rfl⟩;have jt:Hid (I=N.bind fun q=>(itemsP q.2.length q.2).map fun s=>(its++(⟨bA xi,q.1⟩:It)::s.1,s.2)):=by
        show _=_;rw[hA,qJ,hZ.out]
        cases N with
        |none=>rfl
        |some q=>simp only[YO];cases itemsP q.2.length q.2<;>rfl
       clear hA qJ ht hI hj;go_wp2_with fail;refine q.mono ?_;rintro e w3 ⟨⟨zv,zz,rfl,_,hh,qp,qr,_,D3⟩,hP⟩;obtain⟨c1,zi⟩:=hh 0 xi rfl;simp only[Zq] at c1;clear hh q;go_wp2_with fail;obtain⟨wo,rfl⟩:∃ x,x=wr:=⟨_,rfl⟩;have hF:Below w3.heap.size w3 (w3.alloc (.cells #[.string (bA xi),.slice none 0 0] tI)):=(Yg _ _).alloc (Zd _) _;obtain⟨xb,hE⟩:∃ xb,xb=w3.heap.size:=⟨_,rfl⟩;have XB:Blk (w3.alloc (.cells #[.string (bA xi),.slice none 0 0] tI)) xb #[.string (bA xi),.slice none 0 0] tI:=Blk.new' _ _ _ _ hE;have q5:wo.heap.size<=xb:=by rw[hE];exact hP.size
       rw[<-hE];clear hE;replace D3:=D3.below hF;have h0:=BJ hP hF;generalize w3.alloc (.cells #[.string (bA xi),.slice none 0 0] tI)=W4 at *;clear hF hP c1 G;generalize bA xi=inm at *;have h5:=D;clear D;go_loopw [3] (fun _ wr=>∃ (ps:List Pt) (rest2:List By) (pa:Option Addr) (pn pc:Nat),Blk wr xb #[.string inm,.slice pa pn pc] tI∧Ac Pt.cs 3 tP wr wo.heap.size pa pn pc ps∧Dw wr rb rest2∧pn+rest2.length<=r2.length∧Hid (N=(manyP partK ptP rest2).map fun q=>(ps++q.1,q.2))∧wo.grownBy wr (some rb)) (fun _ wr=>lnV (wr.cell? ⟨rb,0,none⟩))
       case atStart=>exact⟨[],r2,none,0,0,XB,aB_,D3,sH,by show _=_;rw[<-hZ.out];cases manyP partK ptP r2<;>rfl,h0⟩
       case round=>
        clear XB D3 h0;obtain⟨ps,rest2,pa,pn,pc,XB,R5,D5,ql,hH,qV⟩:=hrel;have hg:=Bk qv qV (fun k e=>by cases e;exact .inr rfl);have G5:=hG.grown hg hrb;have zl:=qV.size;have qa:=CY rb rest2 ⟨#[112,97,114,116]⟩ wr D5 sJ;rw[show (⟨#[112,97,114,116]⟩:ByteArray).data.toList=partK from rfl] at qa;go_wp2_with fail;refine qa.mono ?_;rintro e w1 ⟨rfl,hX⟩;obtain rfl:wr=w1:=hX.symm;clear qa
        cases hj:ahL partK rest2 with
        |false=>
         have hJ:N=some (ps,rest2):=by rw[hH.out,HA _ _ hj];simp
         have h9:Hid (I=(itemsP rest2.length rest2).map fun q=>((its++[(⟨inm,ps⟩:It)])++q.1,q.2)):=by
          show _=_;rw[jt.out,hJ];simp
         have hV:=H7 IL;replace VB:=VB.grown qV sN;replace QB:=QB.grown qV sN;replace RI:=RI.offB qV h1;replace IL:Al2 (ItR wr w.heap.size) irs its:=IL.imp fun _ _ _ h=>h.offB qV h1;obtain⟨v0,v1,v2,v3⟩:=RU VB;have x0:wr.cell? ⟨xb,0,none⟩=some (.string inm):=XB.cell 0;have x1:wr.cell? ⟨xb,1,none⟩=some (.slice pa pn pc):=XB.cell 1;have q2:=hg.size;have hc:Below wr.heap.size wr (wr.alloc (.cells (IQ.cs (⟨inm,pa,pn,pc⟩:IQ)).toArray tI)):=(Yg _ _).alloc (Zd _) _;go_wp2_with (at_builtin;refine ag_ rfl (fun K hK=>mX_ _ _ 113 rfl w.heap.size tI i0 (.agg #[.string .empty,.slice none 0 0]) 40 underlying113 qf q9 za zb rfl sJ GX Qn ia inn ic _ rfl (RI.alloc _) _ 1 1 [(⟨inm,pa,pn,pc⟩:IQ)] rfl (CK GX _ (⟨inm,pa,pn,pc⟩:IQ) _ _ rfl) (fun ad h=>sV) (fun h=>sY) (inn+1) rfl sO sH sN (fun a4 cap4 w4 R4 hf hO=>hK _ _ (Jv.out ?_))));refine Jv.mk ?_;have he:=(RI.below hc).rowTy (m:=inn) (k:=ic);have hC:=(VB.below hc).ty hf he sJ;have h7:=(QB.below hc).ty hf he sJ;have D6:=(D5.below hc).ty hf he sJ sJ;have IL5:Al2 (ItR w4 w.heap.size) irs its:=IL.imp fun _ _ _ h=>(h.below hc).ty hf he sJ;have P5:=((R5.mono q4).below hc).ty hf he sJ;have NN:((irs++[(⟨inm,pa,pn,pc⟩:IQ)]).filterMap fun x=>Di x.a).Nodup:=by
          rw[GR];refine Ge (o:=none) (H:=wo.heap.size) (by simpa using hN) hV (fun b e=>.inr ?_);change Di pa=some b at e
          cases hW:pa with
          |none=>rw[hW] at e;cases e
          |some ad=>
           rw[hW] at e;obtain rfl:=Zi e;exact (R5.block ad hW).1
         have hS:=Bk (BJ hg hc) hf (fun k e=>.inl (CI (fun ad e=>(RI.block ad e).1) k e));have p3:=hC.cell 3;have q3:=hC.frozen 3;clear he hf hO hc VB QB RI IL XB R5 x0 x1 v0 v1 v2 v3 D5 qV hg G5;go_wp2;have hx:w4.grownBy (w4.setCell ⟨vb,3,none⟩ (.slice a4 (inn+1) cap4)) (some vb):=af_ (Yh _ _) _ _;have hD:=aa_ hC;have V9:Blk (w4.setCell ⟨vb,3,none⟩ (.slice a4 (inn+1) cap4)) vb #[.int .i64 n1,.string nm,.bool fb,.slice a4 (inn+1) cap4] tV:=by simpa using hC.set 3 (.slice a4 (inn+1) cap4)
         have Q9:=h7.grown hx sN;have R9:=R4.ty hx hD sJ;have IL9:Al2 (ItR (w4.setCell ⟨vb,3,none⟩ (.slice a4 (inn+1) cap4)) w.heap.size) (irs++[(⟨inm,pa,pn,pc⟩:IQ)]) (its++[(⟨inm,ps⟩:It)]):=(IL5.imp fun _ _ _ h=>h.ty hx hD sJ).snoc ⟨rfl,P5.ty hx hD sJ⟩;have D9:=D6.ty hx hD sJ sJ;have hq:=Bk hS hx (fun k e=>by cases e;exact .inl sH);generalize w4.setCell ⟨vb,3,none⟩ (.slice a4 (inn+1) cap4)=W9 at *;go_roundw
         case rel=>exact⟨its++[(⟨inm,ps⟩:It)],irs++[(⟨inm,pa,pn,pc⟩:IQ)],rest2,a4,inn+1,cap4,V9,Q9,R9,IL9,NN,D9,sH,h9,hq⟩
         case measure=>(rw[D9.len,h5.len];simp only[Zw];omega)
        |true=>
         cases rest2 with
         |nil=>cases hj
         |cons l3 r3=>
          have hp:ahP partK l3=true:=hj;have q:=DS rb (l3::r3) ⟨#[112,97,114,116]⟩ 3 wr D5 G5 hrb sJ sH sH;rw[show (⟨#[112,97,114,116]⟩:ByteArray).data.toList=partK from rfl] at q;simp only[Zw] at ql;have hw:=hH.out;rw[Ga hp] at hw
          cases ht:CP partK 3 (l3::r3) with
          |none=>
           rw[ht] at q;rw[SQ hp ht] at hw;have hJ:N=none:=hw;subst hJ;have hz:I=none:=jt.out;subst hz;have qd:M=none:=jl.out;subst qd;go_wp2_with fail;refine q.mono ?_;rintro e w2 ⟨⟨tp,pe,rfl⟩,zo⟩;go_wp2;exact⟨rfl,⟨tp,pe,rfl⟩,Bk hg zo (fun k e=>by cases e;exact .inr rfl)⟩
          |some qq=>
           rw[ht] at q;obtain⟨xp,xq,xs,rfl,h2⟩:=SR hp ht;rw[h2] at hw;have k5:Hid (N=((numP xp).bind fun a=>(numP xq).bind fun f=>(numP xs).map fun n=>(⟨a,f,n⟩:Pt)).bind fun x=>(manyP partK ptP r3).map fun q=>(ps++x::q.1,q.2)):=by
            show _=_;rw[hw];generalize ((numP xp).bind fun a=>(numP xq).bind fun f=>(numP xs).map fun n=>(⟨a,f,n⟩:Pt))=o
            cases o with
            |none=>rfl
            |some x=>cases manyP partK ptP r3<;>rfl
           clear hw h2 hH hj ht;go_wp2_with fail;refine q.mono ?_;rintro e w5 ⟨⟨hk,z0,rfl,_,hh,qs,q0,⟨zc,WB5⟩,D6⟩,hB⟩;obtain⟨d1,y1⟩:=hh 0 xp rfl;obtain⟨d2,y2⟩:=hh 1 xq rfl;obtain⟨d3,y3⟩:=hh 2 xs rfl;simp only[Zq,Nat.reduceAdd] at d1 d2 d3;clear hh q;have h6:=D5;replace D5:=D6;clear D6;replace G5:=G5.grown hB hrb;replace XB:=XB.grown hB sN;replace R5:=R5.offB hB sH;replace qV:=Bk qV hB (fun k e=>by cases e;exact .inr rfl);clear hB hg;go_upto_region 7 with fail;have qw:Below w5.heap.size w5 w5.drew:=(Yg _ _).drew;replace d1:=Ab qw d1;replace d2:=Ab qw d2;replace d3:=Ab qw d3;replace WB5:=WB5.below qw;replace D5:=D5.below qw;replace G5:=G5.below qw;replace R5:=R5.below qw;replace XB:=XB.below qw;replace qV:=BJ qV qw;have qc:(fun u=>u.cell? ⟨xb,1,none⟩=some (.slice pa pn pc)∧u.cell? ⟨hk,1,none⟩=some (.string (bA xp))∧u.cell? ⟨hk,2,none⟩=some (.string (bA xq))∧u.cell? ⟨hk,3,none⟩=some (.string (bA xs))) w5.drew:=⟨XB.cell 1,d1,d2,d3⟩;refine ar_ (S:=(fun u=>u.cell? ⟨xb,1,none⟩=some (.slice pa pn pc)∧u.cell? ⟨hk,1,none⟩=some (.string (bA xp))∧u.cell? ⟨hk,2,none⟩=some (.string (bA xq))∧u.cell? ⟨hk,3,none⟩=some (.string (bA xs)))) 18 sI sI ?_;generalize w5.drew=y0 at *;clear qw;refine tk 0 ?_;refine tk 1 ?_;refine tk 2 ?_;refine tk 3 ?_;refine tk 4 ?_;refine tk 6 ?_;refine tk 7 ?_;refine tk 8 ?_;refine tk 10 ?_;refine tk 11 ?_;refine tk 12 ?_;refine Ag (i:=5) sI rfl (fun K hK=>?_);go_simp;refine (Ap (bA xp) _ sH G5).mono ?_;rw[Ak];rintro e z1 ⟨hm,hb⟩;replace d1:=Ab hb d1;replace d2:=Ab hb d2;replace d3:=Ab hb d3;replace WB5:=WB5.below hb;replace D5:=D5.below hb;replace G5:=G5.below hb;replace R5:=R5.below hb;replace XB:=XB.below hb;replace qV:=BJ qV hb;clear hb
           cases hr:numP xp with
           |none=>
            rw[hr] at hm k5;exact lU
           |some n1'=>
            rw[hr] at hm;subst hm;dsimp only;refine hK.out _ _ ⟨XB.cell 1,d1,d2,d3⟩ (fun hHeld=>?_);clear hK K;(try simp only[Act.put,Yj,Yq,Yr]);refine Ag (i:=9) sI rfl (fun K hK=>?_);go_simp;refine (Ap (bA xq) _ sH G5).mono ?_;rw[Ak];rintro e z2 ⟨hm,hb⟩;replace d1:=Ab hb d1;replace d2:=Ab hb d2;replace d3:=Ab hb d3;replace WB5:=WB5.below hb;replace D5:=D5.below hb;replace G5:=G5.below hb;replace R5:=R5.below hb;replace XB:=XB.below hb;replace qV:=BJ qV hb;clear hb
            cases hs:numP xq with
            |none=>
             rw[hs] at hm k5;exact lU
            |some n2'=>
             rw[hs] at hm;subst hm;dsimp only;refine hK.out _ _ ⟨XB.cell 1,d1,d2,d3⟩ (fun hHeld=>?_);clear hK K;(try simp only[Act.put,Yj,Yq,Yr]);refine Ag (i:=13) sI rfl (fun K hK=>?_);go_simp;refine (Ap (bA xs) _ sH G5).mono ?_;rw[Ak];rintro e z3 ⟨hm,hb⟩;replace d1:=Ab hb d1;replace d2:=Ab hb d2;replace d3:=Ab hb d3;replace WB5:=WB5.below hb;replace D5:=D5.below hb;replace G5:=G5.below hb;replace R5:=R5.below hb;replace XB:=XB.below hb;replace qV:=BJ qV hb;clear hb
             cases hv:numP xs with
             |none=>
              rw[hv] at hm k5;exact lU
             |some n3'=>
              rw[hv] at hm;subst hm;dsimp only;refine hK.out _ _ ⟨XB.cell 1,d1,d2,d3⟩ (fun hHeld=>?_);clear hK K;(try simp only[Act.put,Yj,Yq,Yr]);refine tk 14 ?_;refine Ag (i:=15) sI rfl (fun K hK=>?_);go_simp;have hc:Below z3.heap.size z3 (z3.alloc (.cells (Pt.cs (⟨n1',n2',n3'⟩:Pt)).toArray tP)):=(Yg _ _).alloc (Zd _) _;have L4:=CK Ib z3 (⟨n1',n2',n3'⟩:Pt) tP _ rfl;replace d1:=Ab hc d1;replace d2:=Ab hc d2;replace d3:=Ab hc d3;replace WB5:=WB5.below hc;replace D5:=D5.below hc;replace R5:=R5.below hc;replace XB:=XB.below hc;replace qV:=BJ qV hc;change K _ (z3.alloc (.cells (Pt.cs (⟨n1',n2',n3'⟩:Pt)).toArray tP));generalize z3.alloc (.cells (Pt.cs (⟨n1',n2',n3'⟩:Pt)).toArray tP)=z4 at *;clear hc;refine hK.out _ _ ⟨XB.cell 1,d1,d2,d3⟩ (fun hHeld=>?_);clear hK K;(try simp only[Act.put,Yj,Yq,Yr]);refine Ag (i:=16) sI rfl (fun K hK=>?_);refine aJ_ rfl (mX_ _ _ 123 rfl wo.heap.size tP i1 (.agg #[.int .i64 0,.int .i64 0,.int .i64 0]) 24 underlying123 qi q6 q7 q8 rfl sJ Ib cI_ pa pn pc _ rfl R5 _ 1 1 [(⟨n1',n2',n3'⟩:Pt)] rfl L4 (fun ad h=>sV) (fun h=>sY) (pn+1) rfl sO sH (by have:=qV.size;omega) (fun a4 cap4 w4 R4 hf hO=>?_));have he:=R5.rowTy (m:=pn) (k:=pc);have hy:=XB.ty hf he sJ;have D6:=D5.ty hf he sJ sJ;have WB6:=WB5.ty hf he sJ;have e1:w4.cell? ⟨hk,1,none⟩=some (.string (bA xp)):=by rw[WB6.cell,<-WB5.cell];exact d1
              have e2:w4.cell? ⟨hk,2,none⟩=some (.string (bA xq)):=by rw[WB6.cell,<-WB5.cell];exact d2
              have e3:w4.cell? ⟨hk,3,none⟩=some (.string (bA xs)):=by rw[WB6.cell,<-WB5.cell];exact d3
              have hQ:=Bk qV hf (fun k e=>.inl (CI (fun ad e=>(R5.block ad e).1) k e));have qb:Hid (N=(manyP partK ptP r3).map fun q=>((ps++[(⟨n1',n2',n3'⟩:Pt)])++q.1,q.2)):=by
               show _=_;rw[k5.out,hr,hs,hv];show (manyP partK ptP r3).map _=_;simp
              refine hK.out _ _ ⟨hy.cell 1,e1,e2,e3⟩ (fun hHeld=>?_);clear hK K;(try simp only[Act.put,Yj,Yq,Yr]);refine tk 17 ?_;have p1:=hy.cell 1;have q1:=hy.frozen 1;clear he hf hO XB R5 D5 WB5 WB6 d1 d2 d3 e1 e2 e3 qV L4 G5 hHeld;refine wpAnyH_done sI ?_ _;refine lastL rfl ?_;go_wp2;have hT:w4.grownBy (w4.setCell ⟨xb,1,none⟩ (.slice a4 (pn+1) cap4)) (some xb):=af_ (Yh _ _) _ _;have h3:=aa_ hy;have X9:Blk (w4.setCell ⟨xb,1,none⟩ (.slice a4 (pn+1) cap4)) xb #[.string inm,.slice a4 (pn+1) cap4] tI:=by simpa using hy.set 1 (.slice a4 (pn+1) cap4)
              have R9:=R4.ty hT h3 sJ;have D9:=D6.ty hT h3 sJ sJ;have hR:=Bk hQ hT (fun k e=>by cases e;exact .inl q5);generalize w4.setCell ⟨xb,1,none⟩ (.slice a4 (pn+1) cap4)=W9 at *;go_roundw
              case rel=>exact⟨ps++[(⟨n1',n2',n3'⟩:Pt)],r3,a4,pn+1,cap4,X9,R9,D9,sH,qb,hR⟩
              case measure=>(rw[D9.len,h6.len];simp)
end Go.Proofs.YteejlahappbalaaGreatDoor
