/- Texts of pools, read and written; what is drawn. -/
import Derived.Test.YteejlahappbalaaGreatDoorU37
import Derived.Test.YteejlahappbalaaGreatDoorU38
set_option maxHeartbeats 20000000
set_option maxRecDepth 100000
namespace Go.Proofs.YteejlahappbalaaGreatDoor
open Go Go.RowKit Go.BigFrame Tryz
theorem MA (rb:Nat)(ls:List By)(w:World)(h:Dw w rb ls)(hG:Glb w)(hrb:9<=rb)(hl:ls.length<=60000) :
  Calls prog 52 #[.pointer (some ⟨rb,0,none⟩)] w fun e w'=>(match Ff ls with
   |none=>Pan e
   |some q=>∃ v,e=.returned v∧AK w.heap.size w' v q.1∧Dw w' rb q.2)∧w.grownBy w' (some rb):=by
 obtain⟨M,hM⟩:∃ M,Hid (Ff ls=M):=⟨_,rfl⟩;rw[hM.out];have hw:=h.lt;obtain⟨i0,q7,zv,zz,h9⟩:=info_parts TB;obtain⟨i1,q8,zl,zm,zn⟩:=info_parts TE;have qG:Below w.heap.size w (w.alloc (.cells #[.int .i64 0,.int .i64 0,.slice none 0 0,.slice none 0 0,.slice none 0 0,.slice none 0 0] tPo)):=(Yg _ _).alloc (Zd _) _;have QB:=Blk.new w #[.int .i64 0,.int .i64 0,.slice none 0 0,.slice none 0 0,.slice none 0 0,.slice none 0 0] tPo;have D0:=h.below qG;have G0:=hG.below qG;have q:=DS rb ls ⟨#[112,111,111,108]⟩ 2 _ D0 G0 hrb sJ sH sH;rw[show (⟨#[112,111,111,108]⟩:ByteArray).data.toList=Cj from rfl] at q;go_enter func52,ntmps52;go_wp2_with fail;generalize w.alloc (.cells #[.int .i64 0,.int .i64 0,.slice none 0 0,.slice none 0 0,.slice none 0 0,.slice none 0 0] tPo)=W0 at *;refine q.mono ?_;clear q
 cases ht:CP Cj 2 ls with
 |none=>
  rintro e w2 ⟨⟨tp,pe,rfl⟩,zo⟩;have qd:M=none:=by rw[<-hM.out,MN ht]
  exact pE
 |some qq=>
  obtain⟨l,r,xa,xn,rfl,rfl,qp⟩:=MO ht;obtain⟨X,hZ⟩:∃ X,Hid (manyP exK exP r=X):=⟨_,rfl⟩;have zy:Hid (M=((numP xa).bind fun a=>(numP xn).map fun b=>(a,b)).bind fun h=>X.bind fun x=>fV h.1 h.2 x.1 x.2):=by
   show _=_;rw[<-hM.out,qp,hZ.out]
  clear qp ht hM;simp only[Zw] at hl;rintro e w2 ⟨⟨wb,wc,rfl,_,hA,zb,zc,⟨z9,WB⟩,D2⟩,zo⟩;obtain⟨c1,z1⟩:=hA 0 xa rfl;obtain⟨c2,z2⟩:=hA 1 xn rfl;simp only[Zq,Nat.reduceAdd] at c1 c2;clear hA;have G2:=G0.grown zo hrb;have qv:=Bk (CD (row:=some rb) qG) zo (fun k e=>by cases e;exact .inr rfl);replace QB:=QB.grown zo sN;have z6:w.heap.size<w2.heap.size:=QB.lt;clear zo D0 G0 qG;go_upto_region 2 with fail;have qI:∀ u,Below w2.heap.size w2 u->(fun u=>u.cell? ⟨wb,1,none⟩=some (.string (bA xa))∧u.cell? ⟨wb,2,none⟩=some (.string (bA xn))) u:=fun u hu=>⟨Ab hu c1,Ab hu c2⟩;refine FO (fun u=>u.cell? ⟨wb,1,none⟩=some (.string (bA xa))∧u.cell? ⟨wb,2,none⟩=some (.string (bA xn))) 11 [7,8,9,10,11,12,13,14,15,4] (fun x u=>∃ pb n1 n2,numP xa=some n1∧x 4=.pointer (some ⟨pb,0,none⟩)∧numP xn=some n2∧Blk u pb #[.int .i64 n1,.int .i64 n2,.slice none 0 0,.slice none 0 0,.slice none 0 0,.slice none 0 0] tPo∧Below w2.heap.size w2 u∧w2.heap.size<=pb) (fun c u=>(∃ tp pe,c=[{v:=.iface tp pe,recovered:=false}])∧Below w2.heap.size w2 u∧(numP xa=none∨numP xn=none)) sI rfl ?walk2 ?rest2 ?pan2
  case walk2=>
   have qw:Below w2.heap.size w2 w2.drew:=(Yg _ _).drew;generalize w2.drew=WD at qw ⊢;have qf:=qI WD qw;refine tkp 0 ?_;refine tkp 1 ?_;refine tkp 2 ?_;refine tkp 4 ?_;refine tkp 5 ?_;refine tkp 6 ?_;refine Gv (i:=3) (j:=9) sI rfl rfl (fun K hK=>?_) (fun K hK=>?_)
   ·skip;go_simp;refine (Ap (bA xa) _ sH (G2.below qw)).mono ?_;rw[Ak];rintro e u1 ⟨hm,hb⟩;have qN:=Aa qw hb;(try replace FB:=FB.below hb);clear hb
    cases qE:numP xa with
    |none=>
     rw[qE] at hm;obtain⟨tp,pe,rfl⟩:=hm;exact⟨rfl,⟨tp,pe,rfl⟩,qN,fw⟩
    |some n1=>
     rw[qE] at hm;subst hm;dsimp only;refine hK.out _ _ (qI u1 qN) (fun hHeld=>?_);clear hK K;(try simp only[Act.put,Yj,Yq,Yr]);refine Gv (i:=7) (j:=9) sI rfl rfl (fun K hK=>?_) (fun K hK=>?_)
     ·skip;go_simp;refine (Ap (bA xn) _ sH (G2.below qN)).mono ?_;rw[Ak];rintro e u2 ⟨hm,hb⟩;have ho:=Aa qN hb;(try replace FB:=FB.below hb);clear hb
      cases qC:numP xn with
      |none=>
       rw[qC] at hm;obtain⟨tp,pe,rfl⟩:=hm;exact⟨rfl,⟨tp,pe,rfl⟩,ho,(by first | exact .inr qC | rfl | exact .inr rfl)⟩
      |some n2=>
       rw[qC] at hm;subst hm;dsimp only;refine hK.out _ _ (qI u2 ho) (fun hHeld=>?_);clear hK K;(try simp only[Act.put,Yj,Yq,Yr]);refine tkp 8 ?_;refine Ag (i:=9) sI rfl (fun K hK=>?_);go_simp;have hz:Below u2.heap.size u2 (u2.alloc (.cells #[.int .i64 0,.int .i64 0,.slice none 0 0,.slice none 0 0,.slice none 0 0,.slice none 0 0] tPo)):=(Yg _ _).alloc (Zd _) _;obtain⟨ob,qo⟩:∃ ob,ob=u2.heap.size:=⟨_,rfl⟩;have FB:Blk (u2.alloc (.cells #[.int .i64 0,.int .i64 0,.slice none 0 0,.slice none 0 0,.slice none 0 0,.slice none 0 0] tPo)) ob #[.int .i64 0,.int .i64 0,.slice none 0 0,.slice none 0 0,.slice none 0 0,.slice none 0 0] tPo:=Blk.new' _ _ _ _ qo;have qJ:Hid (w2.heap.size<=ob):=by show _<=_;rw[qo];exact ho.size
       rw[<-qo];clear qo;have zr:=Aa ho hz;clear hz;refine hK.out _ _ (qI _ zr) (fun hHeld=>?_);clear hK K;(try simp only[Act.put,Yj,Yq,Yr]);generalize u2.alloc (.cells #[.int .i64 0,.int .i64 0,.slice none 0 0,.slice none 0 0,.slice none 0 0,.slice none 0 0] tPo)=u3 at *;exact lv
     ·skip;go_simp;have hz:Below u1.heap.size u1 (u1.alloc (.cells #[.int .i64 0,.int .i64 0,.slice none 0 0,.slice none 0 0,.slice none 0 0,.slice none 0 0] tPo)):=(Yg _ _).alloc (Zd _) _;obtain⟨ob,qo⟩:∃ ob,ob=u1.heap.size:=⟨_,rfl⟩;have FB:Blk (u1.alloc (.cells #[.int .i64 0,.int .i64 0,.slice none 0 0,.slice none 0 0,.slice none 0 0,.slice none 0 0] tPo)) ob #[.int .i64 0,.int .i64 0,.slice none 0 0,.slice none 0 0,.slice none 0 0,.slice none 0 0] tPo:=Blk.new' _ _ _ _ qo;have qJ:Hid (w2.heap.size<=ob):=oq;rw[<-qo];clear qo;have ho:=Aa qN hz;clear hz;refine hK.out _ _ (qI _ ho) (fun hHeld=>?_);clear hK K;(try simp only[Act.put,Yj,Yq,Yr]);generalize u1.alloc (.cells #[.int .i64 0,.int .i64 0,.slice none 0 0,.slice none 0 0,.slice none 0 0,.slice none 0 0] tPo)=u2 at *;refine Ag (i:=7) sI rfl (fun K hK=>?_);go_simp;refine (Ap (bA xn) _ sH (G2.below ho)).mono ?_;rw[Ak];rintro e u3 ⟨hm,hb⟩;have zr:=Aa ho hb;(try replace FB:=FB.below hb);clear hb
      cases qC:numP xn with
      |none=>
       exact pt
      |some n2=>
       rw[qC] at hm;subst hm;dsimp only;refine hK.out _ _ (qI u3 zr) (fun hHeld=>?_);clear hK K;(try simp only[Act.put,Yj,Yq,Yr]);refine tkp 8 ?_;exact lv
   ·skip;go_simp;have hz:Below WD.heap.size WD (WD.alloc (.cells #[.int .i64 0,.int .i64 0,.slice none 0 0,.slice none 0 0,.slice none 0 0,.slice none 0 0] tPo)):=(Yg _ _).alloc (Zd _) _;obtain⟨ob,qo⟩:∃ ob,ob=WD.heap.size:=⟨_,rfl⟩;have FB:Blk (WD.alloc (.cells #[.int .i64 0,.int .i64 0,.slice none 0 0,.slice none 0 0,.slice none 0 0,.slice none 0 0] tPo)) ob #[.int .i64 0,.int .i64 0,.slice none 0 0,.slice none 0 0,.slice none 0 0,.slice none 0 0] tPo:=Blk.new' _ _ _ _ qo;have qJ:Hid (w2.heap.size<=ob):=oY;rw[<-qo];clear qo;have qN:=Aa qw hz;clear hz;refine hK.out _ _ (qI _ qN) (fun hHeld=>?_);clear hK K;(try simp only[Act.put,Yj,Yq,Yr]);generalize WD.alloc (.cells #[.int .i64 0,.int .i64 0,.slice none 0 0,.slice none 0 0,.slice none 0 0,.slice none 0 0] tPo)=u1 at *;refine Ag (i:=3) sI rfl (fun K hK=>?_);go_simp;refine (Ap (bA xa) _ sH (G2.below qN)).mono ?_;rw[Ak];rintro e u2 ⟨hm,hb⟩;have ho:=Aa qN hb;(try replace FB:=FB.below hb);clear hb
    cases qE:numP xa with
    |none=>
     rw[qE] at hm;obtain⟨tp,pe,rfl⟩:=hm;exact⟨rfl,⟨tp,pe,rfl⟩,ho,fw⟩
    |some n1=>
     rw[qE] at hm;subst hm;dsimp only;refine hK.out _ _ (qI u2 ho) (fun hHeld=>?_);clear hK K;(try simp only[Act.put,Yj,Yq,Yr]);refine Ag (i:=7) sI rfl (fun K hK=>?_);go_simp;refine (Ap (bA xn) _ sH (G2.below ho)).mono ?_;rw[Ak];rintro e u3 ⟨hm,hb⟩;have zr:=Aa ho hb;(try replace FB:=FB.below hb);clear hb
     cases qC:numP xn with
     |none=>
      exact pt
     |some n2=>
      rw[qC] at hm;subst hm;dsimp only;refine hK.out _ _ (qI u3 zr) (fun hHeld=>?_);clear hK K;(try simp only[Act.put,Yj,Yq,Yr]);refine tkp 8 ?_;exact lv
  case pan2=>
   exact mc
  case rest2=>
   rintro x u ⟨pb,n1,n2,qE,e4,qC,PB,hU,z5⟩;rw[qE,qC] at zy;have hP:Hid (M=X.bind fun x=>fV n1 n2 x.1 x.2):=zy.out;simp only[AY,YE,List.foldl_nil,e4];(try simp only[Act.put,Yj,Yq,Yr]);generalize x 7=s7;generalize x 8=s8;generalize x 9=s9;generalize x 10=s10;generalize x 11=s11;generalize x 12=s12;generalize x 13=s13;generalize x 14=s14;generalize x 15=s15;clear e4 x zy;replace D2:=D2.below hU;replace QB:=QB.below hU;replace qv:=BJ qv hU;clear c1 c2 qI qE qC hU G2 WB;go_wp2_with fail;go_loopw [3] (fun _ wr=>∃ (ex:List Ex) (rest:List By) (ea:Option Addr) (en ec:Nat),Blk wr pb #[.int .i64 n1,.int .i64 n2,.slice ea en ec,.slice none 0 0,.slice none 0 0,.slice none 0 0] tPo∧Blk wr w.heap.size #[.int .i64 0,.int .i64 0,.slice none 0 0,.slice none 0 0,.slice none 0 0,.slice none 0 0] tPo∧Ac Ex.cs 2 tE wr w.heap.size ea en ec ex∧Dw wr rb rest∧en+rest.length<=60000∧Hid (X=(manyP exK exP rest).map fun q=>(ex++q.1,q.2))∧w.grownBy wr (some rb)) (fun _ wr=>lnV (wr.cell? ⟨rb,0,none⟩))
   case atStart=>exact⟨[],r,none,0,0,PB,QB,aB_,D2,sH,by show _=_;rw[<-hZ.out];cases manyP exK exP r<;>rfl,qv⟩
   case round=>
    clear PB QB D2 qv;obtain⟨ex,rest,ea,en,ec,PB,QB,RE,D,hn,hX,qv⟩:=hrel;have G:=hG.grown qv hrb;have h8:=qv.size;have qa:=CY rb rest ⟨#[101,120,116,101,110,116]⟩ wr D sJ;rw[show (⟨#[101,120,116,101,110,116]⟩:ByteArray).data.toList=exK from rfl] at qa;go_wp2_with fail;refine qa.mono ?_;rintro e w1 ⟨rfl,h7⟩;obtain rfl:wr=w1:=h7.symm;clear qa
    cases hr:ahL exK rest with
    |true=>
     cases rest with
     |nil=>cases hr
     |cons l2 r2=>
      have hE:ahP exK l2=true:=hr;have q:=DS rb (l2::r2) ⟨#[101,120,116,101,110,116]⟩ 2 wr D G hrb sJ sH sH;rw[show (⟨#[101,120,116,101,110,116]⟩:ByteArray).data.toList=exK from rfl] at q;simp only[Zw] at hn;have hD:=hX.out;rw[Ga hE] at hD
      cases ht:CP exK 2 (l2::r2) with
      |none=>
       rw[ht] at q;rw[Sq hE ht] at hD;have hI:X=none:=hD;subst hI;have qd:M=none:=hP.out;exact mT
      |some qq=>
       rw[ht] at q;obtain⟨xb,xd,rfl,qn⟩:=Ss hE ht;rw[qn] at hD;have h0:Hid (X=((numP xb).map fun n=>(⟨n,bA xd⟩:Ex)).bind fun x=>(manyP exK exP r2).map fun q=>(ex++x::q.1,q.2)):=by
        show _=_;rw[hD];generalize ((numP xb).map fun n=>(⟨n,bA xd⟩:Ex))=o
        cases o with
        |none=>rfl
        |some x=>cases manyP exK exP r2<;>rfl
       clear hD qn hX hr ht;go_wp2_with fail;refine q.mono ?_;rintro e w5 ⟨⟨hH,z8,rfl,_,hA,zd,zi,⟨z0,WB5⟩,D5⟩,hF⟩;obtain⟨d1,y1⟩:=hA 0 xb rfl;obtain⟨d2,y2⟩:=hA 1 xd rfl;simp only[Zq,Nat.reduceAdd] at d1 d2;clear hA q;replace G:=G.grown hF hrb;replace PB:=PB.grown hF sN;replace QB:=QB.grown hF sN;replace RE:=RE.offB hF hw;replace qv:=Bk qv hF (fun k e=>by cases e;exact .inr rfl);clear hF;go_upto_region 5 with fail;have qw:Below w5.heap.size w5 w5.drew:=(Yg _ _).drew;replace d1:=Ab qw d1;replace d2:=Ab qw d2;replace WB5:=WB5.below qw;replace D5:=D5.below qw;replace G:=G.below qw;replace RE:=RE.below qw;replace PB:=PB.below qw;replace QB:=QB.below qw;replace qv:=BJ qv qw;have qf:(fun u=>u.cell? ⟨pb,2,none⟩=some (.slice ea en ec)∧u.cell? ⟨hH,1,none⟩=some (.string (bA xb))∧u.cell? ⟨hH,2,none⟩=some (.string (bA xd))) w5.drew:=⟨PB.cell 2,d1,d2⟩;refine ar_ (S:=(fun u=>u.cell? ⟨pb,2,none⟩=some (.slice ea en ec)∧u.cell? ⟨hH,1,none⟩=some (.string (bA xb))∧u.cell? ⟨hH,2,none⟩=some (.string (bA xd)))) 13 sI sI ?_;generalize w5.drew=y0 at *;clear qw;refine tk 0 ?_;refine tk 1 ?_;refine tk 2 ?_;refine tk 3 ?_;refine tk 4 ?_;refine tk 6 ?_;refine tk 7 ?_;refine tk 8 ?_;refine Ag (i:=5) sI rfl (fun K hK=>?_);go_simp;refine (Ap (bA xb) _ sH G).mono ?_;rw[Ak];rintro e z3 ⟨hm,hb⟩;replace d1:=Ab hb d1;replace d2:=Ab hb d2;replace WB5:=WB5.below hb;replace D5:=D5.below hb;replace RE:=RE.below hb;replace PB:=PB.below hb;replace QB:=QB.below hb;replace qv:=BJ qv hb;clear hb
       cases h5:numP xb with
       |none=>
        rw[h5] at hm h0;obtain⟨tp,pe,rfl⟩:=hm;have hI:X=none:=h0.out;subst hI;have qd:M=none:=hP.out;subst qd;show Fq _ _ _ _ (.panic _) _ _;unfold Fq;go_wp2;exact⟨rfl,⟨tp,pe,rfl⟩,qv⟩
       |some m1=>
        rw[h5] at hm;subst hm;dsimp only;refine hK.out _ _ ⟨PB.cell 2,d1,d2⟩ (fun hHeld=>?_);clear hK K;(try simp only[Act.put,Yj,Yq,Yr]);refine tk 9 ?_;refine Ag (i:=10) sI rfl (fun K hK=>?_);go_simp;have hf:Below z3.heap.size z3 (z3.alloc (.cells (Ex.cs (⟨m1,bA xd⟩:Ex)).toArray tE)):=(Yg _ _).alloc (Zd _) _;have L4:=CK H6 z3 (⟨m1,bA xd⟩:Ex) tE _ rfl;replace d1:=Ab hf d1;replace d2:=Ab hf d2;replace WB5:=WB5.below hf;replace D5:=D5.below hf;replace RE:=RE.below hf;replace PB:=PB.below hf;replace QB:=QB.below hf;replace qv:=BJ qv hf;change K _ (z3.alloc (.cells (Ex.cs (⟨m1,bA xd⟩:Ex)).toArray tE));generalize z3.alloc (.cells (Ex.cs (⟨m1,bA xd⟩:Ex)).toArray tE)=z4 at *;clear hf;refine hK.out _ _ ⟨PB.cell 2,d1,d2⟩ (fun hHeld=>?_);clear hK K;(try simp only[Act.put,Yj,Yq,Yr]);refine Ag (i:=11) sI rfl (fun K hK=>?_);refine aJ_ rfl (mX_ _ _ 29 rfl w.heap.size tE i0 (.agg #[.int .i64 0,.string .empty]) 24 underlying29 q7 zv zz h9 rfl sJ H6 Nv ea en ec _ rfl RE _ 1 1 [(⟨m1,bA xd⟩:Ex)] rfl L4 (fun ad h=>sV) (fun h=>sY) (en+1) rfl sO sH (by have:=qv.size;omega) (fun a4 cap4 w4 R4 hg h3=>?_));have hp:=RE.rowTy (m:=en) (k:=ec);have hq:=PB.ty hg hp sJ;have hR:=QB.ty hg hp sJ;have D6:=D5.ty hg hp sJ sJ;have WB6:=WB5.ty hg hp sJ;have e1:w4.cell? ⟨hH,1,none⟩=some (.string (bA xb)):=by rw[WB6.cell,<-WB5.cell];exact d1
        have e2:w4.cell? ⟨hH,2,none⟩=some (.string (bA xd)):=by rw[WB6.cell,<-WB5.cell];exact d2
        have hB:=Bk qv hg (fun k e=>.inl (CI (fun ad e=>(RE.block ad e).1) k e));have q5:Hid (X=(manyP exK exP r2).map fun q=>((ex++[(⟨m1,bA xd⟩:Ex)])++q.1,q.2)):=by
         show _=_;rw[h0.out,h5];show (manyP exK exP r2).map _=_;simp
        refine hK.out _ _ ⟨hq.cell 2,e1,e2⟩ (fun hHeld=>?_);clear hK K;(try simp only[Act.put,Yj,Yq,Yr]);refine tk 12 ?_;have p1:=hq.cell 2;have q1:=hq.frozen 2;clear hp hg h3 PB QB RE D5 WB5 WB6 d1 d2 e1 e2 qv L4 G hHeld;refine wpAnyH_done sI ?_ _;refine lastL rfl ?_;go_wp2;have hc:w4.grownBy (w4.setCell ⟨pb,2,none⟩ (.slice a4 (en+1) cap4)) (some pb):=af_ (Yh _ _) _ _;have he:=aa_ hq;have P9:Blk (w4.setCell ⟨pb,2,none⟩ (.slice a4 (en+1) cap4)) pb #[.int .i64 n1,.int .i64 n2,.slice a4 (en+1) cap4,.slice none 0 0,.slice none 0 0,.slice none 0 0] tPo:=by simpa using hq.set 2 (.slice a4 (en+1) cap4)
        have Q9:=hR.grown hc sN;have R9:=R4.ty hc he sJ;have D9:=D6.ty hc he sJ sJ;have hs:=Bk hB hc (fun k e=>by cases e;exact .inl sH);generalize w4.setCell ⟨pb,2,none⟩ (.slice a4 (en+1) cap4)=W9 at *;go_roundw
        case rel=>exact⟨ex++[(⟨m1,bA xd⟩:Ex)],r2,a4,en+1,cap4,P9,Q9,R9,D9,sH,q5,hs⟩
        case measure=>(rw[D9.len,D.len];simp)
    |false=>
     have hI:X=some (ex,rest):=by rw[hX.out,HA _ _ hr];simp
     subst hI;obtain⟨V,hW⟩:∃ V,Hid (volsP rest.length rest=V):=⟨_,rfl⟩;have hT:Hid (M=V.bind fun b=>fC n1 n2 ex b.1 b.2):=by show _=_;rw[hP.out,<-hW.out];rfl
     clear hP hX hr hZ;obtain⟨wo,rfl⟩:∃ x,x=wr:=⟨_,rfl⟩;go_wp2_with fail;go_loopw [33] (fun _ wr=>∃ (vs:List Vo) (vr:List VQ) (rest:List By) (va:Option Addr) (vn vc:Nat),Blk wr pb #[.int .i64 n1,.int .i64 n2,.slice ea en ec,.slice va vn vc,.slice none 0 0,.slice none 0 0] tPo∧Blk wr w.heap.size #[.int .i64 0,.int .i64 0,.slice none 0 0,.slice none 0 0,.slice none 0 0,.slice none 0 0] tPo∧Ac Ex.cs 2 tE wr w.heap.size ea en ec ex∧Ac VQ.cs 4 tV wr w.heap.size va vn vc vr∧Al2 (VoR wr w.heap.size) vr vs∧(FT vr).Nodup∧(EX vr).Nodup∧Dw wr rb rest∧vn+rest.length<=60000∧Hid (V=(volsP rest.length rest).map fun q=>(vs++q.1,q.2))∧w.grownBy wr (some rb)) (fun _ wr=>lnV (wr.cell? ⟨rb,0,none⟩))
     case atStart=>exact⟨[],[],rest,none,0,0,PB,QB,RE,aB_,.nil,List.nodup_nil,List.nodup_nil,D,sH,by show _=_;rw[<-hW.out];cases volsP rest.length rest<;>rfl,qv⟩
     case round=>
      have z7:rest.length<=60000:=sH;clear PB QB D qv RE h8 G hn;obtain⟨vs,vr,rest3,va,vn,vc,PB,QB,RE,RV,AL,N1,N2,D,hn,hV,qv⟩:=hrel;have G:=hG.grown qv hrb;have h8:=qv.size;have qa:=CY rb rest3 ⟨#[118,111,108,117,109,101]⟩ wr D sJ;rw[show (⟨#[118,111,108,117,109,101]⟩:ByteArray).data.toList=Ei from rfl] at qa;go_wp2_with fail;refine qa.mono ?_;rintro e w1 ⟨rfl,h7⟩;obtain rfl:wr=w1:=h7.symm;clear qa
      cases hr:ahL Ei rest3 with
      |true=>
       cases rest3 with
       |nil=>cases hr
       |cons l3 r3=>
        have hE:ahP Ei l3=true:=hr;have hQ:=hV.out;rw[O7 hE] at hQ;obtain⟨O,hO⟩:∃ O,Hid (HS l3 r3=O):=⟨_,rfl⟩;rw[hO.out] at hQ;have qm:Hid (V=O.bind fun v=>(volsP v.2.length v.2).map fun s=>(vs++v.1::s.1,s.2)):=by
         show _=_;rw[hQ]
         cases O with
         |none=>rfl
         |some v=>simp only[YO];cases volsP v.2.length v.2<;>rfl
        clear hQ hV hr;simp only[Zw] at hn;go_upto_region 7 with fail;have D0:=D;have qw:Below wr.heap.size wr wr.drew:=(Yg _ _).drew;replace D:=D.below qw;replace G:=G.below qw;replace RE:=RE.below qw;replace RV:=RV.below qw;replace AL:Al2 (VoR wr.drew w.heap.size) vr vs:=AL.imp fun _ _ _ h=>h.below qw;replace PB:=PB.below qw;replace QB:=QB.below qw;replace qv:=BJ qv qw;have qf:(fun u=>u.cell? ⟨pb,3,none⟩=some (.slice va vn vc)) wr.drew:=PB.cell 3;refine ar_ (S:=(fun u=>u.cell? ⟨pb,3,none⟩=some (.slice va vn vc))) 7 sI sI ?_;generalize wr.drew=y0 at *;clear qw;refine tk 0 ?_;refine tk 1 ?_;refine tk 2 ?_;have q:=Kt rb l3 r3 y0 D hE G hrb (by simp only[Zw];omega);rw[hO.out] at q;refine Ag (i:=3) sI rfl (fun K hK=>?_);go_simp;refine q.mono ?_
        cases O with
        |none=>
         rintro e z1 ⟨⟨tp,pe,rfl⟩,qA⟩;have hY:V=none:=qm.out;subst hY;have qd:M=none:=hT.out;subst qd;show Fq _ _ _ _ (.panic _) _ _;unfold Fq;exact sg
        |some ov=>
         obtain⟨o,r4⟩:=ov;rintro e z1 ⟨⟨v,rfl,VM,D5⟩,qA⟩;obtain⟨ia,inn,ic,irs,rfl,RI,IL,NI⟩:=VM.out;have za:r4.length<=r3.length:=by
          have h1:=hO.out;unfold HS at h1
          cases hv:voP l3 with
          |none=>rw[hv] at h1;cases h1
          |some hh=>
           rw[hv] at h1
           cases hi:itemsP r3.length r3 with
           |none=>rw[hi] at h1;cases h1
           |some qi=>
            rw[hi] at h1;obtain⟨_,rfl⟩:=Prod.mk.inj (Zi h1);have:=(FZ hi).1;omega
         have hL:=KO AL;have hJ:=Kx AL;have q0:=qv.size;have NA:(FT (vr++[(⟨o.id,o.nm,o.fx,ia,inn,ic,irs⟩:VQ)])).Nodup:=by
          rw[FU];refine Ge (o:=none) (H:=y0.heap.size) (by simpa using N1) hL (fun b e=>.inr ?_);change Di ia=some b at e
          cases h4:ia with
          |none=>rw[h4] at e;cases e
          |some ad=>
           rw[h4] at e;obtain rfl:=Zi e;exact (RI.block ad h4).1
         have NB:(EX (vr++[(⟨o.id,o.nm,o.fx,ia,inn,ic,irs⟩:VQ)])).Nodup:=by
          rw[FJ,Yf];refine ⟨N2,NI,fun a ha b hb=>?_⟩;have h1:=hJ a ha;have h2:=Nx IL b hb;omega
         replace PB:=PB.grown qA sN;replace QB:=QB.grown qA sN;replace RE:=RE.offB qA hw;replace RV:=RV.offB qA hw;replace AL:Al2 (VoR z1 w.heap.size) vr vs:=AL.imp fun _ _ _ h=>h.offB qA hw;replace qv:=Bk qv qA (fun k e=>by cases e;exact .inr rfl);have EV:VoR z1 w.heap.size (⟨o.id,o.nm,o.fx,ia,inn,ic,irs⟩:VQ) o:=⟨rfl,rfl,rfl,RI.mono q0,IL.imp fun _ _ _ h=>⟨h.nm,h.ps.mono q0⟩⟩;clear qA RI IL NI D G hL hJ VM q;dsimp only;refine hK.out _ _ (PB.cell 3) (fun hHeld=>?_);clear hK K;(try simp only[Act.put,Yj,Yq,Yr]);refine Ag (i:=4) sI rfl (fun K hK=>?_);go_simp;have hf:Below z1.heap.size z1 (z1.alloc (.cells (VQ.cs (⟨o.id,o.nm,o.fx,ia,inn,ic,irs⟩:VQ)).toArray tV)):=(Yg _ _).alloc (Zd _) _;have L4:=CK Hf z1 (⟨o.id,o.nm,o.fx,ia,inn,ic,irs⟩:VQ) tV _ rfl;replace D5:=D5.below hf;replace RE:=RE.below hf;replace RV:=RV.below hf;replace AL:Al2 (VoR (z1.alloc (.cells (VQ.cs (⟨o.id,o.nm,o.fx,ia,inn,ic,irs⟩:VQ)).toArray tV)) w.heap.size) vr vs:=AL.imp fun _ _ _ h=>h.below hf;replace EV:=EV.below hf;replace PB:=PB.below hf;replace QB:=QB.below hf;replace qv:=BJ qv hf;change K _ (z1.alloc (.cells (VQ.cs (⟨o.id,o.nm,o.fx,ia,inn,ic,irs⟩:VQ)).toArray tV));generalize z1.alloc (.cells (VQ.cs (⟨o.id,o.nm,o.fx,ia,inn,ic,irs⟩:VQ)).toArray tV)=z4 at *;clear hf;refine hK.out _ _ (PB.cell 3) (fun hHeld=>?_);clear hK K;(try simp only[Act.put,Yj,Yq,Yr]);refine Ag (i:=5) sI rfl (fun K hK=>?_);refine aJ_ rfl (mX_ _ _ 30 rfl w.heap.size tV i1 (.agg #[.int .i64 0,.string .empty,.bool false,.slice none 0 0]) 56 underlying30 q8 zl zm zn rfl sJ Hf Rx va vn vc _ rfl RV _ 1 1 [(⟨o.id,o.nm,o.fx,ia,inn,ic,irs⟩:VQ)] rfl L4 (fun ad h=>sV) (fun h=>sY) (vn+1) rfl sO sH (by have:=qv.size;omega) (fun a4 cap4 w4 R4 hg h3=>?_));have hp:=RV.rowTy (m:=vn) (k:=vc);have hq:=PB.ty hg hp sJ;have hR:=QB.ty hg hp sJ;have D6:=D5.ty hg hp sJ sJ;have q2:=RE.ty hg hp sJ;have AL6:Al2 (VoR w4 w.heap.size) (vr++[(⟨o.id,o.nm,o.fx,ia,inn,ic,irs⟩:VQ)]) (vs++[o]):=(AL.imp fun _ _ _ h=>h.ty hg hp sJ sJ).snoc (EV.ty hg hp sJ sJ);have hB:=Bk qv hg (fun k e=>.inl (CI (fun ad e=>(RV.block ad e).1) k e));have q4:Hid (V=(volsP r4.length r4).map fun q=>((vs++[o])++q.1,q.2)):=by
          show _=_;rw[qm.out];show (volsP r4.length r4).map _=_;simp
         refine hK.out _ _ (hq.cell 3) (fun hHeld=>?_);clear hK K;(try simp only[Act.put,Yj,Yq,Yr]);refine tk 6 ?_;have p1:=hq.cell 3;have q1:=hq.frozen 3;clear hp hg h3 PB QB RE RV AL EV D5 qv L4 hHeld;refine wpAnyH_done sI ?_ _;refine lastL rfl ?_;go_wp2;have hc:w4.grownBy (w4.setCell ⟨pb,3,none⟩ (.slice a4 (vn+1) cap4)) (some pb):=af_ (Yh _ _) _ _;have he:=aa_ hq;have P9:Blk (w4.setCell ⟨pb,3,none⟩ (.slice a4 (vn+1) cap4)) pb #[.int .i64 n1,.int .i64 n2,.slice ea en ec,.slice a4 (vn+1) cap4,.slice none 0 0,.slice none 0 0] tPo:=by simpa using hq.set 3 (.slice a4 (vn+1) cap4)
         have Q9:=hR.grown hc sN;have q3:=q2.ty hc he sJ;have R9:=R4.ty hc he sJ;have AL9:Al2 (VoR (w4.setCell ⟨pb,3,none⟩ (.slice a4 (vn+1) cap4)) w.heap.size) (vr++[(⟨o.id,o.nm,o.fx,ia,inn,ic,irs⟩:VQ)]) (vs++[o]):=AL6.imp fun _ _ _ h=>h.ty hc he sJ sJ;have D9:=D6.ty hc he sJ sJ;have hs:=Bk hB hc (fun k e=>by cases e;exact .inl sH);generalize w4.setCell ⟨pb,3,none⟩ (.slice a4 (vn+1) cap4)=W9 at *;go_roundw
         case rel=>exact⟨vs++[o],vr++[(⟨o.id,o.nm,o.fx,ia,inn,ic,irs⟩:VQ)],r4,a4,vn+1,cap4,P9,Q9,q3,R9,AL9,NA,NB,D9,sH,q4,hs⟩
         case measure=>(rw[D9.len,D0.len];simp only[Zw];omega)
      |false=>
       have hY:V=some (vs,rest3):=by rw[hV.out,Rv hr];simp
       subst hY;have hC:Hid (M=fC n1 n2 ex vs rest3):=hT.out;clear hT hV hr hW;have q:=HN rb rest3 ⟨#[114,101,102]⟩ wr D G hrb sJ sH;rw[show (⟨#[114,101,102]⟩:ByteArray).data.toList=DK from rfl] at q;unfold fC at hC;go_wp2_with fail;refine q.mono ?_;clear q
       cases h6:manyP DK ctP rest3 with
       |none=>
        rintro e z1 ⟨⟨tp,pe,rfl⟩,qA⟩;rw[h6] at hC;have qd:M=none:=hC.out;subst qd;exact sg
       |some qr=>
        obtain⟨rf,r5⟩:=qr;have q9:=EF h6;simp only at q9;rw[h6] at hC;rintro e z1 ⟨⟨ra,rn,rc,rfl,RR,D5⟩,qA⟩;replace PB:=PB.grown qA sN;replace QB:=QB.grown qA sN;replace RE:=RE.offB qA hw;replace RV:=RV.offB qA hw;replace AL:Al2 (VoR z1 w.heap.size) vr vs:=AL.imp fun _ _ _ h=>h.offB qA hw;replace qv:=Bk qv qA (fun k e=>by cases e;exact .inr rfl);replace RR:=RR.mono h8;have p1:=PB.cell 4;have q1:=PB.frozen 4;clear qA D G;go_upto_region 9 with fail;have hc:z1.grownBy (z1.setCell ⟨pb,4,none⟩ (.slice ra rn rc)) (some pb):=af_ (Yh _ _) _ _;have he:=aa_ PB;have hN:Blk (z1.setCell ⟨pb,4,none⟩ (.slice ra rn rc)) pb #[.int .i64 n1,.int .i64 n2,.slice ea en ec,.slice va vn vc,.slice ra rn rc,.slice none 0 0] tPo:=by simpa using PB.set 4 (.slice ra rn rc)
        have hk:=QB.grown hc sN;have qb:=RE.ty hc he sJ;have qc:=RV.ty hc he sJ;have hS:=RR.ty hc he sJ;have AL2:Al2 (VoR (z1.setCell ⟨pb,4,none⟩ (.slice ra rn rc)) w.heap.size) vr vs:=AL.imp fun _ _ _ h=>h.ty hc he sJ sJ;have D2:=D5.ty hc he sJ sJ;have hj:=Bk qv hc (fun k e=>by cases e;exact .inl sH);generalize z1.setCell ⟨pb,4,none⟩ (.slice ra rn rc)=z2 at *;clear hc he PB QB RE RV RR AL D5 qv p1 q1;have q:=HN rb r5 ⟨#[108,97,116,101]⟩ z2 D2 (hG.grown hj hrb) hrb sJ sH;rw[show (⟨#[108,97,116,101]⟩:ByteArray).data.toList=BQ from rfl] at q;go_wp2_with fail;refine q.mono ?_;clear q
        cases qs:manyP BQ ctP r5 with
        |none=>
         rintro e z3 ⟨⟨tp,pe,rfl⟩,qA⟩;have qd:M=none:=by rw[hC.out];simp[qs]
         subst qd;go_wp2;exact⟨rfl,⟨tp,pe,rfl⟩,Bk hj qA (fun k e=>by cases e;exact .inr rfl)⟩
        |some ql=>
         obtain⟨lt,r6⟩:=ql;have qd:M=some (⟨n1,n2,ex,vs,rf,lt⟩,r6):=by rw[hC.out];simp[qs]
         subst qd;rintro e z3 ⟨⟨la,ln,lc,rfl,RL,D3⟩,qA⟩;have q6:∀ x y,ra=some x->la=some y->x.block≠y.block:=fun x y hx hy=>by
          have h1:=(hS.block x hx).2;have h2:=(RL.block y hy).1;omega
         have h9:=hj.size;have PB:=hN.grown qA sN;have QB:=hk.grown qA sN;have RE:=qb.offB qA hw;have RV:=qc.offB qA hw;have RR:=hS.offB qA hw;have AL:Al2 (VoR z3 w.heap.size) vr vs:=AL2.imp fun _ _ _ h=>h.offB qA hw;have qv:=Bk hj qA (fun k e=>by cases e;exact .inr rfl);replace RL:=RL.mono h9;have p1:=PB.cell 5;have q1:=PB.frozen 5;clear qA hN hk qb qc hS AL2 D2 hj;go_upto_region 10 with fail;have hc:z3.grownBy (z3.setCell ⟨pb,5,none⟩ (.slice la ln lc)) (some pb):=af_ (Yh _ _) _ _;have he:=aa_ PB;have hN:Blk (z3.setCell ⟨pb,5,none⟩ (.slice la ln lc)) pb #[.int .i64 n1,.int .i64 n2,.slice ea en ec,.slice va vn vc,.slice ra rn rc,.slice la ln lc] tPo:=by simpa using PB.set 5 (.slice la ln lc)
         have hk:=QB.grown hc sN;have M2:AK w.heap.size (z3.setCell ⟨pb,5,none⟩ (.slice la ln lc)) (.agg #[.int .i64 n1,.int .i64 n2,.slice ea en ec,.slice va vn vc,.slice ra rn rc,.slice la ln lc]) ⟨n1,n2,ex,vs,rf,lt⟩:=⟨ea,en,ec,va,vn,vc,ra,rn,rc,la,ln,lc,vr,rfl,RE.ty hc he sJ,RV.ty hc he sJ,RR.ty hc he sJ,RL.ty hc he sJ,q6,AL.imp fun _ _ _ h=>h.ty hc he sJ sJ,N1,N2⟩;have D2:=D3.ty hc he sJ sJ;have hj:=Bk qv hc (fun k e=>by cases e;exact .inl sH);generalize z3.setCell ⟨pb,5,none⟩ (.slice la ln lc)=z4 at *;clear hc he PB QB RE RV RR AL D3 qv p1 q1 RL;obtain⟨v0,v1,v2,v3,v4,v5⟩:=Ms hN;obtain⟨r0,r1,r2,r3,r4,r5'⟩:=Ms hk;have g0:=hk.frozen 0;have g1:=hk.frozen 1;have g2:=hk.frozen 2;have g3:=hk.frozen 3;have g4:=hk.frozen 4;have g5:=hk.frozen 5;go_wp2;obtain⟨F9,zE⟩:=Gs hk (.int .i64 n1) (.int .i64 n2) (.slice ea en ec) (.slice va vn vc) (.slice ra rn rc) (.slice la ln lc);have M9:=M2.box zE hk;have D9:=D2.ty zE (aa_ hk) sJ sJ;have hs:=Bk hj zE (fun k e=>by cases e;exact .inl (Zd _));generalize (((((z4.setCell ⟨w.heap.size,0,none⟩ (.int .i64 n1)).setCell ⟨w.heap.size,1,none⟩ (.int .i64 n2)).setCell ⟨w.heap.size,2,none⟩ (.slice ea en ec)).setCell ⟨w.heap.size,3,none⟩ (.slice va vn vc)).setCell ⟨w.heap.size,4,none⟩ (.slice ra rn rc)).setCell ⟨w.heap.size,5,none⟩ (.slice la ln lc)=W8 at *;refine YW (results_cell_row rfl _ W8 w.heap.size _ _ _ _ rfl F9 underlying33 rfl sI) rfl ?_;exact⟨⟨_,rfl,M9,D9⟩,hs⟩
end Go.Proofs.YteejlahappbalaaGreatDoor
